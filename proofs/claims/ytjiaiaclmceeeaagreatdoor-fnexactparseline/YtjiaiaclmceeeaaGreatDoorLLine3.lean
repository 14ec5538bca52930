import Derived.Test.YtjiaiaclmceeeaaGreatDoorLLine2
import Derived.Laws.EntriesVeiled
namespace Go.Proofs.YtjiaiaclmceeeaaGreatDoor
open Go.ChangeShapes Go.WideShapes Go.ChangeAt Go.RowKit
set_option linter.unusedVariables false
set_option linter.unusedSimpArgs false

theorem readLine_any (s : ByteArray) (hs : s.size ≤ 1048576) (w0 w : World) (MB : Nat) (L : List Ent) (hO : OrdAt w0 w MB L) (hT : L.map (fun e => (e.key, e.op, e.kinds)) = table) : Calls Tryz.prog 12 #[.map (some MB), .string s] w (LineP s L w) := by
  by_cases h : 1000 < s.size
  · exact readLine_long s hs h w0 w MB L
  by_cases hg : Good s
  · rcases row_is (wordAt s 0) with ⟨h1, _⟩ | ⟨op, ks, h1, h2, h3, h4, _⟩
    · exact readLine_no s (by omega) w0 w MB L hO hT (.inr h1)
    · exact readLine_at s (by omega) w0 w MB L hO hT hg op ks h1 h3 h4 h2
  · exact readLine_no s (by omega) w0 w MB L hO hT (.inl hg)
theorem put6 {w : World} {A2 : Nat} {t4 : TypeId} {x0 x1 x2 x3 x4 x5 : Value} (h4 : w.heap[A2]? = some (.cells #[x0, x1, x2, x3, x4, x5] t4 (0, 0))) (a0 a1 a2 a3 a4 a5 : Value) (X : World) (hX : X = ((((((w.setCell ⟨A2, 0, none⟩ a0).setCell ⟨A2, 1, none⟩ a1).setCell ⟨A2, 2, none⟩ a2).setCell ⟨A2, 3, none⟩ a3).setCell ⟨A2, 4, none⟩ a4).setCell ⟨A2, 5, none⟩ a5)) :
    X.heap[A2]? = some (.cells #[a0, a1, a2, a3, a4, a5] t4 (0, 0)) ∧ ∀ {B : Nat} {w0 : World}, Below B w0 w → B ≤ A2 → Below B w0 X := by
  subst hX
  have k0 := heap_setCell_same w A2 0 _ _ a0 h4
  have k1 := heap_setCell_same _ A2 1 _ _ a1 k0
  have k2 := heap_setCell_same _ A2 2 _ _ a2 k1
  have k3 := heap_setCell_same _ A2 3 _ _ a3 k2
  have k4 := heap_setCell_same _ A2 4 _ _ a4 k3
  have k5 := heap_setCell_same _ A2 5 _ _ a5 k4
  exact ⟨k5, fun {B w0} hb h1 => (((((hb.setCell (p := ⟨A2, 0, none⟩) h1 _).setCell (p := ⟨A2, 1, none⟩) h1 _).setCell (p := ⟨A2, 2, none⟩) h1 _).setCell (p := ⟨A2, 3, none⟩) h1 _).setCell (p := ⟨A2, 4, none⟩) h1 _).setCell (p := ⟨A2, 5, none⟩) h1 _⟩
/-- What ParseLine answers. -/
def ParseP (s : ByteArray) (w : World) (e : Ending) (w' : World) : Prop :=
  ((1000 < s.size ∧ e = .returned (.tuple #[.agg noCmd.vals, .int .i64 5])) ∨
   (s.size ≤ 1000 ∧ ∃ op ks, LineOK s op ks ∧ e = .returned (.tuple #[.agg (readTo s ks op ks.length).vals, .int .i64 0])) ∨
   (s.size ≤ 1000 ∧ (¬ ∃ op ks, LineOK s op ks) ∧ e = .returned (.tuple #[.agg noCmd.vals, .int .i64 16]))) ∧ Below w.heap.size w w'
set_option maxHeartbeats 1000000 in
set_option maxRecDepth 100000 in
theorem parseLine_any (s : ByteArray) (hs : s.size ≤ 1048576) (w : World) : Calls Tryz.prog 5 #[.string s] w (ParseP s w) := by
  obtain ⟨OB, hOB⟩ : ∃ OB, OB = Obj.cells #[.int .i64 0, .int .i64 0, .int .i64 0, .int .i64 0, .int .i64 0, .int .i64 0, .int .i64 0, .int .i64 0, .int .i64 0, .int .i64 0, .int .i64 0, .int .u32 0, .chan none, .slice none 0 0, .int .i64 0, .chan none, .int .i64 0, .int .i64 0, .int .i64 0, .int .i64 0, .int .i64 0, .int .i64 0, .int .i64 0, .int .i64 0, .int .i64 0, .int .i64 0, .int .i64 0, .int .i64 0, .int .u32 0, .slice none 0 0, .int .u64 0, .int .u64 0, .int .u64 0, .int .u64 0, .int .i64 0, .int .i64 0, .int .i64 0, .int .i64 0, .slice none 0 0, .slice none 0 0, .slice none 0 0, .slice none 0 0, .int .i64 0, .chan none, .int .i64 0, .slice none 0 0, .slice none 0 0, .int .u64 0, .int .i64 0, .int .u64 0, .int .i64 0, .int .i64 0, .int .i64 0] 63 := ⟨_, rfl⟩
  obtain ⟨W, hW⟩ : ∃ W, W = (w.alloc (.cells noCmd.vals 23)).alloc OB := ⟨_, rfl⟩
  obtain ⟨A2, hA2⟩ : ∃ A2, A2 = w.heap.size := ⟨_, rfl⟩
  have hbW : Below w.heap.size w W := by rw [hW]; exact ((Below.refl _ _).alloc (Nat.le_refl _) _).alloc (by simp) _
  have h2 : W.heap[A2]? = some (.cells noCmd.vals 23 (0, 0)) := by rw [hW, hA2]; exact (Below.heap_alloc _ _ _ (by simp)).trans (heap_alloc_new _ _)
  have hW' : (w.alloc (.cells #[.int .i64 0, .int .i64 0, .int .i64 0, .int .i64 0, .int .i64 0, .string ⟨#[]⟩] 23)).alloc (.cells #[.int .i64 0, .int .i64 0, .int .i64 0, .int .i64 0, .int .i64 0, .int .i64 0, .int .i64 0, .int .i64 0, .int .i64 0, .int .i64 0, .int .i64 0, .int .u32 0, .chan none, .slice none 0 0, .int .i64 0, .chan none, .int .i64 0, .int .i64 0, .int .i64 0, .int .i64 0, .int .i64 0, .int .i64 0, .int .i64 0, .int .i64 0, .int .i64 0, .int .i64 0, .int .i64 0, .int .i64 0, .int .u32 0, .slice none 0 0, .int .u64 0, .int .u64 0, .int .u64 0, .int .u64 0, .int .i64 0, .int .i64 0, .int .i64 0, .int .i64 0, .slice none 0 0, .slice none 0 0, .slice none 0 0, .slice none 0 0, .int .i64 0, .chan none, .int .i64 0, .slice none 0 0, .slice none 0 0, .int .u64 0, .int .i64 0, .int .u64 0, .int .i64 0, .int .i64 0, .int .i64 0] 63) = W := by rw [hW, hOB]; rfl
  have HA : Hid (w.heap.size ≤ A2) := by unfold Hid; omega
  have h1 := orders_any (w.heap.size + 1) W
  clear hOB hW
  go_enter Tryz.func5, Tryz.ntmps5
  go_wp2_with fail
  rw [← hA2]
  rw [← hA2] at h1
  clear hW'
  refine h1.mono ?_
  rintro e w1 ⟨MB, L, rfl, hT, hO⟩
  have h3 := readLine_any s hs W w1 MB L hO hT
  have hb1 : Below W.heap.size W w1 := hO.bel
  have hb1w := hbW.trans (hb1.mono hbW.size)
  have h21 := (hb1.block A2 (Array.getElem?_eq_some_iff.1 h2).1).trans h2
  clear h1 hO hT hA2
  go_wp2_with fail
  refine h3.mono ?_
  rintro e w2 ⟨hr, hb2⟩
  have hb2w := hb1w.trans (hb2.mono hb1w.size)
  have h22 := (hb2.block A2 (Array.getElem?_eq_some_iff.1 h21).1).trans h21
  obtain ⟨⟨c0, c1, c2, c3, c4, c5⟩, cf⟩ := cells6s h22
  have g0 := cf 0
  have g1 := cf 1
  have g2 := cf 2
  have g3 := cf 3
  have g4 := cf 4
  have g5 := cf 5
  simp only [noCmd] at c0 c1 c2 c3 c4 c5
  clear h3 cf
  rcases hr with ⟨k1, rfl⟩ | ⟨k1, ⟨xk, xo, xks, xa, xc, xf, xr⟩, _, k2, rfl⟩ | ⟨k1, k2, rfl⟩
  · have HK : Hid _ := k1
    obtain ⟨w4, hw4⟩ : ∃ w4, w4 = (w2.alloc (.cells #[.int .i64 0, .int .i64 0, .int .i64 0, .int .i64 0, .int .i64 0, .string ⟨#[]⟩] 23)).alloc (.cells #[.int .i64 0, .slice none 0 0, .nilFunc] 66) := ⟨_, rfl⟩
    obtain ⟨A5, hA5⟩ : ∃ A5, A5 = w2.heap.size := ⟨_, rfl⟩
    have hb4 : Below w2.heap.size w2 w4 := by rw [hw4]; exact ((Below.refl _ _).alloc (Nat.le_refl _) _).alloc (by simp) _
    have hb4w := hb2w.trans (hb4.mono hb2w.size)
    have l22 := (Array.getElem?_eq_some_iff.1 h22).1
    have h24 := (hb4.block A2 l22).trans h22
    have h54 : w4.heap[A5]? = some (.cells noCmd.vals 23 (0, 0)) := by rw [hw4, hA5]; exact (Below.heap_alloc _ _ _ (by simp)).trans (heap_alloc_new _ _)
    have n1 : ¬ A2 = A5 := by omega
    have n2 : ¬ A5 = A2 := by omega
    simp only [Cmd.vals, noCmd]
    go_upto_region 3 with fail
    rw [← hw4, ← hA5]
    clear hw4 hA5 c0 c1 c2 c3 c4 c5 g0 g1 g2 g3 g4 g5
    obtain ⟨⟨c0, c1, c2, c3, c4, c5⟩, cf⟩ := cells6s h24
    obtain ⟨⟨d0, d1, d2, d3, d4, d5⟩, _⟩ := cells6s h54
    have g0 := cf 0
    have g1 := cf 1
    have g2 := cf 2
    have g3 := cf 3
    have g4 := cf 4
    have g5 := cf 5
    simp only [noCmd] at c0 c1 c2 c3 c4 c5 d0 d1 d2 d3 d4 d5
    clear cf
    go_wp2_with fail
    obtain ⟨X, hX⟩ : ∃ X, X = ((((((w4.setCell ⟨A2, 0, none⟩ (.int .i64 0)).setCell ⟨A2, 1, none⟩ (.int .i64 0)).setCell ⟨A2, 2, none⟩ (.int .i64 0)).setCell ⟨A2, 3, none⟩ (.int .i64 0)).setCell ⟨A2, 4, none⟩ (.int .i64 0)).setCell ⟨A2, 5, none⟩ (.string ⟨#[]⟩)) := ⟨_, rfl⟩
    rw [← hX]
    obtain ⟨x4, xb⟩ := put6 h24 _ _ _ _ _ _ X hX
    have hbX := xb hb4w HA.out
    clear hX xb c0 c1 c2 c3 c4 c5 d0 d1 d2 d3 d4 d5
    have x4' : X.heap[A2]? = some (.cells noCmd.vals 23 (0, 0)) := x4
    obtain ⟨⟨c0, c1, c2, c3, c4, c5⟩, _⟩ := cells6s x4'
    simp only [noCmd] at c0 c1 c2 c3 c4 c5
    exact bodyPost_ret (v := .tuple #[.agg noCmd.vals, .int .i64 5]) (by simp [results, Tryz.results5, go_sem, Cmd.vals, noCmd, c0, c1, c2, c3, c4, c5]) rfl ⟨.inl ⟨HK.out, rfl⟩, hbX⟩
  · simp only [Ent.val]
    obtain ⟨C, hC⟩ : ∃ C, Hid (C = readTo s xks xo xks.length) := ⟨_, rfl⟩
    rw [← hC.out]
    obtain ⟨w4, hw4⟩ : ∃ w4, w4 = (w2.alloc (.cells #[.int .i64 C.op, .int .i64 C.path, .int .i64 C.dir, .int .i64 C.ix, .int .i64 C.n, .string C.data] 23)).alloc (.cells #[.int .i64 xo, .slice xa xks.length xc, .func (.func xf) #[.pointer (some ⟨xr, 0, none⟩)] #[]] 66) := ⟨_, rfl⟩
    obtain ⟨A5, hA5⟩ : ∃ A5, A5 = w2.heap.size := ⟨_, rfl⟩
    have hb4 : Below w2.heap.size w2 w4 := by rw [hw4]; exact ((Below.refl _ _).alloc (Nat.le_refl _) _).alloc (by simp) _
    have hb4w := hb2w.trans (hb4.mono hb2w.size)
    have l22 := (Array.getElem?_eq_some_iff.1 h22).1
    have h24 := (hb4.block A2 l22).trans h22
    have h54 : w4.heap[A5]? = some (.cells C.vals 23 (0, 0)) := by rw [hw4, hA5]; exact (Below.heap_alloc _ _ _ (by simp)).trans (heap_alloc_new _ _)
    have n1 : ¬ A2 = A5 := by omega
    have n2 : ¬ A5 = A2 := by omega
    simp only [Cmd.vals, noCmd]
    go_upto_region 3 with fail
    rw [← hw4, ← hA5]
    clear hw4 hA5 c0 c1 c2 c3 c4 c5 g0 g1 g2 g3 g4 g5
    obtain ⟨⟨c0, c1, c2, c3, c4, c5⟩, cf⟩ := cells6s h24
    obtain ⟨⟨d0, d1, d2, d3, d4, d5⟩, _⟩ := cells6s h54
    have g0 := cf 0
    have g1 := cf 1
    have g2 := cf 2
    have g3 := cf 3
    have g4 := cf 4
    have g5 := cf 5
    simp only [noCmd] at c0 c1 c2 c3 c4 c5 d0 d1 d2 d3 d4 d5
    clear cf
    go_wp2_with fail
    obtain ⟨X, hX⟩ : ∃ X, X = ((((((w4.setCell ⟨A2, 0, none⟩ (.int .i64 C.op)).setCell ⟨A2, 1, none⟩ (.int .i64 C.path)).setCell ⟨A2, 2, none⟩ (.int .i64 C.dir)).setCell ⟨A2, 3, none⟩ (.int .i64 C.ix)).setCell ⟨A2, 4, none⟩ (.int .i64 C.n)).setCell ⟨A2, 5, none⟩ (.string C.data)) := ⟨_, rfl⟩
    rw [← hX]
    obtain ⟨x4, xb⟩ := put6 h24 _ _ _ _ _ _ X hX
    have hbX := xb hb4w HA.out
    clear hX xb c0 c1 c2 c3 c4 c5 d0 d1 d2 d3 d4 d5
    have x4' : X.heap[A2]? = some (.cells C.vals 23 (0, 0)) := x4
    obtain ⟨⟨c0, c1, c2, c3, c4, c5⟩, _⟩ := cells6s x4'
    exact bodyPost_ret (v := .tuple #[.agg C.vals, .int .i64 0]) (by simp [results, Tryz.results5, go_sem, Cmd.vals, noCmd, c0, c1, c2, c3, c4, c5]) rfl ⟨.inr (.inl ⟨k1, xo, xks, k2, by rw [hC.out]⟩), hbX⟩
  · have HK : Hid _ := k1
    obtain ⟨w4, hw4⟩ : ∃ w4, w4 = (w2.alloc (.cells #[.int .i64 0, .int .i64 0, .int .i64 0, .int .i64 0, .int .i64 0, .string ⟨#[]⟩] 23)).alloc (.cells #[.int .i64 0, .slice none 0 0, .nilFunc] 66) := ⟨_, rfl⟩
    obtain ⟨A5, hA5⟩ : ∃ A5, A5 = w2.heap.size := ⟨_, rfl⟩
    have hb4 : Below w2.heap.size w2 w4 := by rw [hw4]; exact ((Below.refl _ _).alloc (Nat.le_refl _) _).alloc (by simp) _
    have hb4w := hb2w.trans (hb4.mono hb2w.size)
    have l22 := (Array.getElem?_eq_some_iff.1 h22).1
    have h24 := (hb4.block A2 l22).trans h22
    have h54 : w4.heap[A5]? = some (.cells noCmd.vals 23 (0, 0)) := by rw [hw4, hA5]; exact (Below.heap_alloc _ _ _ (by simp)).trans (heap_alloc_new _ _)
    have n1 : ¬ A2 = A5 := by omega
    have n2 : ¬ A5 = A2 := by omega
    simp only [Cmd.vals, noCmd]
    go_upto_region 3 with fail
    rw [← hw4, ← hA5]
    clear hw4 hA5 c0 c1 c2 c3 c4 c5 g0 g1 g2 g3 g4 g5
    obtain ⟨⟨c0, c1, c2, c3, c4, c5⟩, cf⟩ := cells6s h24
    obtain ⟨⟨d0, d1, d2, d3, d4, d5⟩, _⟩ := cells6s h54
    have g0 := cf 0
    have g1 := cf 1
    have g2 := cf 2
    have g3 := cf 3
    have g4 := cf 4
    have g5 := cf 5
    simp only [noCmd] at c0 c1 c2 c3 c4 c5 d0 d1 d2 d3 d4 d5
    clear cf
    go_wp2_with fail
    obtain ⟨X, hX⟩ : ∃ X, X = ((((((w4.setCell ⟨A2, 0, none⟩ (.int .i64 0)).setCell ⟨A2, 1, none⟩ (.int .i64 0)).setCell ⟨A2, 2, none⟩ (.int .i64 0)).setCell ⟨A2, 3, none⟩ (.int .i64 0)).setCell ⟨A2, 4, none⟩ (.int .i64 0)).setCell ⟨A2, 5, none⟩ (.string ⟨#[]⟩)) := ⟨_, rfl⟩
    rw [← hX]
    obtain ⟨x4, xb⟩ := put6 h24 _ _ _ _ _ _ X hX
    have hbX := xb hb4w HA.out
    clear hX xb c0 c1 c2 c3 c4 c5 d0 d1 d2 d3 d4 d5
    have x4' : X.heap[A2]? = some (.cells noCmd.vals 23 (0, 0)) := x4
    obtain ⟨⟨c0, c1, c2, c3, c4, c5⟩, _⟩ := cells6s x4'
    simp only [noCmd] at c0 c1 c2 c3 c4 c5
    exact bodyPost_ret (v := .tuple #[.agg noCmd.vals, .int .i64 16]) (by simp [results, Tryz.results5, go_sem, Cmd.vals, noCmd, c0, c1, c2, c3, c4, c5]) rfl ⟨.inr (.inr ⟨HK.out, k2, rfl⟩), hbX⟩
end Go.Proofs.YtjiaiaclmceeeaaGreatDoor
