import Derived.Test.YtjiaiaclmceeeaaGreatDoorLLook
import Derived.Test.YtjiaiaclmceeeaaGreatDoorLWord2
import Derived.Deep.Cut
import Derived.Deep.CutRange
import Derived.Deep.RegionHeld3
namespace Go.Proofs.YtjiaiaclmceeeaaGreatDoor
open Go.ChangeShapes Go.WideShapes Go.ChangeAt Go.RowKit
set_option linter.unusedVariables false

/-! ### A line as a command -/
def noCmd : Cmd := ⟨0, 0, 0, 0, 0, ⟨#[]⟩⟩
def wordAt (s : ByteArray) (i : Nat) : ByteArray := (wordsOf s).getD i ⟨#[]⟩
def readTo (s : ByteArray) (ks : List Int) (op : Int) : Nat → Cmd
  | 0 => { noCmd with op := op }
  | i + 1 => setW (ks.getD i 0).toNat (wordAt s (i + 1)) (readTo s ks op i)
def OkTo (s : ByteArray) (ks : List Int) (i : Nat) : Prop := ∀ j, j < i → okW (ks.getD j 0).toNat (wordAt s (j + 1))
/-- The line is one of the table's. -/
structure LineOK (s : ByteArray) (op : Int) (ks : List Int) : Prop where
  good : Good s
  row : firstRow (wordAt s 0) table = some (op, ks)
  len : (wordsOf s).length = 1 + ks.length
  ok : OkTo s ks ks.length
/-- What readLine answers. -/
def LineP (s : ByteArray) (L : List Ent) (w : World) (e : Ending) (w' : World) : Prop :=
  ((1000 < s.size ∧ e = .returned (.tuple #[.agg noCmd.vals, .agg #[.int .i64 0, .slice none 0 0, .nilFunc], .int .i64 5])) ∨
   (s.size ≤ 1000 ∧ ∃ x, x ∈ L ∧ LineOK s x.op x.kinds ∧ e = .returned (.tuple #[.agg (readTo s x.kinds x.op x.kinds.length).vals, x.val, .int .i64 0])) ∨
   (s.size ≤ 1000 ∧ (¬ ∃ op ks, LineOK s op ks) ∧ e = .returned (.tuple #[.agg noCmd.vals, .agg #[.int .i64 0, .slice none 0 0, .nilFunc], .int .i64 16]))) ∧ Below w.heap.size w w'
set_option maxHeartbeats 1000000 in
set_option maxRecDepth 100000 in
theorem readLine_long (s : ByteArray) (hs : s.size ≤ 1048576) (h : 1000 < s.size) (w0 w : World) (MB : Nat) (L : List Ent) : Calls Tryz.prog 12 #[.map (some MB), .string s] w (LineP s L w) := by
  have d1 : decide ((1000 : Int) < (s.size : Int)) = true := decide_eq_true (by omega)
  go_enter Tryz.func12, Tryz.ntmps12
  go_wp2_with fail
  have hb : Below w.heap.size w ((w.alloc (.cells noCmd.vals 23)).alloc (.cells #[.int .i64 0, .slice none 0 0, .nilFunc] 66)) := ((Below.refl _ _).alloc (Nat.le_refl _) _).alloc (by simp) _
  exact bodyPost_ret (v := .tuple #[.agg noCmd.vals, .agg #[.int .i64 0, .slice none 0 0, .nilFunc], .int .i64 5]) (by simp [results, Tryz.results12, go_sem, noCmd, Cmd.vals]) rfl ⟨.inl ⟨h, rfl⟩, hb⟩
theorem OrdAt.moved {w0 w w' : World} {B : Nat} {L : List Ent} (h : OrdAt w0 w B L) (hb : Below w.heap.size w w') : OrdAt w0 w' B L := by
  have hl : B < w.heap.size := (Array.getElem?_eq_some_iff.1 h.map).1
  exact ⟨(hb.block B hl).trans h.map, fun e he => ⟨(h.kin e he).1.moved hb, (h.kin e he).2⟩, h.new, h.bel.trans (hb.mono h.bel.size)⟩
theorem type_neL {w : World} {j k : Nat} {c1 c2 : Array Value} {t1 t2 : TypeId} {f1 f2 : Nat × Nat} (h1 : w.heap[j]? = some (.cells c1 t1 f1)) (h2 : w.heap[k]? = some (.cells c2 t2 f2)) (h : t1 ≠ t2) : j ≠ k := by
  rintro rfl
  rw [h1] at h2
  simp only [Option.some.injEq, Obj.cells.injEq] at h2
  exact h h2.2.1
theorem put9 {w : World} {A4 A5 : Nat} (hne : A4 ≠ A5) {t4 t5 : TypeId} {x0 x1 x2 x3 x4 x5 z0 z1 z2 : Value} (h4 : w.heap[A4]? = some (.cells #[x0, x1, x2, x3, x4, x5] t4 (0, 0))) (h5 : w.heap[A5]? = some (.cells #[z0, z1, z2] t5 (0, 0))) (a0 a1 a2 a3 a4 a5 b0 b1 b2 : Value) (X : World) (hX : X = (((((((((w.setCell ⟨A4, 0, none⟩ a0).setCell ⟨A4, 1, none⟩ a1).setCell ⟨A4, 2, none⟩ a2).setCell ⟨A4, 3, none⟩ a3).setCell ⟨A4, 4, none⟩ a4).setCell ⟨A4, 5, none⟩ a5).setCell ⟨A5, 0, none⟩ b0).setCell ⟨A5, 1, none⟩ b1).setCell ⟨A5, 2, none⟩ b2)) :
    X.heap[A4]? = some (.cells #[a0, a1, a2, a3, a4, a5] t4 (0, 0)) ∧ X.heap[A5]? = some (.cells #[b0, b1, b2] t5 (0, 0)) ∧ ∀ {B : Nat} {w0 : World}, Below B w0 w → B ≤ A4 → B ≤ A5 → Below B w0 X := by
  subst hX
  have k0 := heap_setCell_same w A4 0 _ _ a0 h4
  have k1 := heap_setCell_same _ A4 1 _ _ a1 k0
  have k2 := heap_setCell_same _ A4 2 _ _ a2 k1
  have k3 := heap_setCell_same _ A4 3 _ _ a3 k2
  have k4 := heap_setCell_same _ A4 4 _ _ a4 k3
  have k5 := heap_setCell_same _ A4 5 _ _ a5 k4
  have h5' : ((((((w.setCell ⟨A4, 0, none⟩ a0).setCell ⟨A4, 1, none⟩ a1).setCell ⟨A4, 2, none⟩ a2).setCell ⟨A4, 3, none⟩ a3).setCell ⟨A4, 4, none⟩ a4).setCell ⟨A4, 5, none⟩ a5).heap[A5]? = some (.cells #[z0, z1, z2] t5 (0, 0)) := by
    rw [heap_setCell_other _ _ _ _ (Ne.symm hne), heap_setCell_other _ _ _ _ (Ne.symm hne), heap_setCell_other _ _ _ _ (Ne.symm hne), heap_setCell_other _ _ _ _ (Ne.symm hne), heap_setCell_other _ _ _ _ (Ne.symm hne), heap_setCell_other _ _ _ _ (Ne.symm hne)]
    exact h5
  have m0 := heap_setCell_same _ A5 0 _ _ b0 h5'
  have m1 := heap_setCell_same _ A5 1 _ _ b1 m0
  have m2 := heap_setCell_same _ A5 2 _ _ b2 m1
  refine ⟨?_, m2, fun {B w0} hb h1 h2 => ?_⟩
  · rw [heap_setCell_other _ _ _ _ hne, heap_setCell_other _ _ _ _ hne, heap_setCell_other _ _ _ _ hne]
    exact k5
  · exact ((((((((hb.setCell (p := ⟨A4, 0, none⟩) h1 _).setCell (p := ⟨A4, 1, none⟩) h1 _).setCell (p := ⟨A4, 2, none⟩) h1 _).setCell (p := ⟨A4, 3, none⟩) h1 _).setCell (p := ⟨A4, 4, none⟩) h1 _).setCell (p := ⟨A4, 5, none⟩) h1 _).setCell (p := ⟨A5, 0, none⟩) h2 _).setCell (p := ⟨A5, 1, none⟩) h2 _).setCell (p := ⟨A5, 2, none⟩) h2 _
theorem words_pos (s : ByteArray) : 1 ≤ (wordsOf s).length := by simp [wordsOf]
theorem zeroOrder (w : World) : (zeroValue 66).run Tryz.prog w = .ok (.agg #[.int .i64 0, .slice none 0 0, .nilFunc]) w := by kernel_rfl
set_option maxHeartbeats 2000000 in
set_option maxRecDepth 100000 in
theorem readLine_no (s : ByteArray) (h : s.size ≤ 1000) (w0 w : World) (MB : Nat) (L : List Ent) (hO : OrdAt w0 w MB L) (hT : L.map (fun e => (e.key, e.op, e.kinds)) = table) (hno : ¬ Good s ∨ firstRow (wordAt s 0) table = none) : Calls Tryz.prog 12 #[.map (some MB), .string s] w (LineP s L w) := by
  have d1 : decide ((1000 : Int) < (s.size : Int)) = false := decide_eq_false (by omega)
  have HNO : Hid (¬ ∃ op ks, LineOK s op ks) := by
    rintro ⟨op, ks, hl⟩
    rcases hno with h1 | h1
    · exact h1 hl.good
    · rw [hl.row] at h1; cases h1
  obtain ⟨W, hW⟩ : ∃ W, W = (w.alloc (.cells noCmd.vals 23)).alloc (.cells #[.int .i64 0, .slice none 0 0, .nilFunc] 66) := ⟨_, rfl⟩
  obtain ⟨A4, hA4⟩ : ∃ A4, A4 = w.heap.size := ⟨_, rfl⟩
  obtain ⟨A5, hA5⟩ : ∃ A5, A5 = w.heap.size + 1 := ⟨_, rfl⟩
  have hbW : Below w.heap.size w W := by rw [hW]; exact ((Below.refl _ _).alloc (Nat.le_refl _) _).alloc (by simp) _
  have h4 : W.heap[A4]? = some (.cells noCmd.vals 23 (0, 0)) := by rw [hW, hA4]; exact (Below.heap_alloc _ _ _ (by simp)).trans (heap_alloc_new _ _)
  have h5 : W.heap[A5]? = some (.cells #[.int .i64 0, .slice none 0 0, .nilFunc] 66 (0, 0)) := by
    rw [hW, hA5]
    have := heap_alloc_new (w.alloc (.cells noCmd.vals 23)) (.cells #[.int .i64 0, .slice none 0 0, .nilFunc] 66)
    simpa using this
  have hcut := implCut s W (by omega)
  have HO : Hid (OrdAt w0 W MB L) := hO.moved hbW
  have HA : Hid (w.heap.size ≤ A4 ∧ w.heap.size ≤ A5) := by unfold Hid; omega
  go_enter Tryz.func12, Tryz.ntmps12
  go_upto_region 1 with fail
  have hW' : (w.alloc (.cells #[.int .i64 0, .int .i64 0, .int .i64 0, .int .i64 0, .int .i64 0, .string ⟨#[]⟩] 23)).alloc (.cells #[.int .i64 0, .slice none 0 0, .nilFunc] 66) = W := by rw [hW]; rfl
  rw [hW', ← hA5, ← hA4]
  clear hW hW' hA4 hA5
  go_wp2_with fail
  refine hcut.mono ?_
  rintro e w1 ⟨hr, hb1⟩
  clear hcut
  have hb1w := hbW.trans (hb1.mono hbW.size)
  have h41 := (hb1.block A4 (Array.getElem?_eq_some_iff.1 h4).1).trans h4
  have h51 := (hb1.block A5 (Array.getElem?_eq_some_iff.1 h5).1).trans h5
  obtain ⟨⟨c0, c1, c2, c3, c4, c5⟩, cf⟩ := cells6s h41
  have g0 := cf 0
  have g1 := cf 1
  have g2 := cf 2
  have g3 := cf 3
  have g4 := cf 4
  have g5 := cf 5
  simp only [noCmd] at c0 c1 c2 c3 c4 c5
  have o0 : w1.cell? ⟨A5, 0, none⟩ = some (.int .i64 0) := Go.Joins.cell_of_block h51 0
  have o1 : w1.cell? ⟨A5, 1, none⟩ = some (.slice none 0 0) := Go.Joins.cell_of_block h51 1
  have o2 : w1.cell? ⟨A5, 2, none⟩ = some .nilFunc := Go.Joins.cell_of_block h51 2
  have p0 := Go.Joins.unfrozen_of_block h51 0
  have p1 := Go.Joins.unfrozen_of_block h51 1
  have p2 := Go.Joins.unfrozen_of_block h51 2
  have n45 : ¬ A4 = A5 := type_neL h41 h51 (by decide)
  have n54 : ¬ A5 = A4 := fun e => n45 e.symm
  clear cf
  rcases hr with ⟨hgood, av, cp, rfl, hrow⟩ | ⟨hbad, rfl⟩
  · have hfirst : firstRow (wordAt s 0) table = none := hno.resolve_left (fun h => h hgood)
    have HO1 := HO.out.moved hb1
    obtain ⟨q, hf, hq⟩ := find_ent (wordAt s 0) L 0 0
    rw [hT] at hq
    obtain rfl : q = none := by
      rcases hq with ⟨h1, _⟩ | ⟨_, _, _, _, h1⟩
      · exact h1
      · rw [hfirst] at h1; cases h1
    have hlk := run_look (P := Tryz.prog) w1 69 9 66 MB L.length (wordAt s 0) (entsAt 0 L).toArray none _ Tryz.underlying69 Tryz.underlying9 (zeroOrder w1) HO1.map hf
    simp only [Option.map_none, Option.getD_none, Option.isSome_none] at hlk
    have hwp := words_pos s
    obtain ⟨N, hN⟩ : ∃ N, N = (wordsOf s).length := ⟨_, rfl⟩
    have hN1 : (0 : Int) < (N : Int) := by omega
    obtain ⟨wb, hav⟩ : ∃ wb, av = some ⟨wb, 0, none⟩ := by
      rcases hrow.2 with ⟨e, h0⟩ | ⟨g, c, cur, e, _⟩
      · omega
      · simp only [Value.slice.injEq] at e
        exact ⟨g, e.1⟩
    subst hav
    have k0 : w1.cell? ⟨wb, 0, none⟩ = some (.string (wordAt s 0)) := by
      rw [hrow.cellAt 0 (by omega), List.getElem?_map, List.getElem?_eq_getElem (by omega)]
      simp [wordAt, List.getD_eq_getElem?_getD, List.getElem?_eq_getElem (show 0 < (wordsOf s).length by omega)]
    obtain ⟨u0, hu0⟩ : ∃ u0, u0 = wordAt s 0 := ⟨_, rfl⟩
    rw [← hu0] at k0 hlk
    rw [← hN]
    clear hno hrow hq hf HO1 hfirst hwp hN hu0
    obtain ⟨w2, hw2⟩ : ∃ w2, w2 = w1.alloc (.cells #[.int .i64 0, .slice none 0 0, .nilFunc] 66) := ⟨_, rfl⟩
    have hb2 : Below w1.heap.size w1 w2 := by rw [hw2]; exact (Below.refl _ _).alloc (Nat.le_refl _) _
    have hb2w := hb1w.trans (hb2.mono hb1w.size)
    have h42 := (hb2.block A4 (Array.getElem?_eq_some_iff.1 h41).1).trans h41
    have h52 := (hb2.block A5 (Array.getElem?_eq_some_iff.1 h51).1).trans h51
    go_upto_region 8 with fail
    rw [← hw2]
    clear hw2 hlk k0 c0 c1 c2 c3 c4 c5 g0 g1 g2 g3 g4 g5 o0 o1 o2 p0 p1 p2
    obtain ⟨⟨c0, c1, c2, c3, c4, c5⟩, cf⟩ := cells6s h42
    have g0 := cf 0
    have g1 := cf 1
    have g2 := cf 2
    have g3 := cf 3
    have g4 := cf 4
    have g5 := cf 5
    simp only [noCmd] at c0 c1 c2 c3 c4 c5
    have o0 : w2.cell? ⟨A5, 0, none⟩ = some (.int .i64 0) := Go.Joins.cell_of_block h52 0
    have o1 : w2.cell? ⟨A5, 1, none⟩ = some (.slice none 0 0) := Go.Joins.cell_of_block h52 1
    have o2 : w2.cell? ⟨A5, 2, none⟩ = some .nilFunc := Go.Joins.cell_of_block h52 2
    have p0 := Go.Joins.unfrozen_of_block h52 0
    have p1 := Go.Joins.unfrozen_of_block h52 1
    have p2 := Go.Joins.unfrozen_of_block h52 2
    clear cf
    go_wp2_with fail
    obtain ⟨X, hX⟩ : ∃ X, X = (((((((((w2.setCell ⟨A4, 0, none⟩ (.int .i64 0)).setCell ⟨A4, 1, none⟩ (.int .i64 0)).setCell ⟨A4, 2, none⟩ (.int .i64 0)).setCell ⟨A4, 3, none⟩ (.int .i64 0)).setCell ⟨A4, 4, none⟩ (.int .i64 0)).setCell ⟨A4, 5, none⟩ (.string ⟨#[]⟩)).setCell ⟨A5, 0, none⟩ (.int .i64 0)).setCell ⟨A5, 1, none⟩ (.slice none 0 0)).setCell ⟨A5, 2, none⟩ (.nilFunc)) := ⟨_, rfl⟩
    rw [← hX]
    obtain ⟨x4, x5, xb⟩ := put9 n45 h42 h52 _ _ _ _ _ _ _ _ _ X hX
    have hbX := xb hb2w HA.out.1 HA.out.2
    clear hX xb
    have y0 : X.cell? ⟨A4, 0, none⟩ = some (.int .i64 0) := Go.Joins.cell_of_block x4 0
    have y1 : X.cell? ⟨A4, 1, none⟩ = some (.int .i64 0) := Go.Joins.cell_of_block x4 1
    have y2 : X.cell? ⟨A4, 2, none⟩ = some (.int .i64 0) := Go.Joins.cell_of_block x4 2
    have y3 : X.cell? ⟨A4, 3, none⟩ = some (.int .i64 0) := Go.Joins.cell_of_block x4 3
    have y4 : X.cell? ⟨A4, 4, none⟩ = some (.int .i64 0) := Go.Joins.cell_of_block x4 4
    have y5 : X.cell? ⟨A4, 5, none⟩ = some (.string ⟨#[]⟩) := Go.Joins.cell_of_block x4 5
    have q0 : X.cell? ⟨A5, 0, none⟩ = some (.int .i64 0) := Go.Joins.cell_of_block x5 0
    have q1 : X.cell? ⟨A5, 1, none⟩ = some (.slice none 0 0) := Go.Joins.cell_of_block x5 1
    have q2 : X.cell? ⟨A5, 2, none⟩ = some .nilFunc := Go.Joins.cell_of_block x5 2
    exact bodyPost_ret (v := .tuple #[.agg noCmd.vals, .agg #[.int .i64 0, .slice none 0 0, .nilFunc], .int .i64 16]) (by simp [results, Tryz.results12, go_sem, noCmd, Cmd.vals, y0, y1, y2, y3, y4, y5, q0, q1, q2]) rfl ⟨.inr (.inr ⟨h, HNO.out, rfl⟩), hbX⟩
  · clear hno
    go_wp2_with fail
    obtain ⟨X, hX⟩ : ∃ X, X = (((((((((w1.setCell ⟨A4, 0, none⟩ (.int .i64 0)).setCell ⟨A4, 1, none⟩ (.int .i64 0)).setCell ⟨A4, 2, none⟩ (.int .i64 0)).setCell ⟨A4, 3, none⟩ (.int .i64 0)).setCell ⟨A4, 4, none⟩ (.int .i64 0)).setCell ⟨A4, 5, none⟩ (.string ⟨#[]⟩)).setCell ⟨A5, 0, none⟩ (.int .i64 0)).setCell ⟨A5, 1, none⟩ (.slice none 0 0)).setCell ⟨A5, 2, none⟩ (.nilFunc)) := ⟨_, rfl⟩
    rw [← hX]
    obtain ⟨x4, x5, xb⟩ := put9 n45 h41 h51 _ _ _ _ _ _ _ _ _ X hX
    have hbX := xb hb1w HA.out.1 HA.out.2
    clear hX xb
    have y0 : X.cell? ⟨A4, 0, none⟩ = some (.int .i64 0) := Go.Joins.cell_of_block x4 0
    have y1 : X.cell? ⟨A4, 1, none⟩ = some (.int .i64 0) := Go.Joins.cell_of_block x4 1
    have y2 : X.cell? ⟨A4, 2, none⟩ = some (.int .i64 0) := Go.Joins.cell_of_block x4 2
    have y3 : X.cell? ⟨A4, 3, none⟩ = some (.int .i64 0) := Go.Joins.cell_of_block x4 3
    have y4 : X.cell? ⟨A4, 4, none⟩ = some (.int .i64 0) := Go.Joins.cell_of_block x4 4
    have y5 : X.cell? ⟨A4, 5, none⟩ = some (.string ⟨#[]⟩) := Go.Joins.cell_of_block x4 5
    have q0 : X.cell? ⟨A5, 0, none⟩ = some (.int .i64 0) := Go.Joins.cell_of_block x5 0
    have q1 : X.cell? ⟨A5, 1, none⟩ = some (.slice none 0 0) := Go.Joins.cell_of_block x5 1
    have q2 : X.cell? ⟨A5, 2, none⟩ = some .nilFunc := Go.Joins.cell_of_block x5 2
    exact bodyPost_ret (v := .tuple #[.agg noCmd.vals, .agg #[.int .i64 0, .slice none 0 0, .nilFunc], .int .i64 16]) (by simp [results, Tryz.results12, go_sem, noCmd, Cmd.vals, y0, y1, y2, y3, y4, y5, q0, q1, q2]) rfl ⟨.inr (.inr ⟨h, HNO.out, rfl⟩), hbX⟩
end Go.Proofs.YtjiaiaclmceeeaaGreatDoor
