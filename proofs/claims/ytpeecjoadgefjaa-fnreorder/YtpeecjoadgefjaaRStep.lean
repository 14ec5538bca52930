import Derived.Test.YtpeecjoadgefjaaREnd
import Derived.Test.YtpeecjoadgefjaaRTake
namespace Go.Proofs.Ytpeecjoadgefjaa
open Go.ChangeShapes Go.WideShapes Go.ChangeAt Go.RowKit
set_option linter.unusedVariables false

theorem Buf2.trans {w V w' : World} {B g : Nat} (h1 : Buf2 w V B g) (h2 : Buf2 V w' B g) : Buf2 w w' B g :=
  ⟨h2.os.trans h1.os, h2.tape.trans h1.tape, h2.output.trans h1.output, Nat.le_trans h1.size h2.size, fun k a b c => (h2.block k (Nat.lt_of_lt_of_le a h1.size) b c).trans (h1.block k a b c)⟩
theorem RStep.fill {w V w' : World} {B base z g cap R : Nat} {Q : ROut × RB} {dv : Value} (h : RStep V B base z g cap Q w' dv) (hV : Buf2 w V B g) (hw : w.heap.size ≤ R) (hR : R < V.heap.size) (nB : B ≠ R) (ng : g ≠ R) (a b c : Value) :
    RStep w B base z g cap Q (((w'.setCell ⟨R, 0, none⟩ a).setCell ⟨R, 1, none⟩ b).setCell ⟨R, 2, none⟩ c) dv := by
  obtain ⟨L', hL⟩ := h.buf
  exact ⟨owned_base (kept_new (kept_new (kept_new h.row (grown_set _ R 0 _) hR) (grown_set _ R 1 _) hR) (grown_set _ R 2 _) hR) hV.size, ⟨L', hL.fill nB ng a b c⟩, (hV.trans h.two).fill hw a b c⟩
theorem putR_dat (z : Int) (s : RB) (off : Int) (dat : List Int) : (putR z s off dat).1.dat = [] := by unfold putR; split; rfl; split; rfl; split; rfl; rfl
theorem endR_dat (z : Int) (s : RB) (off : Int) : (endR z s off).1.dat = [] ∧ (endR z s off).1.n = 0 := by unfold endR; split; exact ⟨rfl, rfl⟩; split; exact ⟨rfl, rfl⟩; split <;> exact ⟨rfl, rfl⟩
def evV (kd off : Int) (da : Option Addr) (dl dc : Nat) (n : Int) : Array Value := #[.int .i64 kd, .int .u64 off, .slice da dl dc, .int .i64 n]

/-- What a step asks of the buffer and of the event. -/
structure StepOk (z : Nat) (s : RB) (e : REv) : Prop where
  win : InWin z s
  hr9 : s.read + z ≤ 9000000000000000000
  hf : s.hf = 0 ∨ s.hf = 1
  f0 : 0 ≤ s.fin
  f1 : s.fin ≤ 18446744073709551615
  o0 : 0 ≤ e.off
  o1 : e.off ≤ 18446744073709551615
  n0 : -9223372036854775808 ≤ e.n
  n1 : e.n ≤ 9223372036854775807
  dv : ∀ v ∈ e.dat, 0 ≤ v ∧ v ≤ 255
  dl : e.dat.length ≤ 9223372036854775807

set_option maxHeartbeats 1000000 in
set_option maxRecDepth 100000 in
theorem step_any (w : World) (B base z g cap : Nat) (s : RB) (L : SlotL) (h : BufAt w B base z s g cap L) (e : REv) (hk : StepOk z s e) (da : Option Addr) (dc : Nat) (hd : Ints .u8 w da e.dat) (hdb : ∀ b o, da = some ⟨b, o, none⟩ → b ≠ g) :
    Calls Try.prog 76 #[.pointer (some ⟨B, 0, none⟩), .agg (evV e.kd e.off da e.dat.length dc e.n)] w (RStepsTo w B base z g cap (stepR z s e)) := by
  have hBl : B < w.heap.size := (Array.getElem?_eq_some_iff.1 h.blk).1
  have hgl := h.row.lt g rfl
  obtain ⟨kd, off, dat, n⟩ := e
  have o0 := hk.o0
  have o1 := hk.o1
  have n0 := hk.n0
  have n1 := hk.n1
  simp only at hd o0 o1 n0 n1
  simp only [evV]
  have hb0 : Below w.heap.size w ((w.alloc (.cells #[.int .i64 kd, .int .u64 off, .slice da dat.length dc, .int .i64 n] 48)).alloc (.cells #[.int .i64 0, .int .i64 0, .slice none 0 0] 50)) := ((Below.refl _ _).alloc (Nat.le_refl _) _).alloc (by simp) _
  have hR0 := heap_alloc_new (w.alloc (.cells #[.int .i64 kd, .int .u64 off, .slice da dat.length dc, .int .i64 n] 48)) (.cells #[.int .i64 0, .int .i64 0, .slice none 0 0] 50)
  have hE0 : ((w.alloc (.cells #[.int .i64 kd, .int .u64 off, .slice da dat.length dc, .int .i64 n] 48)).alloc (.cells #[.int .i64 0, .int .i64 0, .slice none 0 0] 50)).heap[w.heap.size]? = some (.cells #[.int .i64 kd, .int .u64 off, .slice da dat.length dc, .int .i64 n] 48) := (Below.heap_alloc _ _ _ (by simp)).trans (heap_alloc_new _ _)
  have hs0 : ((w.alloc (.cells #[.int .i64 kd, .int .u64 off, .slice da dat.length dc, .int .i64 n] 48)).alloc (.cells #[.int .i64 0, .int .i64 0, .slice none 0 0] 50)).heap.size = w.heap.size + 2 := by simp
  have hs1 : (w.alloc (.cells #[.int .i64 kd, .int .u64 off, .slice da dat.length dc, .int .i64 n] 48)).heap.size = w.heap.size + 1 := by simp
  rw [hs1] at hR0
  obtain ⟨V, hV⟩ : ∃ V, V = (w.alloc (.cells #[.int .i64 kd, .int .u64 off, .slice da dat.length dc, .int .i64 n] 48)).alloc (.cells #[.int .i64 0, .int .i64 0, .slice none 0 0] 50) := ⟨_, rfl⟩
  rw [← hV] at hb0 hR0 hE0 hs0
  have hVb : BufAt V B base z s g cap L := h.kept (hb0.block B hBl) (hb0.block g hgl.2)
  have hdV := hd.moved hb0
  obtain ⟨R, hR⟩ : ∃ R, R = w.heap.size + 1 := ⟨_, rfl⟩
  rw [← hR] at hR0
  obtain ⟨E, hE⟩ : ∃ E, E = w.heap.size := ⟨_, rfl⟩
  rw [← hE] at hE0
  have nB : B ≠ R := by omega
  have ng : g ≠ R := by omega
  have hRw : w.heap.size ≤ R := by omega
  have hRV : R < V.heap.size := by omega
  have hVt : Buf2 w V B g := ⟨hb0.os, hb0.tape, hb0.output, hb0.size, fun k h1 _ _ => hb0.block k h1⟩
  have c0 : V.cell? ⟨E, 0, none⟩ = some (.int .i64 kd) := Go.Joins.cell_of_block hE0 0
  have c1 : V.cell? ⟨E, 1, none⟩ = some (.int .u64 off) := Go.Joins.cell_of_block hE0 1
  have c2 : V.cell? ⟨E, 2, none⟩ = some (.slice da dat.length dc) := Go.Joins.cell_of_block hE0 2
  have c3 : V.cell? ⟨E, 3, none⟩ = some (.int .i64 n) := Go.Joins.cell_of_block hE0 3
  have hp := put_any V B base z g cap s L hVb off o0 o1 da dat dc hdV hk.dv hk.dl hdb hk.hf hk.f0 hk.f1
  have ht := take_any V B base z g cap s L hVb hk.win hk.hr9 n n0 n1 hk.hf
  have he := end_any V B base z g cap s L hVb off o0 o1 hk.hf
  have HB0 : Hid (BufAt w B base z s g cap L) := h
  clear hs0 hs1 hE0 h hd
  have HVB : Hid _ := hVb
  clear hVb
  by_cases h1 : kd = 1
  case pos =>
    subst h1
    have HE : Hid (stepR z s ⟨1, off, dat, n⟩ = putR z s off dat) := rfl
    have hdt := putR_dat z s off dat
    obtain ⟨Q, hQ⟩ : ∃ Q, Q = putR z s off dat := ⟨_, rfl⟩
    rw [← hQ] at hp hdt
    have HQ : Hid _ := hQ
    clear hQ ht he
    go_enter Try.func76, Try.ntmps76
    go_wp2_with fail
    rw [← hV, ← hR, ← hE]
    clear hV hR hE
    go_wp2_with fail
    refine hp.mono ?_
    rintro e w2 ⟨L2, rfl, hb2, ht2⟩
    have hX2 : w2.heap[R]? = some (.cells #[.int .i64 0, .int .i64 0, .slice none 0 0] 50 (0, 0)) := (ht2.block R hRV (Ne.symm nB) (Ne.symm ng)).trans hR0
    have hst : RStep V B base z g cap Q w2 (.slice none 0 0) := ⟨by rw [hdt]; exact ⟨rfl, .inl ⟨rfl, rfl⟩⟩, ⟨L2, hb2⟩, ht2⟩
    have hfl := hst.fill hVt hRw hRV nB ng (.int .i64 Q.1.code) (.int .i64 Q.1.n) (.slice none 0 0)
    obtain ⟨⟨k0, k1, k2⟩, kf0, kf1, kf2⟩ := cells3r hX2
    obtain ⟨⟨z0, z1, z2⟩, _⟩ := cells3r (set3r hX2 (.int .i64 Q.1.code) (.int .i64 Q.1.n) (.slice none 0 0))
    clear hp c0 c1 c2 c3
    go_wp2_with fail
    exact bodyPost_ret (v := .agg #[.int .i64 Q.1.code, .int .i64 Q.1.n, .slice none 0 0]) (by simp [results, Try.results76, go_sem, z0, z1, z2]) rfl (by rw [HE.out, ← HQ.out]; exact ⟨none, 0, by rw [hdt]; rfl, by rw [hdt]; exact hfl⟩)
  case neg =>
  have b1 : (kd == 1) = false := by simpa using h1
  by_cases h2 : kd = 2
  case pos =>
    subst h2
    have HE : Hid (stepR z s ⟨2, off, dat, n⟩ = takeR z s n) := rfl
    obtain ⟨Q, hQ⟩ : ∃ Q, Q = takeR z s n := ⟨_, rfl⟩
    rw [← hQ] at ht
    have HQ : Hid _ := hQ
    clear hQ hp he
    go_enter Try.func76, Try.ntmps76
    go_wp2_with fail
    rw [← hV, ← hR, ← hE]
    clear hV hR hE
    go_wp2_with fail
    refine ht.mono ?_
    rintro e w2 ⟨av, cp, rfl, hst⟩
    have hX2 : w2.heap[R]? = some (.cells #[.int .i64 0, .int .i64 0, .slice none 0 0] 50 (0, 0)) := (hst.two.block R hRV (Ne.symm nB) (Ne.symm ng)).trans hR0
    have hfl := hst.fill hVt hRw hRV nB ng (.int .i64 Q.1.code) (.int .i64 Q.1.n) (.slice av Q.1.dat.length cp)
    obtain ⟨⟨k0, k1, k2⟩, kf0, kf1, kf2⟩ := cells3r hX2
    obtain ⟨⟨z0, z1, z2⟩, _⟩ := cells3r (set3r hX2 (.int .i64 Q.1.code) (.int .i64 Q.1.n) (.slice av Q.1.dat.length cp))
    clear ht c0 c1 c2 c3
    go_wp2_with fail
    exact bodyPost_ret (v := .agg #[.int .i64 Q.1.code, .int .i64 Q.1.n, .slice av Q.1.dat.length cp]) (by simp [results, Try.results76, go_sem, z0, z1, z2]) rfl (by rw [HE.out, ← HQ.out]; exact ⟨av, cp, rfl, hfl⟩)
  case neg =>
  have b2 : (kd == 2) = false := by simpa using h2
  by_cases h3 : kd = 3
  case pos =>
    subst h3
    have HE : Hid (stepR z s ⟨3, off, dat, n⟩ = endR z s off) := rfl
    obtain ⟨hdt, hdn⟩ := endR_dat z s off
    obtain ⟨Q, hQ⟩ : ∃ Q, Q = endR z s off := ⟨_, rfl⟩
    rw [← hQ] at he hdt hdn
    have HQ : Hid _ := hQ
    have HDN : Hid _ := hdn
    clear hQ hp ht hdn
    go_enter Try.func76, Try.ntmps76
    go_wp2_with fail
    rw [← hV, ← hR, ← hE]
    clear hV hR hE
    go_wp2_with fail
    refine he.mono ?_
    rintro e w2 ⟨rfl, hb2, ht2⟩
    have hX2 : w2.heap[R]? = some (.cells #[.int .i64 0, .int .i64 0, .slice none 0 0] 50 (0, 0)) := (ht2.block R hRV (Ne.symm nB) (Ne.symm ng)).trans hR0
    have hst : RStep V B base z g cap Q w2 (.slice none 0 0) := ⟨by rw [hdt]; exact ⟨rfl, .inl ⟨rfl, rfl⟩⟩, ⟨L, hb2⟩, ht2⟩
    have hfl := hst.fill hVt hRw hRV nB ng (.int .i64 Q.1.code) (.int .i64 0) (.slice none 0 0)
    obtain ⟨⟨k0, k1, k2⟩, kf0, kf1, kf2⟩ := cells3r hX2
    obtain ⟨⟨z0, z1, z2⟩, _⟩ := cells3r (set3r hX2 (.int .i64 Q.1.code) (.int .i64 0) (.slice none 0 0))
    clear he c0 c1 c2 c3
    go_wp2_with fail
    exact bodyPost_ret (v := .agg #[.int .i64 Q.1.code, .int .i64 0, .slice none 0 0]) (by simp [results, Try.results76, go_sem, z0, z1, z2]) rfl (by rw [HE.out, ← HQ.out]; exact ⟨none, 0, by rw [hdt, HDN.out]; rfl, by rw [hdt]; exact hfl⟩)
  case neg =>
    have b3 : (kd == 3) = false := by simpa using h3
    have HE : Hid (stepR z s ⟨kd, off, dat, n⟩ = (⟨1, 0, []⟩, s)) := by unfold Hid stepR; simp only; rw [if_neg h1, if_neg h2, if_neg h3]
    have hb9 : Below w.heap.size w ((w.alloc (.cells #[.int .i64 kd, .int .u64 off, .slice da dat.length dc, .int .i64 n] 48)).alloc (.cells #[.int .i64 1, .int .i64 0, .slice none 0 0] 50)) := ((Below.refl _ _).alloc (Nat.le_refl _) _).alloc (by simp) _
    have hst : RStep w B base z g cap (⟨1, 0, []⟩, s) ((w.alloc (.cells #[.int .i64 kd, .int .u64 off, .slice da dat.length dc, .int .i64 n] 48)).alloc (.cells #[.int .i64 1, .int .i64 0, .slice none 0 0] 50)) (.slice none 0 0) := ⟨⟨rfl, .inl ⟨rfl, rfl⟩⟩, ⟨L, HB0.out.kept (hb9.block B hBl) (hb9.block g hgl.2)⟩, ⟨hb9.os, hb9.tape, hb9.output, hb9.size, fun k h1 _ _ => hb9.block k h1⟩⟩
    have HS : Hid _ := hst
    clear hp ht he hV hR hE hb9 hst
    go_enter Try.func76, Try.ntmps76
    go_wp2_with fail
    exact bodyPost_ret (v := .agg #[.int .i64 1, .int .i64 0, .slice none 0 0]) (by simp [results, Try.results76, go_sem]) rfl (by rw [HE.out]; exact ⟨none, 0, rfl, HS.out⟩)
end Go.Proofs.Ytpeecjoadgefjaa
