import Derived.Test.YtpeecjoadgefjaaRSpec3
import Derived.Test.YtpeecjoadgefjaaRSpec4
import Derived.Test.YtpeecjoadgefjaaRView
import Derived.Deep.RegionWith
import Derived.Deep.RegionHeld3
namespace Go.Proofs.Ytpeecjoadgefjaa
open Go.ChangeShapes Go.WideShapes Go.ChangeAt Go.RowKit
set_option linter.unusedVariables false

theorem SStep.fill {w V w' : World} {B base R : Nat} {x : Int} {z : Nat} {v dv v' : Value} {Q : ROut × RB} {got' : List Int} (h : SStep V B base x z v Q w' dv v' got') (hV : Below w.heap.size w V) (hB : B < w.heap.size) (hvl : ∀ k, v.ownBlock = some k → k < w.heap.size) (hw : w.heap.size ≤ R) (hR : R < V.heap.size) (a b c : Value) :
    SStep w B base x z v Q (((w'.setCell ⟨R, 0, none⟩ a).setCell ⟨R, 1, none⟩ b).setCell ⟨R, 2, none⟩ c) dv v' got' := by
  have hRB : R ≠ B := by omega
  have hvR : v'.ownBlock ≠ some R := fun e => by
    rcases h.blk with e2 | e2
    · have := hvl R (by rw [← e2]; exact e); omega
    · have := e2 R e; omega
  have hm : Mv w w' B v.ownBlock := (show Mv w V B v.ownBlock from ⟨hV.os, hV.tape, hV.output, hV.size, fun k hk _ _ => hV.block k hk⟩).trans h.mv (.inl rfl)
  refine ⟨((h.buf.far R 0 a hRB hvR).far R 1 b hRB hvR).far R 2 c hRB hvR, ?_, ?_, ((hm.far R 0 hw a).far R 1 hw b).far R 2 hw c⟩
  · rcases h.blk with e | e
    · exact .inl e
    · exact .inr fun k hk => Nat.le_trans hV.size (e k hk)
  · refine owned_base (row_stays h.row fun k hk => ?_) hV.size
    have hne : k ≠ R := by have := (h.row.lt k hk).1; omega
    rw [heap_setCell_other _ _ _ _ hne, heap_setCell_other _ _ _ _ hne, heap_setCell_other _ _ _ _ hne]

set_option maxHeartbeats 1000000 in
set_option maxRecDepth 100000 in
theorem l5Step_any (w : World) (B base : Nat) (x : Int) (z : Nat) (s : RB) (v : Value) (got : List Int) (h : SpB w B base x z s v got) (hbs : base ≤ w.heap.size) (e : REv) (hk : StepOk z s e) (hr9 : s.read + z ≤ x + 20000000) (da : Option Addr) (dc : Nat) (hd : Ints .u8 w da e.dat) (hdb : ∀ b o, da = some ⟨b, o, none⟩ → b ≠ B ∧ v.ownBlock ≠ some b ∧ b < w.heap.size) :
    Calls Try.prog 72 #[.pointer (some ⟨B, 0, none⟩), .agg (evV e.kd e.off da e.dat.length dc e.n)] w (SStepsTo w B base x z v (stepR z s e)) := by
  have hBl : B < w.heap.size := h.lt
  have hvl : ∀ k, v.ownBlock = some k → k < w.heap.size := fun k hk => (h.row.lt k hk).2
  obtain ⟨kd, off, dat, n⟩ := e
  have o0 := hk.o0
  have o1 := hk.o1
  have n0 := hk.n0
  have n1 := hk.n1
  simp only at hd o0 o1 n0 n1
  simp only [evV]
  have hb0 : Below w.heap.size w ((w.alloc (.cells #[.int .i64 kd, .int .u64 off, .slice da dat.length dc, .int .i64 n] 48)).alloc (.cells #[.int .i64 0, .int .i64 0, .slice none 0 0] 50)) := ((Below.refl _ _).alloc (Nat.le_refl _) _).alloc (by simp) _
  have hR0 := heap_alloc_new (w.alloc (.cells #[.int .i64 kd, .int .u64 off, .slice da dat.length dc, .int .i64 n] 48)) (.cells #[.int .i64 0, .int .i64 0, .slice none 0 0] 50)
  have hE0 : ((w.alloc (.cells #[.int .i64 kd, .int .u64 off, .slice da dat.length dc, .int .i64 n] 48)).alloc (.cells #[.int .i64 0, .int .i64 0, .slice none 0 0] 50)).heap[w.heap.size]? = some (.cells #[.int .i64 kd, .int .u64 off, .slice da dat.length dc, .int .i64 n] 48) := (Below.heap_alloc _ _ _ (by simp)).trans (heap_alloc_new _ _)
  have hs0 : ((w.alloc (.cells #[.int .i64 kd, .int .u64 off, .slice da dat.length dc, .int .i64 n] 48)).alloc (.cells #[.int .i64 0, .int .i64 0, .slice none 0 0] 50)).heap.size = w.heap.size + 2 := by simp
  have hs1 : (w.alloc (.cells #[.int .i64 kd, .int .u64 off, .slice da dat.length dc, .int .i64 n] 48)).heap.size = w.heap.size + 1 := by simp
  rw [hs1] at hR0
  obtain ⟨V, hV⟩ : ∃ V, V = (w.alloc (.cells #[.int .i64 kd, .int .u64 off, .slice da dat.length dc, .int .i64 n] 48)).alloc (.cells #[.int .i64 0, .int .i64 0, .slice none 0 0] 50) := ⟨_, rfl⟩
  rw [← hV] at hb0 hR0 hE0 hs0
  have hVb : SpB V B base x z s v got := h.below hb0
  have hdV := hd.moved hb0
  obtain ⟨R, hR⟩ : ∃ R, R = w.heap.size + 1 := ⟨_, rfl⟩
  rw [← hR] at hR0
  obtain ⟨E, hE⟩ : ∃ E, E = w.heap.size := ⟨_, rfl⟩
  rw [← hE] at hE0
  have nB : B ≠ R := by omega
  have hRw : w.heap.size ≤ R := by omega
  have hRV : R < V.heap.size := by omega
  have hvR : v.ownBlock ≠ some R := fun e => by have := hvl R e; omega
  have c0 : V.cell? ⟨E, 0, none⟩ = some (.int .i64 kd) := Go.Joins.cell_of_block hE0 0
  have c1 : V.cell? ⟨E, 1, none⟩ = some (.int .u64 off) := Go.Joins.cell_of_block hE0 1
  have c2 : V.cell? ⟨E, 2, none⟩ = some (.slice da dat.length dc) := Go.Joins.cell_of_block hE0 2
  have c3 : V.cell? ⟨E, 3, none⟩ = some (.int .i64 n) := Go.Joins.cell_of_block hE0 3
  have hp := l5Put_any V B base x z s v got hVb (by omega) off o0 o1 da dat dc hdV hk.dv hk.dl (fun b o e => ⟨(hdb b o e).1, (hdb b o e).2.1, by have := (hdb b o e).2.2; omega⟩)
  have ht := l5Take_any V B base x z s v got hVb n n0 n1 hr9
  have he := l5Fin_any V B base x z s v got hVb off o0 o1
  have HB0 : Hid (SpB w B base x z s v got) := h
  clear hs0 hs1 hE0 h hd hdb
  clear hVb
  by_cases h1 : kd = 1
  case pos =>
    subst h1
    have HE : Hid (stepR z s ⟨1, off, dat, n⟩ = putR z s off dat) := rfl
    obtain ⟨Q, hQ⟩ : ∃ Q, Q = putR z s off dat := ⟨_, rfl⟩
    rw [← hQ] at hp
    have HQ : Hid _ := hQ
    clear hQ ht he
    go_enter Try.func72, Try.ntmps72
    go_wp2_with fail
    rw [← hV, ← hR, ← hE]
    clear hV hR hE
    go_wp2_with fail
    refine hp.mono ?_
    rintro e w2 ⟨av, cp, v', got', rfl, hst⟩
    have hX2 : w2.heap[R]? = some (.cells #[.int .i64 0, .int .i64 0, .slice none 0 0] 50 (0, 0)) := (hst.mv.block R hRV (Ne.symm nB) (Ne.symm hvR)).trans hR0
    have hfl := hst.fill hb0 hBl hvl hRw hRV (.int .i64 Q.1.code) (.int .i64 Q.1.n) (.slice av Q.1.dat.length cp)
    obtain ⟨⟨k0, k1, k2⟩, kf0, kf1, kf2⟩ := cells3r hX2
    obtain ⟨⟨z0, z1, z2⟩, _⟩ := cells3r (set3r hX2 (.int .i64 Q.1.code) (.int .i64 Q.1.n) (.slice av Q.1.dat.length cp))
    clear hp c0 c1 c2 c3
    go_wp2_with fail
    exact bodyPost_ret (v := .agg #[.int .i64 Q.1.code, .int .i64 Q.1.n, .slice av Q.1.dat.length cp]) (by simp [results, Try.results72, go_sem, z0, z1, z2]) rfl (by rw [HE.out, ← HQ.out]; exact ⟨av, cp, v', got', rfl, hfl⟩)
  case neg =>
  have b1 : (kd == 1) = false := by simpa using h1
  by_cases h2 : kd = 2
  case pos =>
    subst h2
    have HE : Hid (stepR z s ⟨2, off, dat, n⟩ = takeR z s n) := rfl
    obtain ⟨Q, hQ⟩ : ∃ Q, Q = takeR z s n := ⟨_, rfl⟩
    rw [← hQ] at ht
    have HQ : Hid _ := hQ
    clear hQ hp he
    go_enter Try.func72, Try.ntmps72
    go_wp2_with fail
    rw [← hV, ← hR, ← hE]
    clear hV hR hE
    go_wp2_with fail
    refine ht.mono ?_
    rintro e w2 ⟨av, cp, v', got', rfl, hst⟩
    have hX2 : w2.heap[R]? = some (.cells #[.int .i64 0, .int .i64 0, .slice none 0 0] 50 (0, 0)) := (hst.mv.block R hRV (Ne.symm nB) (Ne.symm hvR)).trans hR0
    have hfl := hst.fill hb0 hBl hvl hRw hRV (.int .i64 Q.1.code) (.int .i64 Q.1.n) (.slice av Q.1.dat.length cp)
    obtain ⟨⟨k0, k1, k2⟩, kf0, kf1, kf2⟩ := cells3r hX2
    obtain ⟨⟨z0, z1, z2⟩, _⟩ := cells3r (set3r hX2 (.int .i64 Q.1.code) (.int .i64 Q.1.n) (.slice av Q.1.dat.length cp))
    clear ht c0 c1 c2 c3
    go_wp2_with fail
    exact bodyPost_ret (v := .agg #[.int .i64 Q.1.code, .int .i64 Q.1.n, .slice av Q.1.dat.length cp]) (by simp [results, Try.results72, go_sem, z0, z1, z2]) rfl (by rw [HE.out, ← HQ.out]; exact ⟨av, cp, v', got', rfl, hfl⟩)
  case neg =>
  have b2 : (kd == 2) = false := by simpa using h2
  by_cases h3 : kd = 3
  case pos =>
    subst h3
    have HE : Hid (stepR z s ⟨3, off, dat, n⟩ = endR z s off) := rfl
    obtain ⟨Q, hQ⟩ : ∃ Q, Q = endR z s off := ⟨_, rfl⟩
    rw [← hQ] at he
    have HQ : Hid _ := hQ
    clear hQ hp ht
    go_enter Try.func72, Try.ntmps72
    go_wp2_with fail
    rw [← hV, ← hR, ← hE]
    clear hV hR hE
    go_wp2_with fail
    refine he.mono ?_
    rintro e w2 ⟨av, cp, v', got', rfl, hst⟩
    have hX2 : w2.heap[R]? = some (.cells #[.int .i64 0, .int .i64 0, .slice none 0 0] 50 (0, 0)) := (hst.mv.block R hRV (Ne.symm nB) (Ne.symm hvR)).trans hR0
    have hfl := hst.fill hb0 hBl hvl hRw hRV (.int .i64 Q.1.code) (.int .i64 Q.1.n) (.slice av Q.1.dat.length cp)
    obtain ⟨⟨k0, k1, k2⟩, kf0, kf1, kf2⟩ := cells3r hX2
    obtain ⟨⟨z0, z1, z2⟩, _⟩ := cells3r (set3r hX2 (.int .i64 Q.1.code) (.int .i64 Q.1.n) (.slice av Q.1.dat.length cp))
    clear he c0 c1 c2 c3
    go_wp2_with fail
    exact bodyPost_ret (v := .agg #[.int .i64 Q.1.code, .int .i64 Q.1.n, .slice av Q.1.dat.length cp]) (by simp [results, Try.results72, go_sem, z0, z1, z2]) rfl (by rw [HE.out, ← HQ.out]; exact ⟨av, cp, v', got', rfl, hfl⟩)
  case neg =>
    have b3 : (kd == 3) = false := by simpa using h3
    have HE : Hid (stepR z s ⟨kd, off, dat, n⟩ = (⟨1, 0, []⟩, s)) := by unfold Hid stepR; simp only; rw [if_neg h1, if_neg h2, if_neg h3]
    have hb9 : Below w.heap.size w ((w.alloc (.cells #[.int .i64 kd, .int .u64 off, .slice da dat.length dc, .int .i64 n] 48)).alloc (.cells #[.int .i64 1, .int .i64 0, .slice none 0 0] 50)) := ((Below.refl _ _).alloc (Nat.le_refl _) _).alloc (by simp) _
    have hst : SStep w B base x z v (⟨1, 0, []⟩, s) ((w.alloc (.cells #[.int .i64 kd, .int .u64 off, .slice da dat.length dc, .int .i64 n] 48)).alloc (.cells #[.int .i64 1, .int .i64 0, .slice none 0 0] 50)) (.slice none 0 0) v got := ⟨HB0.out.below hb9, .inl rfl, ⟨rfl, .inl ⟨rfl, rfl⟩⟩, ⟨hb9.os, hb9.tape, hb9.output, hb9.size, fun k h1 _ _ => hb9.block k h1⟩⟩
    have HS : Hid _ := hst
    clear hp ht he hV hR hE hb9 hst
    go_enter Try.func72, Try.ntmps72
    go_wp2_with fail
    exact bodyPost_ret (v := .agg #[.int .i64 1, .int .i64 0, .slice none 0 0]) (by simp [results, Try.results72, go_sem]) rfl (by rw [HE.out]; exact ⟨none, 0, v, got, rfl, HS.out⟩)
end Go.Proofs.Ytpeecjoadgefjaa

namespace Go.Proofs.Ytpeecjoadgefjaa
open Go.ChangeShapes Go.WideShapes Go.ChangeAt Go.RowKit
set_option linter.unusedVariables false

theorem cells5r {w : World} {B : Nat} {t : TypeId} {x0 x1 x2 x3 x4 : Value} (h : w.heap[B]? = some (.cells #[x0, x1, x2, x3, x4] t (0, 0))) :
    (w.cell? ⟨B, 0, none⟩ = some x0 ∧ w.cell? ⟨B, 1, none⟩ = some x1 ∧ w.cell? ⟨B, 2, none⟩ = some x2 ∧ w.cell? ⟨B, 3, none⟩ = some x3 ∧ w.cell? ⟨B, 4, none⟩ = some x4) ∧ (∀ j, w.frozen? ⟨B, j, none⟩ = false) :=
  ⟨⟨Go.Joins.cell_of_block h 0, Go.Joins.cell_of_block h 1, Go.Joins.cell_of_block h 2, Go.Joins.cell_of_block h 3, Go.Joins.cell_of_block h 4⟩, fun j => Go.Joins.unfrozen_of_block h _⟩
theorem set5r {w : World} {b : Nat} {x0 x1 x2 x3 x4 : Value} {t : TypeId} (h : w.heap[b]? = some (.cells #[x0, x1, x2, x3, x4] t (0, 0))) (u v s q r : Value) :
    (((((w.setCell ⟨b, 0, none⟩ u).setCell ⟨b, 1, none⟩ v).setCell ⟨b, 2, none⟩ s).setCell ⟨b, 3, none⟩ q).setCell ⟨b, 4, none⟩ r).heap[b]? = some (.cells #[u, v, s, q, r] t (0, 0)) := by
  have h0 := heap_setCell_same w b 0 _ _ u h
  have h1 := heap_setCell_same _ b 1 _ _ v h0
  have h2 := heap_setCell_same _ b 2 _ _ s h1
  have h3 := heap_setCell_same _ b 3 _ _ q h2
  exact heap_setCell_same _ b 4 _ _ r h3
theorem fill5_other (w : World) {b k : Nat} (h : k ≠ b) (u v s q r : Value) : (((((w.setCell ⟨b, 0, none⟩ u).setCell ⟨b, 1, none⟩ v).setCell ⟨b, 2, none⟩ s).setCell ⟨b, 3, none⟩ q).setCell ⟨b, 4, none⟩ r).heap[k]? = w.heap[k]? := by
  rw [heap_setCell_other _ _ _ _ h, heap_setCell_other _ _ _ _ h, heap_setCell_other _ _ _ _ h, heap_setCell_other _ _ _ _ h, heap_setCell_other _ _ _ _ h]
theorem fill5_below {B : Nat} {w0 w : World} (h : Below B w0 w) {b : Nat} (hb : B ≤ b) (u v s q r : Value) : Below B w0 (((((w.setCell ⟨b, 0, none⟩ u).setCell ⟨b, 1, none⟩ v).setCell ⟨b, 2, none⟩ s).setCell ⟨b, 3, none⟩ q).setCell ⟨b, 4, none⟩ r) :=
  ((((h.setCell (p := ⟨b, 0, none⟩) hb _).setCell (p := ⟨b, 1, none⟩) hb _).setCell (p := ⟨b, 2, none⟩) hb _).setCell (p := ⟨b, 3, none⟩) hb _).setCell (p := ⟨b, 4, none⟩) hb _

theorem cell_fill5 (w : World) {b k : Nat} (h : k ≠ b) (j : Nat) (u v s q r : Value) : (((((w.setCell ⟨b, 0, none⟩ u).setCell ⟨b, 1, none⟩ v).setCell ⟨b, 2, none⟩ s).setCell ⟨b, 3, none⟩ q).setCell ⟨b, 4, none⟩ r).cell? ⟨k, j, none⟩ = w.cell? ⟨k, j, none⟩ := by
  have e := fill5_other w h u v s q r
  unfold World.cell?
  simp only [e]

def viewV (z : Nat) (s : RB) (av : Option Addr) (cp : Nat) : Array Value := #[.int .u64 s.read, .int .u64 (s.read + (runLen s.f z s.read : Nat)), .slice av (heldR z s).length cp, .int .i64 s.hf, .int .u64 s.fin]
set_option maxHeartbeats 1000000 in
set_option maxRecDepth 100000 in
theorem view_any (w : World) (B base z g cap : Nat) (s : RB) (L : SlotL) (h : BufAt w B base z s g cap L) :
    Calls Try.prog 54 #[.pointer (some ⟨B, 0, none⟩)] w fun e w' => ∃ av cp, e = .returned (.agg (viewV z s av cp)) ∧ w'.ownsRow w.heap.size 31 2 (.slice av (heldR z s).length cp) (heldR z s).length (flat (heldR z s)) ∧ Below w.heap.size w w' := by
  have hBl : B < w.heap.size := (Array.getElem?_eq_some_iff.1 h.blk).1
  have hR0 := heap_alloc_new w (.cells #[.int .u64 0, .int .u64 0, .slice none 0 0, .int .i64 0, .int .u64 0] 44)
  have hb0 : Below w.heap.size w (w.alloc (.cells #[.int .u64 0, .int .u64 0, .slice none 0 0, .int .i64 0, .int .u64 0] 44)) := (Below.refl _ _).alloc (Nat.le_refl _) _
  obtain ⟨V, hV⟩ : ∃ V, V = w.alloc (.cells #[.int .u64 0, .int .u64 0, .slice none 0 0, .int .i64 0, .int .u64 0] 44) := ⟨_, rfl⟩
  have hs : Hid (V.heap.size = w.heap.size + 1) := by rw [hV]; unfold Hid; simp
  rw [← hV] at hR0 hb0
  obtain ⟨R, hR⟩ : ∃ R, R = w.heap.size := ⟨_, rfl⟩
  rw [← hR] at hR0
  have hRw : w.heap.size ≤ R := by omega
  have hRV : R < V.heap.size := by have := hs.out; omega
  have hVw : w.heap.size ≤ V.heap.size := by omega
  have hVb := h.below hb0
  obtain ⟨r, hr⟩ : ∃ r, Hid (r = s.read) := ⟨_, rfl⟩
  obtain ⟨fin, hfin⟩ : ∃ fin, Hid (fin = s.fin) := ⟨_, rfl⟩
  obtain ⟨hf', hhf⟩ : ∃ x, Hid (x = s.hf) := ⟨_, rfl⟩
  obtain ⟨nx, hnx⟩ : ∃ x, Hid (x = s.read + (runLen s.f z s.read : Nat)) := ⟨_, rfl⟩
  obtain ⟨S, hS⟩ : ∃ S, Hid (S = heldR z s) := ⟨_, rfl⟩
  have HN : Hid (∀ W, Below V.heap.size V W → Calls Try.prog 77 #[.pointer (some ⟨B, 0, none⟩)] W fun e w' => e = .returned (.int .u64 nx) ∧ ∃ m, w' = W.drewN m) := by
    intro W hW
    rw [hnx.out]
    exact next_any W B base z g cap s L (hVb.below hW)
  have HH : Hid (∀ W, Below V.heap.size V W → Calls Try.prog 78 #[.pointer (some ⟨B, 0, none⟩)] W fun e w' => ∃ av cp, e = .returned (.slice av S.length cp) ∧ w'.ownsRow W.heap.size 31 2 (.slice av S.length cp) S.length (flat S) ∧ Below W.heap.size W w') := by
    intro W hW
    rw [hS.out]
    exact held_any W B base z g cap s L (hVb.below hW)
  have HC : Hid (∀ W, Below V.heap.size V W → (W.cell? ⟨B, 0, none⟩ = some (.slice (some ⟨g, 0, none⟩) z cap) ∧ W.cell? ⟨B, 1, none⟩ = some (.int .u64 r) ∧ W.cell? ⟨B, 2, none⟩ = some (.int .i64 hf') ∧ W.cell? ⟨B, 3, none⟩ = some (.int .u64 fin)) ∧ W.heap[R]? = some (.cells #[.int .u64 0, .int .u64 0, .slice none 0 0, .int .i64 0, .int .u64 0] 44 (0, 0))) := by
    intro W hW
    rw [hr.out, hfin.out, hhf.out]
    exact ⟨(hVb.below hW).cells.1, (hW.block R hRV).trans hR0⟩
  obtain ⟨⟨c0, c1, c2, c3⟩, _⟩ := HC.out V (Below.refl _ _)
  clear h hVb
  go_enter Try.func54, Try.ntmps54
  go_upto_region 1 with fail
  rw [← hV, ← hR]
  clear hV hR
  have HT : Hid (∀ W w2, Below V.heap.size V W → Below W.heap.size W w2 → Below V.heap.size V w2) := fun W w2 h1 h2 => h1.trans (h2.mono h1.size)
  have L1 := HN.out V.drew (Below.refl _ _).drew
  have hBR : B ≠ R := by omega
  go_region_held3 (fun w' => w'.cell? ⟨B, 1, none⟩ = some (.int .u64 r) ∧ w'.cell? ⟨B, 2, none⟩ = some (.int .i64 hf') ∧ w'.cell? ⟨B, 3, none⟩ = some (.int .u64 fin))
    (first | with_reducible (refine ⟨?_, ?_, ?_⟩ <;> assumption) | (refine ⟨?_, ?_, ?_⟩ <;> (rw [cell_fill5 _ hBR]; with_reducible assumption)) | go_keep | exact ⟨by assumption, by assumption, by assumption⟩)
    (first
      | (go_at_call 77; with_reducible (refine Calls.mono L1 ?_); rintro e w1 ⟨rfl, m1, rfl⟩; have L2 := HH.out (V.drewN (1 + m1)) (drewsN (Below.refl _ _) _); have hb1 : Below V.heap.size V (V.drewN (1 + m1)) := drewsN (Below.refl _ _) _; obtain ⟨⟨x0, x1, x2, x3⟩, _⟩ := HC.out _ hb1)
      | (go_at_call 78; with_reducible (refine Calls.mono L2 ?_); rintro e w2 ⟨av, cp, rfl, hrow, hb2⟩; have hbz := HT.out _ _ hb1 hb2; obtain ⟨⟨y0, y1, y2, y3⟩, yR⟩ := HC.out w2 hbz; obtain ⟨⟨k0, k1, k2, k3, k4⟩, kf⟩ := cells5r yR; have kf0 := kf 0; have kf1 := kf 1; have kf2 := kf 2; have kf3 := kf 3; have kf4 := kf 4))
  go_wp2_with fail
  obtain ⟨⟨z0, z1, z2, z3, z4⟩, _⟩ := cells5r (set5r yR (.int .u64 r) (.int .u64 nx) (.slice av S.length cp) (.int .i64 hf') (.int .u64 fin))
  refine bodyPost_ret (v := .agg #[.int .u64 r, .int .u64 nx, .slice av S.length cp, .int .i64 hf', .int .u64 fin]) (by simp [results, Try.results54, go_sem, z0, z1, z2, z3, z4]) rfl ⟨av, cp, ?_, ?_, ?_⟩
  · rw [viewV, ← hnx.out, ← hr.out, ← hS.out, ← hhf.out, ← hfin.out]
  · rw [← hS.out]
    have hsz : (V.drewN (1 + m1)).heap.size = V.heap.size := rfl
    refine owned_base (row_stays hrow fun k hk => fill5_other w2 ?_ _ _ _ _ _) (by rw [hsz]; exact hVw)
    have := (hrow.lt k hk).1
    omega
  · exact fill5_below (hb0.trans (hbz.mono hVw)) hRw _ _ _ _ _
end Go.Proofs.Ytpeecjoadgefjaa
