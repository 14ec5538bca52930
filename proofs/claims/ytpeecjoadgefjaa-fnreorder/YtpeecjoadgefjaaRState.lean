import Derived.Test.YtpeecjoadgefjaaRView
import Derived.Deep.RegionWith
import Derived.Deep.RegionHeld3
namespace Go.Proofs.Ytpeecjoadgefjaa
open Go.ChangeShapes Go.WideShapes Go.ChangeAt Go.RowKit
set_option linter.unusedVariables false

theorem cells5r {w : World} {B : Nat} {t : TypeId} {x0 x1 x2 x3 x4 : Value} (h : w.heap[B]? = some (.cells #[x0, x1, x2, x3, x4] t (0, 0))) :
    (w.cell? ⟨B, 0, none⟩ = some x0 ∧ w.cell? ⟨B, 1, none⟩ = some x1 ∧ w.cell? ⟨B, 2, none⟩ = some x2 ∧ w.cell? ⟨B, 3, none⟩ = some x3 ∧ w.cell? ⟨B, 4, none⟩ = some x4) ∧ (∀ j, w.frozen? ⟨B, j, none⟩ = false) :=
  ⟨⟨Go.Joins.cell_of_block h 0, Go.Joins.cell_of_block h 1, Go.Joins.cell_of_block h 2, Go.Joins.cell_of_block h 3, Go.Joins.cell_of_block h 4⟩, fun j => Go.Joins.unfrozen_of_block h _⟩
theorem set5r {w : World} {b : Nat} {x0 x1 x2 x3 x4 : Value} {t : TypeId} (h : w.heap[b]? = some (.cells #[x0, x1, x2, x3, x4] t (0, 0))) (u v s q r : Value) :
    (((((w.setCell ⟨b, 0, none⟩ u).setCell ⟨b, 1, none⟩ v).setCell ⟨b, 2, none⟩ s).setCell ⟨b, 3, none⟩ q).setCell ⟨b, 4, none⟩ r).heap[b]? = some (.cells #[u, v, s, q, r] t (0, 0)) := by
  have h0 := heap_setCell_same w b 0 _ _ u h
  have h1 := heap_setCell_same _ b 1 _ _ v h0
  have h2 := heap_setCell_same _ b 2 _ _ s h1
  have h3 := heap_setCell_same _ b 3 _ _ q h2
  exact heap_setCell_same _ b 4 _ _ r h3
theorem fill5_other (w : World) {b k : Nat} (h : k ≠ b) (u v s q r : Value) : (((((w.setCell ⟨b, 0, none⟩ u).setCell ⟨b, 1, none⟩ v).setCell ⟨b, 2, none⟩ s).setCell ⟨b, 3, none⟩ q).setCell ⟨b, 4, none⟩ r).heap[k]? = w.heap[k]? := by
  rw [heap_setCell_other _ _ _ _ h, heap_setCell_other _ _ _ _ h, heap_setCell_other _ _ _ _ h, heap_setCell_other _ _ _ _ h, heap_setCell_other _ _ _ _ h]
theorem fill5_below {B : Nat} {w0 w : World} (h : Below B w0 w) {b : Nat} (hb : B ≤ b) (u v s q r : Value) : Below B w0 (((((w.setCell ⟨b, 0, none⟩ u).setCell ⟨b, 1, none⟩ v).setCell ⟨b, 2, none⟩ s).setCell ⟨b, 3, none⟩ q).setCell ⟨b, 4, none⟩ r) :=
  ((((h.setCell (p := ⟨b, 0, none⟩) hb _).setCell (p := ⟨b, 1, none⟩) hb _).setCell (p := ⟨b, 2, none⟩) hb _).setCell (p := ⟨b, 3, none⟩) hb _).setCell (p := ⟨b, 4, none⟩) hb _

theorem cell_fill5 (w : World) {b k : Nat} (h : k ≠ b) (j : Nat) (u v s q r : Value) : (((((w.setCell ⟨b, 0, none⟩ u).setCell ⟨b, 1, none⟩ v).setCell ⟨b, 2, none⟩ s).setCell ⟨b, 3, none⟩ q).setCell ⟨b, 4, none⟩ r).cell? ⟨k, j, none⟩ = w.cell? ⟨k, j, none⟩ := by
  have e := fill5_other w h u v s q r
  unfold World.cell?
  simp only [e]

def viewV (z : Nat) (s : RB) (av : Option Addr) (cp : Nat) : Array Value := #[.int .u64 s.read, .int .u64 (s.read + (runLen s.f z s.read : Nat)), .slice av (heldR z s).length cp, .int .i64 s.hf, .int .u64 s.fin]
set_option maxHeartbeats 1000000 in
set_option maxRecDepth 100000 in
theorem view_any (w : World) (B base z g cap : Nat) (s : RB) (L : SlotL) (h : BufAt w B base z s g cap L) :
    Calls Try.prog 54 #[.pointer (some ⟨B, 0, none⟩)] w fun e w' => ∃ av cp, e = .returned (.agg (viewV z s av cp)) ∧ w'.ownsRow w.heap.size 31 2 (.slice av (heldR z s).length cp) (heldR z s).length (flat (heldR z s)) ∧ Below w.heap.size w w' := by
  have hBl : B < w.heap.size := (Array.getElem?_eq_some_iff.1 h.blk).1
  have hR0 := heap_alloc_new w (.cells #[.int .u64 0, .int .u64 0, .slice none 0 0, .int .i64 0, .int .u64 0] 44)
  have hb0 : Below w.heap.size w (w.alloc (.cells #[.int .u64 0, .int .u64 0, .slice none 0 0, .int .i64 0, .int .u64 0] 44)) := (Below.refl _ _).alloc (Nat.le_refl _) _
  obtain ⟨V, hV⟩ : ∃ V, V = w.alloc (.cells #[.int .u64 0, .int .u64 0, .slice none 0 0, .int .i64 0, .int .u64 0] 44) := ⟨_, rfl⟩
  have hs : Hid (V.heap.size = w.heap.size + 1) := by rw [hV]; unfold Hid; simp
  rw [← hV] at hR0 hb0
  obtain ⟨R, hR⟩ : ∃ R, R = w.heap.size := ⟨_, rfl⟩
  rw [← hR] at hR0
  have hRw : w.heap.size ≤ R := by omega
  have hRV : R < V.heap.size := by have := hs.out; omega
  have hVw : w.heap.size ≤ V.heap.size := by omega
  have hVb := h.below hb0
  obtain ⟨r, hr⟩ : ∃ r, Hid (r = s.read) := ⟨_, rfl⟩
  obtain ⟨fin, hfin⟩ : ∃ fin, Hid (fin = s.fin) := ⟨_, rfl⟩
  obtain ⟨hf', hhf⟩ : ∃ x, Hid (x = s.hf) := ⟨_, rfl⟩
  obtain ⟨nx, hnx⟩ : ∃ x, Hid (x = s.read + (runLen s.f z s.read : Nat)) := ⟨_, rfl⟩
  obtain ⟨S, hS⟩ : ∃ S, Hid (S = heldR z s) := ⟨_, rfl⟩
  have HN : Hid (∀ W, Below V.heap.size V W → Calls Try.prog 77 #[.pointer (some ⟨B, 0, none⟩)] W fun e w' => e = .returned (.int .u64 nx) ∧ ∃ m, w' = W.drewN m) := by
    intro W hW
    rw [hnx.out]
    exact next_any W B base z g cap s L (hVb.below hW)
  have HH : Hid (∀ W, Below V.heap.size V W → Calls Try.prog 78 #[.pointer (some ⟨B, 0, none⟩)] W fun e w' => ∃ av cp, e = .returned (.slice av S.length cp) ∧ w'.ownsRow W.heap.size 31 2 (.slice av S.length cp) S.length (flat S) ∧ Below W.heap.size W w') := by
    intro W hW
    rw [hS.out]
    exact held_any W B base z g cap s L (hVb.below hW)
  have HC : Hid (∀ W, Below V.heap.size V W → (W.cell? ⟨B, 0, none⟩ = some (.slice (some ⟨g, 0, none⟩) z cap) ∧ W.cell? ⟨B, 1, none⟩ = some (.int .u64 r) ∧ W.cell? ⟨B, 2, none⟩ = some (.int .i64 hf') ∧ W.cell? ⟨B, 3, none⟩ = some (.int .u64 fin)) ∧ W.heap[R]? = some (.cells #[.int .u64 0, .int .u64 0, .slice none 0 0, .int .i64 0, .int .u64 0] 44 (0, 0))) := by
    intro W hW
    rw [hr.out, hfin.out, hhf.out]
    exact ⟨(hVb.below hW).cells.1, (hW.block R hRV).trans hR0⟩
  obtain ⟨⟨c0, c1, c2, c3⟩, _⟩ := HC.out V (Below.refl _ _)
  clear h hVb
  go_enter Try.func54, Try.ntmps54
  go_upto_region 1 with fail
  rw [← hV, ← hR]
  clear hV hR
  have HT : Hid (∀ W w2, Below V.heap.size V W → Below W.heap.size W w2 → Below V.heap.size V w2) := fun W w2 h1 h2 => h1.trans (h2.mono h1.size)
  have L1 := HN.out V.drew (Below.refl _ _).drew
  have hBR : B ≠ R := by omega
  go_region_held3 (fun w' => w'.cell? ⟨B, 1, none⟩ = some (.int .u64 r) ∧ w'.cell? ⟨B, 2, none⟩ = some (.int .i64 hf') ∧ w'.cell? ⟨B, 3, none⟩ = some (.int .u64 fin))
    (first | with_reducible (refine ⟨?_, ?_, ?_⟩ <;> assumption) | (refine ⟨?_, ?_, ?_⟩ <;> (rw [cell_fill5 _ hBR]; with_reducible assumption)) | go_keep | exact ⟨by assumption, by assumption, by assumption⟩)
    (first
      | (go_at_call 77; with_reducible (refine Calls.mono L1 ?_); rintro e w1 ⟨rfl, m1, rfl⟩; have L2 := HH.out (V.drewN (1 + m1)) (drewsN (Below.refl _ _) _); have hb1 : Below V.heap.size V (V.drewN (1 + m1)) := drewsN (Below.refl _ _) _; obtain ⟨⟨x0, x1, x2, x3⟩, _⟩ := HC.out _ hb1)
      | (go_at_call 78; with_reducible (refine Calls.mono L2 ?_); rintro e w2 ⟨av, cp, rfl, hrow, hb2⟩; have hbz := HT.out _ _ hb1 hb2; obtain ⟨⟨y0, y1, y2, y3⟩, yR⟩ := HC.out w2 hbz; obtain ⟨⟨k0, k1, k2, k3, k4⟩, kf⟩ := cells5r yR; have kf0 := kf 0; have kf1 := kf 1; have kf2 := kf 2; have kf3 := kf 3; have kf4 := kf 4))
  go_wp2_with fail
  obtain ⟨⟨z0, z1, z2, z3, z4⟩, _⟩ := cells5r (set5r yR (.int .u64 r) (.int .u64 nx) (.slice av S.length cp) (.int .i64 hf') (.int .u64 fin))
  refine bodyPost_ret (v := .agg #[.int .u64 r, .int .u64 nx, .slice av S.length cp, .int .i64 hf', .int .u64 fin]) (by simp [results, Try.results54, go_sem, z0, z1, z2, z3, z4]) rfl ⟨av, cp, ?_, ?_, ?_⟩
  · rw [viewV, ← hnx.out, ← hr.out, ← hS.out, ← hhf.out, ← hfin.out]
  · rw [← hS.out]
    have hsz : (V.drewN (1 + m1)).heap.size = V.heap.size := rfl
    refine owned_base (row_stays hrow fun k hk => fill5_other w2 ?_ _ _ _ _ _) (by rw [hsz]; exact hVw)
    have := (hrow.lt k hk).1
    omega
  · exact fill5_below (hb0.trans (hbz.mono hVw)) hRw _ _ _ _ _
end Go.Proofs.Ytpeecjoadgefjaa
