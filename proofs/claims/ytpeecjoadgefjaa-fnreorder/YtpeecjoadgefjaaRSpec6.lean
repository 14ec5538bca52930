import Derived.Test.YtpeecjoadgefjaaRSpec5
import Derived.Test.YtpeecjoadgefjaaRState2
namespace Go.Proofs.Ytpeecjoadgefjaa
open Go.ChangeShapes Go.WideShapes Go.ChangeAt Go.RowKit
set_option linter.unusedVariables false

theorem cells6r {w : World} {B : Nat} {t : TypeId} {x0 x1 x2 x3 x4 x5 : Value} (h : w.heap[B]? = some (.cells #[x0, x1, x2, x3, x4, x5] t (0, 0))) :
    (w.cell? ⟨B, 0, none⟩ = some x0 ∧ w.cell? ⟨B, 1, none⟩ = some x1 ∧ w.cell? ⟨B, 2, none⟩ = some x2 ∧ w.cell? ⟨B, 3, none⟩ = some x3 ∧ w.cell? ⟨B, 4, none⟩ = some x4 ∧ w.cell? ⟨B, 5, none⟩ = some x5) ∧ (∀ j, w.frozen? ⟨B, j, none⟩ = false) :=
  ⟨⟨Go.Joins.cell_of_block h 0, Go.Joins.cell_of_block h 1, Go.Joins.cell_of_block h 2, Go.Joins.cell_of_block h 3, Go.Joins.cell_of_block h 4, Go.Joins.cell_of_block h 5⟩, fun j => Go.Joins.unfrozen_of_block h _⟩
theorem set6r {w : World} {b : Nat} {x0 x1 x2 x3 x4 x5 : Value} {t : TypeId} (h : w.heap[b]? = some (.cells #[x0, x1, x2, x3, x4, x5] t (0, 0))) (u v s q r o : Value) :
    ((((((w.setCell ⟨b, 0, none⟩ u).setCell ⟨b, 1, none⟩ v).setCell ⟨b, 2, none⟩ s).setCell ⟨b, 3, none⟩ q).setCell ⟨b, 4, none⟩ r).setCell ⟨b, 5, none⟩ o).heap[b]? = some (.cells #[u, v, s, q, r, o] t (0, 0)) := by
  have h0 := heap_setCell_same w b 0 _ _ u h
  have h1 := heap_setCell_same _ b 1 _ _ v h0
  have h2 := heap_setCell_same _ b 2 _ _ s h1
  have h3 := heap_setCell_same _ b 3 _ _ q h2
  have h4 := heap_setCell_same _ b 4 _ _ r h3
  exact heap_setCell_same _ b 5 _ _ o h4
theorem fill6_other (w : World) {b k : Nat} (h : k ≠ b) (u v s q r o : Value) : ((((((w.setCell ⟨b, 0, none⟩ u).setCell ⟨b, 1, none⟩ v).setCell ⟨b, 2, none⟩ s).setCell ⟨b, 3, none⟩ q).setCell ⟨b, 4, none⟩ r).setCell ⟨b, 5, none⟩ o).heap[k]? = w.heap[k]? := by
  rw [heap_setCell_other _ _ _ _ h, heap_setCell_other _ _ _ _ h, heap_setCell_other _ _ _ _ h, heap_setCell_other _ _ _ _ h, heap_setCell_other _ _ _ _ h, heap_setCell_other _ _ _ _ h]
theorem fill6_below {B : Nat} {w0 w : World} (h : Below B w0 w) {b : Nat} (hb : B ≤ b) (u v s q r o : Value) : Below B w0 ((((((w.setCell ⟨b, 0, none⟩ u).setCell ⟨b, 1, none⟩ v).setCell ⟨b, 2, none⟩ s).setCell ⟨b, 3, none⟩ q).setCell ⟨b, 4, none⟩ r).setCell ⟨b, 5, none⟩ o) :=
  (((((h.setCell (p := ⟨b, 0, none⟩) hb _).setCell (p := ⟨b, 1, none⟩) hb _).setCell (p := ⟨b, 2, none⟩) hb _).setCell (p := ⟨b, 3, none⟩) hb _).setCell (p := ⟨b, 4, none⟩) hb _).setCell (p := ⟨b, 5, none⟩) hb _

theorem l5Begin_any (x : Int) (z : Int) (w : World) : Calls Try.prog 68 #[.int .u64 x, .int .i64 z] w fun e w' => e = .returned (.agg #[.int .u64 x, .int .i64 z, .slice none 0 0, .int .i64 0, .int .u64 0, .bool false]) ∧ Below w.heap.size w w' := by
  go_enter Try.func68, Try.ntmps68
  go_wp2
  exact bodyPost_ret (v := .agg #[.int .u64 x, .int .i64 z, .slice none 0 0, .int .i64 0, .int .u64 0, .bool false]) (by simp [results, Try.results68, go_sem]) rfl ⟨rfl, (Below.refl _ _).alloc (Nat.le_refl _) _⟩

abbrev zeroB : Array Value := #[.int .u64 0, .int .i64 0, .slice none 0 0, .int .i64 0, .int .u64 0, .bool false]
set_option maxHeartbeats 1000000 in
theorem l5Run_bad (x z : Int) (hno : ¬ OkR x z) (a : Option Addr) (n cap : Nat) (w : World) :
    Calls Try.prog 52 #[.int .u64 x, .int .i64 z, .slice a n cap] w fun e w' => e = .returned (.tuple #[.agg zeroB, .slice none 0 0, .int .i64 17]) ∧ Below w.heap.size w w' := by
  have hR0 := heap_alloc_new w (.cells zeroB 83)
  have hb0 : Below w.heap.size w (w.alloc (.cells zeroB 83)) := (Below.refl _ _).alloc (Nat.le_refl _) _
  obtain ⟨V, hV⟩ : ∃ V, V = w.alloc (.cells zeroB 83) := ⟨_, rfl⟩
  rw [← hV] at hR0 hb0
  obtain ⟨R, hR⟩ : ∃ R, R = w.heap.size := ⟨_, rfl⟩
  rw [← hR] at hR0
  have hRw : w.heap.size ≤ R := by omega
  obtain ⟨⟨k0, k1, k2, k3, k4, k5⟩, kf⟩ := cells6r hR0
  have kf0 := kf 0
  have kf1 := kf 1
  have kf2 := kf 2
  have kf3 := kf 3
  have kf4 := kf 4
  have kf5 := kf 5
  obtain ⟨⟨z0, z1, z2, z3, z4, z5⟩, _⟩ := cells6r (set6r hR0 (.int .u64 0) (.int .i64 0) (.slice none 0 0) (.int .i64 0) (.int .u64 0) (.bool false))
  go_enter Try.func52, Try.ntmps52
  go_upto_region 1 with fail
  rw [← hV, ← hR]
  clear hV hR
  go_cut [21] from 12 to 20 (fun v wx => v = .bool true ∧ V = wx)
  case first =>
    by_cases h1 : 4611686018427387904 < x
    · have d1 : decide (4611686018427387904 < x) = true := by rw [decide_eq_true_iff]; exact h1
      go_wp2_with fail
      go_meet
      case rel => exact ⟨rfl, rfl⟩
    · have d1 : decide (4611686018427387904 < x) = false := by rw [decide_eq_false_iff_not]; exact h1
      by_cases h2 : z < 1
      · have d2 : decide (z < 1) = true := by rw [decide_eq_true_iff]; exact h2
        go_wp2_with fail
        go_meet
        case rel => exact ⟨rfl, rfl⟩
      · have d2 : decide (z < 1) = false := by rw [decide_eq_false_iff_not]; exact h2
        have d3 : decide (4096 < z) = true := by rw [decide_eq_true_iff]; by_cases h3 : 4096 < z; exact h3; exact absurd ⟨by omega, by omega, by omega⟩ hno
        go_wp2_with fail
        go_meet
        case rel => exact ⟨rfl, rfl⟩
  case rest =>
  obtain ⟨rfl, hwe⟩ := hcut
  subst hwe
  go_wp2_with fail
  exact bodyPost_ret (v := .tuple #[.agg zeroB, .slice none 0 0, .int .i64 17]) (by simp [results, Try.results52, go_sem, z0, z1, z2, z3, z4, z5]) rfl ⟨rfl, fill6_below hb0 hRw _ _ _ _ _ _⟩

set_option maxHeartbeats 1000000 in
theorem l5Run_limit (x : Int) (z : Nat) (hx : OkR x z) (a : Option Addr) (n cap : Nat) (w : World) (hl : 4000 < n) :
    Calls Try.prog 52 #[.int .u64 x, .int .i64 (z : Int), .slice a n cap] w fun e w' => e = .returned (.tuple #[.agg zeroB, .slice none 0 0, .int .i64 5]) ∧ Below w.heap.size w w' := by
  have hR0 := heap_alloc_new w (.cells zeroB 83)
  have hb0 : Below w.heap.size w (w.alloc (.cells zeroB 83)) := (Below.refl _ _).alloc (Nat.le_refl _) _
  obtain ⟨V, hV⟩ : ∃ V, V = w.alloc (.cells zeroB 83) := ⟨_, rfl⟩
  rw [← hV] at hR0 hb0
  obtain ⟨R, hR⟩ : ∃ R, R = w.heap.size := ⟨_, rfl⟩
  rw [← hR] at hR0
  have hRw : w.heap.size ≤ R := by omega
  obtain ⟨⟨k0, k1, k2, k3, k4, k5⟩, kf⟩ := cells6r hR0
  have kf0 := kf 0
  have kf1 := kf 1
  have kf2 := kf 2
  have kf3 := kf 3
  have kf4 := kf 4
  have kf5 := kf 5
  obtain ⟨⟨z0, z1, z2, z3, z4, z5⟩, _⟩ := cells6r (set6r hR0 (.int .u64 0) (.int .i64 0) (.slice none 0 0) (.int .i64 0) (.int .u64 0) (.bool false))
  obtain ⟨o1, o2, o3⟩ := hx
  have d1 : decide (4611686018427387904 < x) = false := by rw [decide_eq_false_iff_not]; omega
  have d2 : decide ((z : Int) < 1) = false := by rw [decide_eq_false_iff_not]; omega
  have d3 : decide (4096 < (z : Int)) = false := by rw [decide_eq_false_iff_not]; omega
  have d4 : decide ((4000 : Int) < (n : Int)) = true := by rw [decide_eq_true_iff]; omega
  go_enter Try.func52, Try.ntmps52
  go_upto_region 1 with fail
  rw [← hV, ← hR]
  clear hV hR
  go_wp2_with fail
  exact bodyPost_ret (v := .tuple #[.agg zeroB, .slice none 0 0, .int .i64 5]) (by simp [results, Try.results52, go_sem, z0, z1, z2, z3, z4, z5]) rfl ⟨rfl, fill6_below hb0 hRw _ _ _ _ _ _⟩

theorem gotAt_start {x : Int} {z : Nat} (x0 : 0 ≤ x) (hx : OkR x z) : GotAt x z (startR x) [] := by
  obtain ⟨o1, o2, o3⟩ := hx
  refine ⟨fun t _ => ?_, by simp, by simp [startR], Int.le_refl _, fun t v h => by simp [startR] at h, x0, o1, by simp [startR]; omega, by omega, by omega, .inl rfl, by simp [startR], by simp [startR]⟩
  rw [List.getD_nil]
  rfl
/-- All events, one behind the other, on the specification's side. -/
structure AllS (w0 : World) (B : Nat) (z : Nat) (x : Int) (es : List REv) (wr : World) (v ov : Value) (got : List Int) (G : GotO) : Prop where
  buf : SpB wr B w0.heap.size x z (stateR z x es) v got
  outs : OutsR wr w0.heap.size ov G
  got : G.map (·.1) = outsR z (startR x) es
  mv : Mv w0 wr B none
/-- What is left behind all events. -/
structure RanS (w : World) (z : Nat) (x : Int) (es : List REv) (w' : World) (v ov : Value) (got : List Int) (G : GotO) : Prop where
  row : w'.ownsRow w.heap.size 2 1 v got.length (got.map (.int .i64))
  at_ : GotAt x z (stateR z x es) got
  outs : OutsR w' w.heap.size ov G
  got : G.map (·.1) = outsR z (startR x) es
  below : Below w.heap.size w w'
end Go.Proofs.Ytpeecjoadgefjaa
