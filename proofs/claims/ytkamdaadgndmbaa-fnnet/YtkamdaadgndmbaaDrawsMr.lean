import Derived.Test.YtkamdaadgndmbaaBase
import Derived.OneCell
namespace Go.Proofs.Ytkamdaadgndmbaa
open Go.ChangeShapes Go.WideShapes Go.ChangeAt Go.RowKit
set_option linter.unusedVariables false

theorem cell3 {w : World} {b : Nat} {x y z : Value} {t : TypeId} (h : w.heap[b]? = some (.cells #[x, y, z] t (0, 0))) :
    w.cell? ⟨b, 0, none⟩ = some x ∧ w.cell? ⟨b, 1, none⟩ = some y ∧ w.cell? ⟨b, 2, none⟩ = some z ∧ (∀ j, w.frozen? ⟨b, j, none⟩ = false) := by
  refine ⟨?_, ?_, ?_, fun j => frozen_of_row w b j _ t h⟩
  all_goals rw [cell_of_row w b _ _ t (0, 0) h]; rfl

theorem set3 {w : World} {b : Nat} {x y z : Value} {t : TypeId} (h : w.heap[b]? = some (.cells #[x, y, z] t (0, 0))) (u v s : Value) :
    (((w.setCell ⟨b, 0, none⟩ u).setCell ⟨b, 1, none⟩ v).setCell ⟨b, 2, none⟩ s).heap[b]? = some (.cells #[u, v, s] t (0, 0)) := by
  have h0 := heap_setCell_same w b 0 _ _ u h
  have h1 := heap_setCell_same _ b 1 _ _ v h0
  have h2 := heap_setCell_same _ b 2 _ _ s h1
  exact h2

theorem wrap64_fits (x : Int) : 0 ≤ IntKind.u64.wrap x ∧ IntKind.u64.wrap x ≤ 18446744073709551615 := by
  rw [IntKind.wrap_u64]
  omega

theorem modFits {x n : Int} (h0 : 0 ≤ x) (h1 : 0 < n) (h2 : n ≤ 9223372036854775807) : 0 ≤ wrap64 (x.tmod n) ∧ wrap64 (x.tmod n) < n := by
  have a := Int.tmod_nonneg n h0
  have b := Int.tmod_lt_of_pos x h1
  have e : wrap64 (x.tmod n) = x.tmod n := by unfold wrap64; omega
  rw [e]
  exact ⟨a, b⟩

theorem xor64 (a b : Int) : 0 ≤ bits .xor .u64 a b ∧ bits .xor .u64 a b ≤ 18446744073709551615 := bounds_u64 (wf_bits _ _ _ _)

end Go.Proofs.Ytkamdaadgndmbaa
