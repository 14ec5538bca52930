import Derived.Test.YthgggmkljnghmaaDoorSplitLaw
namespace Go.Proofs.YthgggmkljnghmaaDoor
open Go.ChangeShapes Go.WideShapes Go.ChangeAt Go.RowKit
set_option linter.unusedVariables false

set_option maxRecDepth 100000 in
theorem lawSplitAll (a0 : Option Addr) (zs0 : List Int) (n0 cap0 : Nat) (a1 : Option Addr) (zs1 : List Int) (n1 cap1 : Nat) (w : World) (h0 : zs0.length = n0) (hz0 : Ints .u8 w a0 zs0) (hv0 : ∀ x ∈ zs0, 0 ≤ x ∧ x ≤ 255) (m0 : n0 ≤ 9223372036854775807) (h1 : zs1.length = n1) (hz1 : Ints .u8 w a1 zs1) (hv1 : ∀ x ∈ zs1, 0 ≤ x ∧ x ≤ 255) (m1 : n1 ≤ 9223372036854775807) (hg : Laid w) :
    Calls Tryd.prog 5 #[.slice a0 n0 cap0, .slice a1 n1 cap1] w fun e w' => e = .returned (.bool true) ∧ Below w.heap.size w w' := by
  by_cases hl0 : n0 ≤ 1048576
  · by_cases hl1 : n1 ≤ 1048576
    · exact lawSplit a0 zs0 n0 cap0 a1 zs1 n1 cap1 w h0 hz0 hv0 h1 hz1 hv1 hg hl0 hl1
    · have hd1 : decide (1048576 < (n0 : Int)) = false := by simp; omega
      have hd2 : decide (1048576 < (n1 : Int)) = true := by simp; omega
      go_enter Tryd.func5, Tryd.ntmps5
      go_wp2
      go_ret
      exact ⟨rfl, Below.refl _ _⟩
  · have hd1 : decide (1048576 < (n0 : Int)) = true := by simp; omega
    go_enter Tryd.func5, Tryd.ntmps5
    go_wp2
    go_ret
    exact ⟨rfl, Below.refl _ _⟩
end Go.Proofs.YthgggmkljnghmaaDoor
