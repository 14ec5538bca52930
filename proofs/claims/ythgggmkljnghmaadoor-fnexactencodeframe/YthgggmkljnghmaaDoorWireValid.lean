import Derived.Test.YthgggmkljnghmaaDoorWireAs
import Derived.Test.YthgggmkljnghmaaDoorWireBase
namespace Go.Proofs.YthgggmkljnghmaaDoor
open Go.ChangeShapes Go.WideShapes Go.ChangeAt Go.RowKit
set_option linter.unusedVariables false

/-- A frame that may be laid down. -/
def Valid (k p s o wd : Int) (n : Nat) : Prop :=
  1 ≤ k ∧ k ≤ 5 ∧ 0 ≤ p ∧ p < 8 ∧ 0 ≤ wd ∧ wd ≤ 65535 ∧ (k = 2 ∨ wd = 0) ∧ (k ≠ 1 ∨ (1 ≤ n ∧ n ≤ 32 ∧ o + n ≤ 18446744073709551615)) ∧ (k = 1 ∨ n = 0) ∧ ((k ≠ 4 ∧ k ≠ 5) ∨ o = 0) ∧ (k ≠ 4 ∨ s = 0)

/-- A truth value is answered, and what it says. -/
def SaysB (P : Prop) (w : World) : Ending → World → Prop := fun e w' => ∃ b : Bool, e = .returned (.bool b) ∧ (b = true ↔ P) ∧ Below w.heap.size w w'

theorem SaysB.mk {P : Prop} {w w' : World} (b : Bool) (h : b = true ↔ P) (m : Below w.heap.size w w') : SaysB P w (.returned (.bool b)) w' := ⟨b, rfl, h, m⟩

set_option maxHeartbeats 4000000 in
theorem specValid (k p s o wd : Int) (a : Option Addr) (n cap : Nat) (w : World) (k0 : -9223372036854775808 ≤ k) (k1 : k ≤ 9223372036854775807) (pa : -9223372036854775808 ≤ p) (pb : p ≤ 9223372036854775807) (s0 : 0 ≤ s) (s1 : s ≤ 4294967295) (o0 : 0 ≤ o) (o1 : o ≤ 18446744073709551615) (wa : -9223372036854775808 ≤ wd) (wb : wd ≤ 9223372036854775807) (hn : n ≤ 1048576) :
    Calls Tryd.prog 26 #[.agg #[.int .i64 k, .int .i64 p, .int .u32 s, .int .u64 o, .int .i64 wd, .slice a n cap]] w (SaysB (Valid k p s o wd n) w) := by
  go_enter Tryd.func26, Tryd.ntmps26
  go_wp2

  all_goals (go_ret; refine SaysB.mk _ ?_ ((Below.refl _ _).alloc (Nat.le_refl _) _); unfold Valid; (try simp only [bne_iff_ne, ne_eq, bne_eq_false_iff_eq, Bool.false_eq_true, false_iff, true_iff, beq_iff_eq, not_true_eq_false, false_or, true_or, true_and] at *); (try omega))
end Go.Proofs.YthgggmkljnghmaaDoor
