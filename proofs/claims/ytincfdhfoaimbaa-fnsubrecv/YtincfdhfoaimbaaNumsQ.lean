import Derived.Test.YtincfdhfoaimbaaFourRows
import Derived.BigQuiet
namespace Go.Proofs.Ytincfdhfoaimbaa
open Go.ChangeShapes Go.WideShapes Go.ChangeAt Go.RowKit
set_option linter.unusedVariables false

set_option maxHeartbeats 400000 in
/-- lNums of two equal rows: true; it only draws. -/
theorem lNums_quiet (a a' : Option Addr) (zs : List Int) (n cap cap' : Nat) (w : World) (hn : zs.length = n) (hz : Ints .i64 w a zs) (hz' : Ints .i64 w a' zs) (hl : n ≤ 1048576) :
    Calls Try.prog 20 #[.slice a n cap, .slice a' n cap'] w fun e w' => e = .returned (.bool true) ∧ ∃ m, w' = w.drewN m := by
  subst hn
  go_enter Try.func20, Try.ntmps20
  go_wp2_with fail
  go_loopw [5] (fun i wr => ∃ k m : Nat, k ≤ zs.length ∧ i = .int .i64 (k : Int) ∧ wr = w.drewN m) (fun i _ => zs.length - (intOf i).toNat)
  case atStart => exact ⟨0, 0, Nat.zero_le _, rfl, rfl⟩
  case round =>
    obtain ⟨k, m, hk, rfl, rfl⟩ := hrel
    by_cases hlt : k < zs.length
    · rcases hz with h | ⟨b, off, rfl, hc⟩
      · simp [h] at hlt
      rcases hz' with h | ⟨b', off', rfl, hc'⟩
      · simp [h] at hlt
      obtain ⟨c, hn⟩ : ∃ c : Int, Hid (zs.getD k 0 = c) := ⟨_, rfl⟩
      have hcell := hc k hlt
      have hcell' := hc' k hlt
      rw [hn.out] at hcell hcell'
      have hki : (k : Int) < (zs.length : Int) := by omega
      clear hc hc'
      go_wp2_with fail
      go_quiet (fail)
      go_wp2_with fail
      go_roundw
      case rel => exact ⟨k + 1, _, by omega, by go_num, rfl⟩
      case measure => simp [intOf]; omega
    · obtain rfl : k = zs.length := by omega
      have hkk : ¬ (zs.length : Int) < (zs.length : Int) := by omega
      go_wp2_with fail
      go_ret
      exact ⟨rfl, m, rfl⟩
end Go.Proofs.Ytincfdhfoaimbaa
