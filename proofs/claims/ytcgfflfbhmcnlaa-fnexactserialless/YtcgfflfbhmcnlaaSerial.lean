import Derived.Test.YtcgfflfbhmcnlaaRows
import Derived.WalkKit
import Derived.ProofKit
import Derived.OpenShut
import Derived.ShutString
import Derived.Laws.BitsAllLaws
namespace Go.Proofs.Ytcgfflfbhmcnlaa
open Go.ChangeShapes Go.WideShapes Go.ChangeAt Go.RowKit

theorem ret_int {k : IntKind} {a b : Int} (h : a = b) : Ending.returned (.int k a) = .returned (.int k b) := by rw [h]

/-- How far b lies ahead of a on the circle. -/
def sd (a b : Int) : Int := if 2147483648 ≤ b - a then b - a - 4294967296 else if b - a < -2147483648 then b - a + 4294967296 else b - a

theorem sd_wrap (a b : Int) (h0 : 0 ≤ a) (h1 : a ≤ 4294967295) (h2 : 0 ≤ b) (h3 : b ≤ 4294967295) : wrap64 (wrap32 ((b - a) % 4294967296)) = sd a b := by
  unfold sd wrap64 wrap32
  split
  · omega
  · split <;> omega

theorem sd_bounds (a b : Int) (h0 : 0 ≤ a) (h1 : a ≤ 4294967295) (h2 : 0 ≤ b) (h3 : b ≤ 4294967295) : -2147483648 ≤ sd a b ∧ sd a b < 2147483648 := by
  unfold sd
  split
  · omega
  · split <;> omega

theorem specDistance (a b : Int) (h0 : 0 ≤ a) (h1 : a ≤ 4294967295) (h2 : 0 ≤ b) (h3 : b ≤ 4294967295) (w : World) :
    Calls Try.prog 8 #[.int .u32 a, .int .u32 b] w fun e w' => e = .returned (.int .i64 (sd a b)) ∧ w' = w := by
  go_enter Try.func8, Try.ntmps8
  go_wp2
  all_goals go_ret
  · exact ⟨ret_int (by unfold sd; rw [if_pos ‹_›]), rfl⟩
  · exact ⟨ret_int (by unfold sd; rw [if_neg (by omega), if_pos ‹_›]), rfl⟩
  · exact ⟨ret_int (by unfold sd; rw [if_neg (by omega), if_neg (by omega)]), rfl⟩

theorem implDistance (a b : Int) (h0 : 0 ≤ a) (h1 : a ≤ 4294967295) (h2 : 0 ≤ b) (h3 : b ≤ 4294967295) (w : World) :
    Calls Try.prog 9 #[.int .u32 a, .int .u32 b] w fun e w' => e = .returned (.int .i64 (sd a b)) ∧ w' = w := by
  go_enter Try.func9, Try.ntmps9
  go_wp2
  go_ret
  exact ⟨ret_int (sd_wrap a b h0 h1 h2 h3), rfl⟩

theorem specLess (a b : Int) (h0 : 0 ≤ a) (h1 : a ≤ 4294967295) (h2 : 0 ≤ b) (h3 : b ≤ 4294967295) (w : World) :
    Calls Try.prog 12 #[.int .u32 a, .int .u32 b] w fun e w' => e = .returned (.bool (decide (0 < sd a b))) ∧ w' = w := by
  go_enter Try.func12, Try.ntmps12
  go_wp2_with (go_at_call 8; refine (specDistance a b h0 h1 h2 h3 _).mono ?_; rintro e w' ⟨rfl, rfl⟩)
  go_ret
  exact ⟨rfl, rfl⟩

theorem implLess (a b : Int) (h0 : 0 ≤ a) (h1 : a ≤ 4294967295) (h2 : 0 ≤ b) (h3 : b ≤ 4294967295) (w : World) :
    Calls Try.prog 13 #[.int .u32 a, .int .u32 b] w fun e w' => e = .returned (.bool (decide (0 < sd a b))) ∧ w' = w := by
  go_enter Try.func13, Try.ntmps13
  go_wp2_with (go_at_call 9; refine (implDistance a b h0 h1 h2 h3 _).mono ?_; rintro e w' ⟨rfl, rfl⟩)
  go_ret
  exact ⟨rfl, rfl⟩

theorem lawDistance (a b : Int) (h0 : 0 ≤ a) (h1 : a ≤ 4294967295) (h2 : 0 ≤ b) (h3 : b ≤ 4294967295) (w : World) :
    Calls Try.prog 3 #[.int .u32 a, .int .u32 b] w fun e w' => e = .returned (.bool true) ∧ w' = w := by
  have hs := sd_bounds a b h0 h1 h2 h3
  go_enter Try.func3, Try.ntmps3
  go_wp2_with (first | (go_at_call 8; refine (specDistance a b h0 h1 h2 h3 _).mono ?_; rintro e w' ⟨rfl, rfl⟩) | (go_at_call 9; refine (implDistance a b h0 h1 h2 h3 _).mono ?_; rintro e w' ⟨rfl, rfl⟩))
  go_ret
  exact ⟨rfl, rfl⟩

theorem lawLess (a b : Int) (h0 : 0 ≤ a) (h1 : a ≤ 4294967295) (h2 : 0 ≤ b) (h3 : b ≤ 4294967295) (w : World) :
    Calls Try.prog 5 #[.int .u32 a, .int .u32 b] w fun e w' => e = .returned (.bool true) ∧ w' = w := by
  go_enter Try.func5, Try.ntmps5
  go_wp2_with (first | (go_at_call 12; refine (specLess a b h0 h1 h2 h3 _).mono ?_; rintro e w' ⟨rfl, rfl⟩) | (go_at_call 13; refine (implLess a b h0 h1 h2 h3 _).mono ?_; rintro e w' ⟨rfl, rfl⟩))
  go_ret
  exact ⟨rfl, rfl⟩

/-- What Lift answers: the number and the code. -/
def liftOf (near s : Int) : Int × Int := if near + sd (near % 4294967296) s < 0 then (0, 4) else if 18446744073709551615 < near + sd (near % 4294967296) s then (0, 4) else (near + sd (near % 4294967296) s, 0)

theorem ret_two {k l : IntKind} {a b c d : Int} (h : a = c) (g : b = d) : Ending.returned (.tuple #[.int k a, .int l b]) = .returned (.tuple #[.int k c, .int l d]) := by rw [h, g]

theorem lift_no {n s x c : Int} (h : n + sd (n % 4294967296) s < 0 ∨ 18446744073709551615 < n + sd (n % 4294967296) s) (hx : x = 0) (hc : c = 4) : Ending.returned (.tuple #[.int .u64 x, .int .i64 c]) = .returned (.tuple #[.int .u64 (liftOf n s).1, .int .i64 (liftOf n s).2]) := by
  have e : liftOf n s = (0, 4) := by
    unfold liftOf
    rcases h with h | h
    · rw [if_pos h]
    · rw [if_neg (by omega), if_pos h]
  rw [e, hx, hc]

theorem lift_yes {n s x c : Int} (h : 0 ≤ n + sd (n % 4294967296) s) (g : n + sd (n % 4294967296) s ≤ 18446744073709551615) (hx : x = n + sd (n % 4294967296) s) (hc : c = 0) : Ending.returned (.tuple #[.int .u64 x, .int .i64 c]) = .returned (.tuple #[.int .u64 (liftOf n s).1, .int .i64 (liftOf n s).2]) := by
  have e : liftOf n s = (n + sd (n % 4294967296) s, 0) := by
    unfold liftOf
    rw [if_neg (by omega), if_neg (by omega)]
  rw [e, hx, hc]

theorem implLift (n s : Int) (h0 : 0 ≤ n) (h1 : n ≤ 18446744073709551615) (h2 : 0 ≤ s) (h3 : s ≤ 4294967295) (w : World) :
    Calls Try.prog 11 #[.int .u64 n, .int .u32 s] w fun e w' => e = .returned (.tuple #[.int .u64 (liftOf n s).1, .int .i64 (liftOf n s).2]) ∧ w' = w := by
  have hb := sd_bounds (n % 4294967296) s (by omega) (by omega) h2 h3
  by_cases c1 : sd (n % 4294967296) s < 0
  all_goals
    go_enter Try.func11, Try.ntmps11
    go_wp2_with (go_at_call 9; refine (implDistance (n % 4294967296) s (by omega) (by omega) h2 h3 _).mono ?_; rintro e w' ⟨rfl, rfl⟩)
    all_goals go_ret2
    all_goals first | exact ⟨lift_no (by omega) rfl rfl, rfl⟩ | exact ⟨lift_yes (by omega) (by omega) (by omega) rfl, rfl⟩

theorem mask32 (n : Int) (h0 : 0 ≤ n) (h1 : n ≤ 18446744073709551615) : bits .and .u64 n 4294967295 = n % 4294967296 := by
  rw [u64_and n 4294967295 h0 (by omega) (by omega) (by omega)]
  have e : n.toNat &&& (4294967295 : Int).toNat = n.toNat % 4294967296 := Nat.and_two_pow_sub_one_eq_mod n.toNat 32
  rw [e]
  omega

theorem sd_hi {m s : Int} (h : 2147483648 ≤ s - m) : sd m s = s - m - 4294967296 := by unfold sd; rw [if_pos h]
theorem sd_mid {m s : Int} (h : s - m < 2147483648) (g : -2147483648 ≤ s - m) : sd m s = s - m := by unfold sd; rw [if_neg (by omega), if_neg (by omega)]
theorem sd_lo {m s : Int} (h : s - m < -2147483648) : sd m s = s - m + 4294967296 := by unfold sd; rw [if_neg (by omega), if_pos h]

theorem specLift (n s : Int) (h0 : 0 ≤ n) (h1 : n ≤ 18446744073709551615) (h2 : 0 ≤ s) (h3 : s ≤ 4294967295) (w : World) :
    Calls Try.prog 10 #[.int .u64 n, .int .u32 s] w fun e w' => e = .returned (.tuple #[.int .u64 (liftOf n s).1, .int .i64 (liftOf n s).2]) ∧ w' = w := by
  have hm := mask32 n h0 h1
  go_enter Try.func10, Try.ntmps10
  go_wp2
  go_loop [8] (fun t => t = .int .i64 (n / 4294967296 - 1) ∨ (t = .int .i64 (n / 4294967296) ∧ s - n % 4294967296 < 2147483648) ∨ (t = .int .i64 (n / 4294967296 + 1) ∧ s - n % 4294967296 < -2147483648)) (fun t => (n / 4294967296 + 2 - intOf t).toNat)
  case atStart => exact .inl rfl
  case round =>
    rcases hrel with rfl | ⟨rfl, hr⟩ | ⟨rfl, hr⟩
    · go_wp2
      · go_ret2
        exact ⟨lift_yes (by rw [sd_hi (by omega)]; omega) (by rw [sd_hi (by omega)]; omega) (by rw [sd_hi (by omega)]; omega) rfl, rfl⟩
      · go_ret2
        exact ⟨lift_no (by rw [sd_hi (by omega)]; omega) rfl rfl, rfl⟩
      · go_round
        case rel => exact .inr (.inl ⟨rfl, by omega⟩)
        case measure => simp [intOf]; omega
    · go_wp2
      · go_ret2
        exact ⟨lift_yes (by rw [sd_mid (by omega) (by omega)]; omega) (by rw [sd_mid (by omega) (by omega)]; omega) (by rw [sd_mid (by omega) (by omega)]; omega) rfl, rfl⟩
      · go_round
        case rel => exact .inr (.inr ⟨rfl, by omega⟩)
        case measure => simp [intOf]; omega
    · go_wp2
      · go_ret2
        exact ⟨lift_no (by rw [sd_lo (by omega)]; omega) rfl rfl, rfl⟩
      · go_ret2
        exact ⟨lift_yes (by rw [sd_lo (by omega)]; omega) (by rw [sd_lo (by omega)]; omega) (by rw [sd_lo (by omega)]; omega) rfl, rfl⟩

theorem lawLift (a b : Int) (h0 : 0 ≤ a) (h1 : a ≤ 18446744073709551615) (h2 : 0 ≤ b) (h3 : b ≤ 4294967295) (w : World) :
    Calls Try.prog 4 #[.int .u64 a, .int .u32 b] w fun e w' => e = .returned (.bool true) ∧ w' = w := by
  go_enter Try.func4, Try.ntmps4
  go_wp2_with (first | (go_at_call 10; refine (specLift a b h0 h1 h2 h3 _).mono ?_; rintro e w' ⟨rfl, rfl⟩) | (go_at_call 11; refine (implLift a b h0 h1 h2 h3 _).mono ?_; rintro e w' ⟨rfl, rfl⟩))
  go_ret
  exact ⟨rfl, rfl⟩
end Go.Proofs.Ytcgfflfbhmcnlaa
