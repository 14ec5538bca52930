import Derived.Test.YtcgfflfbhmcnlaaDraws
import Derived.Test.YtcgfflfbhmcnlaaSerial
namespace Go.Proofs.Ytcgfflfbhmcnlaa
open Go.ChangeShapes Go.WideShapes Go.ChangeAt Go.RowKit
set_option linter.unusedVariables false

theorem drawDistance (w : World) (a : Option Addr) (zs : List Int) (cap : Nat) (hz : Ints .u8 w a zs) (hv : ∀ x ∈ zs, 0 ≤ x ∧ x ≤ 255) (hl : zs.length ≤ 1048576) :
    Calls Try.prog 18 #[.slice a zs.length cap] w fun e w' => ∃ x y : Int, e = .returned (.tuple #[.int .u32 x, .int .u32 y]) ∧ 0 ≤ x ∧ x ≤ 4294967295 ∧ 0 ≤ y ∧ y ≤ 4294967295 ∧ Below w.heap.size w w' := by
  go_enter Try.func18, Try.ntmps18
  go_wp2_with fail
  refine (begin_any w a zs cap hz hv hl).mono ?_
  rintro e w1 ⟨st, rfl, e0, e1, hb⟩
  have hd := drawing_start hb a zs.length cap e0 e1
  go_wp2_with (first
    | (go_at_call 21; refine (word_any w _ _ a zs cap (by assumption) hz hv hl).mono ?_; rintro e w2 ⟨r, rfl, l, u, hd2, g⟩)
    | (go_at_call 22; refine (next_any w _ _ a zs cap _ (by assumption) hz hv hl (by omega) (by omega)).mono ?_; rintro e w2 ⟨r, rfl, l, u, hd2, g⟩))
  all_goals
    go_ret2
    exact ⟨_, _, rfl, by omega, by omega, by omega, by omega, Drawing.bel (a := a) (n := zs.length) (cap := cap) (b := w1.heap.size) (by assumption)⟩

theorem drawLift (w : World) (a : Option Addr) (zs : List Int) (cap : Nat) (hz : Ints .u8 w a zs) (hv : ∀ x ∈ zs, 0 ≤ x ∧ x ≤ 255) (hl : zs.length ≤ 1048576) :
    Calls Try.prog 19 #[.slice a zs.length cap] w fun e w' => ∃ x y : Int, e = .returned (.tuple #[.int .u64 x, .int .u32 y]) ∧ 0 ≤ x ∧ x ≤ 18446744073709551615 ∧ Below w.heap.size w w' := by
  go_enter Try.func19, Try.ntmps19
  go_wp2_with fail
  refine (begin_any w a zs cap hz hv hl).mono ?_
  rintro e w1 ⟨st, rfl, e0, e1, hb⟩
  have hd := drawing_start hb a zs.length cap e0 e1
  go_wp2_with (first
    | (go_at_call 21; refine (word_any w _ _ a zs cap (by assumption) hz hv hl).mono ?_; rintro e w2 ⟨r, rfl, l, u, hd2, g⟩)
    | (go_at_call 22; refine (next_any w _ _ a zs cap _ (by assumption) hz hv hl (by omega) (by omega)).mono ?_; rintro e w2 ⟨r, rfl, l, u, hd2, g⟩))
  all_goals
    go_ret2
    exact ⟨_, _, rfl, by first | omega | exact (wrap64_fits _).1, by first | omega | exact (wrap64_fits _).2, Drawing.bel (a := a) (n := zs.length) (cap := cap) (b := w1.heap.size) (by assumption)⟩

/-- The five ways in which y lies to x. -/
theorem sd_cases (x y : Int) (h0 : 0 ≤ x) (h1 : x ≤ 4294967295) (h2 : 0 ≤ y) (h3 : y ≤ 4294967295) :
    (2147483648 < y - x ∧ sd x y = y - x - 4294967296 ∧ sd y x = x - y + 4294967296) ∨ (y - x = 2147483648 ∧ sd x y = -2147483648 ∧ sd y x = -2147483648) ∨
    (y - x < -2147483648 ∧ sd x y = y - x + 4294967296 ∧ sd y x = x - y - 4294967296) ∨ (y - x = -2147483648 ∧ sd x y = -2147483648 ∧ sd y x = -2147483648) ∨
    (-2147483648 < y - x ∧ y - x < 2147483648 ∧ sd x y = y - x ∧ sd y x = x - y) := by
  unfold sd
  by_cases a : 2147483648 ≤ y - x
  · by_cases b : y - x = 2147483648
    · right; left
      rw [if_pos a, if_neg (by omega), if_neg (by omega)]
      omega
    · left
      rw [if_pos a, if_neg (by omega), if_pos (by omega)]
      omega
  · by_cases c : y - x < -2147483648
    · right; right; left
      rw [if_neg a, if_pos c, if_pos (by omega)]
      omega
    · by_cases d : y - x = -2147483648
      · right; right; right; left
        rw [if_neg a, if_neg c, if_pos (by omega)]
        omega
      · right; right; right; right
        rw [if_neg a, if_neg c, if_neg (by omega), if_neg (by omega)]
        omega

theorem sd_back (n d s : Int) (h0 : -2147483648 ≤ d) (h1 : d < 2147483648) (hs : s = (n + d) % 4294967296) : sd (n % 4294967296) s = d := by
  subst hs
  unfold sd
  split
  · omega
  · split <;> omega

theorem implLift_in (n s d : Int) (h0 : 0 ≤ n) (h1 : n ≤ 18446744073709551615) (d0 : -2147483648 ≤ d) (d1 : d < 2147483648) (hs : s = (n + d) % 4294967296) (a : 0 ≤ n + d) (b : n + d ≤ 18446744073709551615) (w : World) :
    Calls Try.prog 11 #[.int .u64 n, .int .u32 s] w fun e w' => e = .returned (.tuple #[.int .u64 (n + d), .int .i64 0]) ∧ w' = w := by
  refine (implLift n s h0 h1 (by omega) (by omega) w).mono ?_
  rintro e w' ⟨rfl, rfl⟩
  have e : liftOf n s = (n + d, 0) := by
    unfold liftOf
    rw [sd_back n d s d0 d1 hs, if_neg (by omega), if_neg (by omega)]
  rw [e]
  exact ⟨rfl, rfl⟩

theorem implLift_out (n s d : Int) (h0 : 0 ≤ n) (h1 : n ≤ 18446744073709551615) (d0 : -2147483648 ≤ d) (d1 : d < 2147483648) (hs : s = (n + d) % 4294967296) (a : n + d < 0 ∨ 18446744073709551615 < n + d) (w : World) :
    Calls Try.prog 11 #[.int .u64 n, .int .u32 s] w fun e w' => e = .returned (.tuple #[.int .u64 0, .int .i64 4]) ∧ w' = w := by
  refine (implLift n s h0 h1 (by omega) (by omega) w).mono ?_
  rintro e w' ⟨rfl, rfl⟩
  have e : liftOf n s = (0, 4) := by
    unfold liftOf
    rw [sd_back n d s d0 d1 hs]
    rcases a with a | a
    · rw [if_pos a]
    · rw [if_neg (by omega), if_pos a]
  rw [e]
  exact ⟨rfl, rfl⟩
end Go.Proofs.Ytcgfflfbhmcnlaa
