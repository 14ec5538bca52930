import Derived.Test.YtlagaiekoahjnaaMapMath
namespace Go.Proofs.Ytlagaiekoahjnaa
open Go.ChangeShapes Go.WideShapes Go.ChangeAt Go.RowKit
set_option linter.unusedVariables false

theorem within_yes (x lo hi : Int) (w : World) (h1 : lo ≤ x) (h2 : x ≤ hi) : Calls Try.prog 65 #[.int .i64 x, .int .i64 lo, .int .i64 hi] w fun e w' => e = .returned (.bool true) ∧ w' = w := by
  go_enter Try.func65, Try.ntmps65
  go_wp2
  go_ret
  exact ⟨by first | rfl | (apply ret_bool; simp; omega), rfl⟩
theorem within_no (x lo hi : Int) (w : World) (h : ¬ (lo ≤ x ∧ x ≤ hi)) : Calls Try.prog 65 #[.int .i64 x, .int .i64 lo, .int .i64 hi] w fun e w' => e = .returned (.bool false) ∧ w' = w := by
  rcases (show x < lo ∨ (lo ≤ x ∧ hi < x) by omega) with g | ⟨g, g'⟩
  all_goals
    go_enter Try.func65, Try.ntmps65
    go_wp2
    go_ret
    exact ⟨by first | rfl | (apply ret_bool; simp; omega), rfl⟩
theorem isMark_yes (x : Int) (w : World) (h1 : 0 ≤ x) (h2 : x ≤ 1) : Calls Try.prog 76 #[.int .i64 x] w fun e w' => e = .returned (.bool true) ∧ w' = w := by
  go_enter Try.func76, Try.ntmps76
  go_wp2_with (go_at_call 65; refine (within_yes _ _ _ _ h1 h2).mono ?_; rintro e w2 ⟨rfl, rfl⟩)
  go_ret
  exact ⟨rfl, rfl⟩
theorem isMark_no (x : Int) (w : World) (h : ¬ (0 ≤ x ∧ x ≤ 1)) : Calls Try.prog 76 #[.int .i64 x] w fun e w' => e = .returned (.bool false) ∧ w' = w := by
  go_enter Try.func76, Try.ntmps76
  go_wp2_with (go_at_call 65; refine (within_no _ _ _ _ h).mono ?_; rintro e w2 ⟨rfl, rfl⟩)
  go_ret
  exact ⟨rfl, rfl⟩

theorem endOf_any (c0 c1 c2 c3 c4 : Int) (w : World) (h0 : 0 ≤ c0) (h0' : c0 ≤ 4611686018427387904) (h1 : 0 ≤ c1) (h1' : c1 ≤ 32) (h2 : 0 ≤ c2) (h2' : c2 ≤ 1) :
    Calls Try.prog 42 #[.agg #[.int .u64 c0, .int .i64 c1, .int .i64 c2, .int .i64 c3, .int .i64 c4]] w fun e w' => e = .returned (.int .u64 (c0 + c1 + c2)) ∧ Below w.heap.size w w' := by
  go_enter Try.func42, Try.ntmps42
  go_wp2
  go_ret
  exact ⟨rfl, (Below.refl _ _).alloc (Nat.le_refl _) _⟩

def shape (m : Mp) : Prop := good m ∧ (data m ∨ fine m)

set_option maxHeartbeats 2000000 in
theorem holds_yes (c0 c1 c2 c3 c4 : Int) (w : World) (h : shape ⟨c0, c1, c2, c3, c4⟩) :
    Calls Try.prog 64 #[.agg #[.int .u64 c0, .int .i64 c1, .int .i64 c2, .int .i64 c3, .int .i64 c4]] w fun e w' => e = .returned (.bool true) ∧ Below w.heap.size w w' := by
  have hb : Below w.heap.size w (w.alloc (.cells #[.int .u64 c0, .int .i64 c1, .int .i64 c2, .int .i64 c3, .int .i64 c4] 55)) := (Below.refl _ _).alloc (Nat.le_refl _) _
  obtain ⟨⟨g1, g2, g3, g4, g5⟩, hd⟩ := h
  simp only at g1 g2 g3 g4 g5
  rcases hd with ⟨d1, d2, d3⟩ | ⟨d1, d2⟩
  · simp only at d1 d2 d3
    subst d1
    go_enter Try.func64, Try.ntmps64
    go_wp2_with (first
      | (go_at_call 76; refine (isMark_yes _ _ g4 g5).mono ?_; rintro e w2 ⟨rfl, rfl⟩)
      | (go_at_call 65; refine (within_yes _ _ _ _ ?_ ?_).mono ?_; (omega); (omega); rintro e w2 ⟨rfl, rfl⟩))
    go_ret
    exact ⟨rfl, hb⟩
  · simp only at d1 d2
    subst d1 d2
    go_enter Try.func64, Try.ntmps64
    go_wp2_with (first
      | (go_at_call 76; refine (isMark_yes _ _ g4 g5).mono ?_; rintro e w2 ⟨rfl, rfl⟩)
      | (go_at_call 65; refine (within_yes _ _ _ _ ?_ ?_).mono ?_; (omega); (omega); rintro e w2 ⟨rfl, rfl⟩))
    go_ret
    exact ⟨rfl, hb⟩

set_option maxHeartbeats 4000000 in
theorem holds_no (c0 c1 c2 c3 c4 : Int) (w : World) (h : ¬ shape ⟨c0, c1, c2, c3, c4⟩) :
    Calls Try.prog 64 #[.agg #[.int .u64 c0, .int .i64 c1, .int .i64 c2, .int .i64 c3, .int .i64 c4]] w fun e w' => e = .returned (.bool false) ∧ Below w.heap.size w w' := by
  have hb : Below w.heap.size w (w.alloc (.cells #[.int .u64 c0, .int .i64 c1, .int .i64 c2, .int .i64 c3, .int .i64 c4] 55)) := (Below.refl _ _).alloc (Nat.le_refl _) _
  simp only [shape, good, data, fine] at h
  rcases (show 4611686018427387904 < c0 ∨ (c0 ≤ 4611686018427387904 ∧ ¬ (1 ≤ c3 ∧ c3 ≤ 255)) ∨ (c0 ≤ 4611686018427387904 ∧ (1 ≤ c3 ∧ c3 ≤ 255) ∧ ¬ (0 ≤ c4 ∧ c4 ≤ 1)) ∨ (c0 ≤ 4611686018427387904 ∧ (1 ≤ c3 ∧ c3 ≤ 255) ∧ (0 ≤ c4 ∧ c4 ≤ 1) ∧ ¬ (c2 = 0 ∧ 1 ≤ c1 ∧ c1 ≤ 32 ∨ c2 = 1 ∧ c1 = 0)) by omega) with g | ⟨g1, g⟩ | ⟨g1, g2, g⟩ | ⟨g1, g2, g3, g⟩
  · clear h
    go_enter Try.func64, Try.ntmps64
    go_wp2
    go_ret
    exact ⟨rfl, hb⟩
  · clear h
    go_enter Try.func64, Try.ntmps64
    go_wp2_with (go_at_call 65; refine (within_no _ _ _ _ g).mono ?_; rintro e w2 ⟨rfl, rfl⟩)
    go_ret
    exact ⟨rfl, hb⟩
  · clear h
    go_enter Try.func64, Try.ntmps64
    go_wp2_with (first
      | (go_at_call 76; refine (isMark_no _ _ g).mono ?_; rintro e w2 ⟨rfl, rfl⟩)
      | (go_at_call 65; refine (within_yes _ _ _ _ g2.1 g2.2).mono ?_; rintro e w2 ⟨rfl, rfl⟩))
    go_ret
    exact ⟨rfl, hb⟩
  · clear h
    rcases (show (c2 = 0 ∧ ¬ (1 ≤ c1 ∧ c1 ≤ 32)) ∨ (c2 = 1 ∧ ¬ c1 = 0) ∨ (¬ c2 = 0 ∧ ¬ c2 = 1) by omega) with ⟨rfl, d⟩ | ⟨rfl, d⟩ | ⟨d, d'⟩
    · clear g
      go_enter Try.func64, Try.ntmps64
      go_wp2_with (first
        | (go_at_call 76; refine (isMark_yes _ _ g3.1 g3.2).mono ?_; rintro e w2 ⟨rfl, rfl⟩)
        | (go_at_call 65; with_reducible (refine Calls.mono (within_yes _ _ _ _ g2.1 g2.2) ?_); rintro e w2 ⟨rfl, rfl⟩)
        | (go_at_call 65; with_reducible (refine Calls.mono (within_no _ _ _ _ d) ?_); rintro e w2 ⟨rfl, rfl⟩))
      go_ret
      exact ⟨rfl, hb⟩
    · have x1 : (c1 == 0) = false := by simpa using d
      clear g
      go_enter Try.func64, Try.ntmps64
      go_wp2_with (first
        | (go_at_call 76; refine (isMark_yes _ _ g3.1 g3.2).mono ?_; rintro e w2 ⟨rfl, rfl⟩)
        | (go_at_call 65; refine (within_yes _ _ _ _ g2.1 g2.2).mono ?_; rintro e w2 ⟨rfl, rfl⟩))
      go_ret
      exact ⟨by first | rfl | (apply ret_bool; simpa using d), hb⟩
    · have x1 : (c2 == 0) = false := by simpa using d
      have x2 : (c2 == 1) = false := by simpa using d'
      clear g
      go_enter Try.func64, Try.ntmps64
      go_wp2_with (first
        | (go_at_call 76; refine (isMark_yes _ _ g3.1 g3.2).mono ?_; rintro e w2 ⟨rfl, rfl⟩)
        | (go_at_call 65; refine (within_yes _ _ _ _ g2.1 g2.2).mono ?_; rintro e w2 ⟨rfl, rfl⟩))
      go_ret
      exact ⟨by first | rfl | (apply ret_bool; simp; omega), hb⟩
end Go.Proofs.Ytlagaiekoahjnaa
