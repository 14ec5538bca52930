import Derived.Test.YtincfdhfoaimbaaBase
import Derived.Deep.RegionHeld3
import Derived.Laws.Small
namespace Go.Proofs.Ytincfdhfoaimbaa
open Go.ChangeShapes Go.WideShapes Go.ChangeAt Go.RowKit
set_option linter.unusedVariables false

def OkL (wi rt mr da pe : Int) : Prop := (1 ≤ wi ∧ wi ≤ 16) ∧ (1 ≤ rt ∧ rt ≤ 50) ∧ (rt ≤ mr ∧ mr ≤ 400) ∧ (1 ≤ da ∧ da ≤ 8) ∧ (1 ≤ pe ∧ pe ≤ 50)
theorem within_yes (x l h : Int) (w : World) (h1 : l ≤ x) (h2 : x ≤ h) : Calls Try.prog 68 #[.int .i64 x, .int .i64 l, .int .i64 h] w fun e w' => e = .returned (.bool true) ∧ w' = w := by
  go_enter Try.func68, Try.ntmps68
  go_wp2
  go_ret
  exact ⟨by first | rfl | (apply ret_bool; simpa using h2), rfl⟩
theorem within_no (x l h : Int) (w : World) (hn : ¬ (l ≤ x ∧ x ≤ h)) : Calls Try.prog 68 #[.int .i64 x, .int .i64 l, .int .i64 h] w fun e w' => e = .returned (.bool false) ∧ w' = w := by
  by_cases h1 : l ≤ x
  · have h2 : ¬ x ≤ h := fun h2 => hn ⟨h1, h2⟩
    clear hn
    go_enter Try.func68, Try.ntmps68
    go_wp2
    go_ret
    exact ⟨by first | rfl | (apply ret_bool; simpa using h2), rfl⟩
  · clear hn
    go_enter Try.func68, Try.ntmps68
    go_wp2
    go_ret
    exact ⟨by first | rfl | (apply ret_bool; simpa using h1), rfl⟩

set_option maxRecDepth 100000 in
set_option maxHeartbeats 1000000 in
theorem l4_yes (x wi rt mr da pe : Int) (w : World) (h : OkL wi rt mr da pe) : Calls Try.prog 55 #[.agg #[.int .u32 x, .int .i64 wi, .int .i64 rt, .int .i64 mr, .int .i64 da, .int .i64 pe]] w fun e w' => e = .returned (.bool true) ∧ Below w.heap.size w w' := by
  have hbW : Below w.heap.size w (w.alloc (.cells #[.int .u32 x, .int .i64 wi, .int .i64 rt, .int .i64 mr, .int .i64 da, .int .i64 pe] 35)) := (Below.refl _ _).alloc (Nat.le_refl _) _
  obtain ⟨⟨a0, b0⟩, ⟨a1, b1⟩, ⟨a2, b2⟩, ⟨a3, b3⟩, ⟨a4, b4⟩⟩ := h
  go_enter Try.func55, Try.ntmps55
  go_wp2
  go_ret
  exact ⟨by first | rfl | (apply ret_bool; simp; omega), hbW⟩

set_option maxRecDepth 100000 in
set_option maxHeartbeats 1000000 in
theorem l4_no (x wi rt mr da pe : Int) (w : World) (hn : ¬ OkL wi rt mr da pe) : Calls Try.prog 55 #[.agg #[.int .u32 x, .int .i64 wi, .int .i64 rt, .int .i64 mr, .int .i64 da, .int .i64 pe]] w fun e w' => e = .returned (.bool false) ∧ Below w.heap.size w w' := by
  have hbW : Below w.heap.size w (w.alloc (.cells #[.int .u32 x, .int .i64 wi, .int .i64 rt, .int .i64 mr, .int .i64 da, .int .i64 pe] 35)) := (Below.refl _ _).alloc (Nat.le_refl _) _
  simp only [OkL] at hn
  by_cases g : ¬ (1 ≤ wi)
  · clear hn
    go_enter Try.func55, Try.ntmps55
    go_wp2
    go_ret
    exact ⟨by first | rfl | (apply ret_bool; simp; omega), hbW⟩
  have g0 : 1 ≤ wi := by omega
  clear g
  by_cases g : ¬ (wi ≤ 16)
  · clear hn
    go_enter Try.func55, Try.ntmps55
    go_wp2
    go_ret
    exact ⟨by first | rfl | (apply ret_bool; simp; omega), hbW⟩
  have g1 : wi ≤ 16 := by omega
  clear g
  by_cases g : ¬ (1 ≤ rt)
  · clear hn
    go_enter Try.func55, Try.ntmps55
    go_wp2
    go_ret
    exact ⟨by first | rfl | (apply ret_bool; simp; omega), hbW⟩
  have g2 : 1 ≤ rt := by omega
  clear g
  by_cases g : ¬ (rt ≤ 50)
  · clear hn
    go_enter Try.func55, Try.ntmps55
    go_wp2
    go_ret
    exact ⟨by first | rfl | (apply ret_bool; simp; omega), hbW⟩
  have g3 : rt ≤ 50 := by omega
  clear g
  by_cases g : ¬ (rt ≤ mr)
  · clear hn
    go_enter Try.func55, Try.ntmps55
    go_wp2
    go_ret
    exact ⟨by first | rfl | (apply ret_bool; simp; omega), hbW⟩
  have g4 : rt ≤ mr := by omega
  clear g
  by_cases g : ¬ (mr ≤ 400)
  · clear hn
    go_enter Try.func55, Try.ntmps55
    go_wp2
    go_ret
    exact ⟨by first | rfl | (apply ret_bool; simp; omega), hbW⟩
  have g5 : mr ≤ 400 := by omega
  clear g
  by_cases g : ¬ (1 ≤ da)
  · clear hn
    go_enter Try.func55, Try.ntmps55
    go_wp2
    go_ret
    exact ⟨by first | rfl | (apply ret_bool; simp; omega), hbW⟩
  have g6 : 1 ≤ da := by omega
  clear g
  by_cases g : ¬ (da ≤ 8)
  · clear hn
    go_enter Try.func55, Try.ntmps55
    go_wp2
    go_ret
    exact ⟨by first | rfl | (apply ret_bool; simp; omega), hbW⟩
  have g7 : da ≤ 8 := by omega
  clear g
  by_cases g : ¬ (1 ≤ pe)
  · clear hn
    go_enter Try.func55, Try.ntmps55
    go_wp2
    go_ret
    exact ⟨by first | rfl | (apply ret_bool; simp; omega), hbW⟩
  have g8 : 1 ≤ pe := by omega
  clear g
  by_cases g : ¬ (pe ≤ 50)
  · clear hn
    go_enter Try.func55, Try.ntmps55
    go_wp2
    go_ret
    exact ⟨by first | rfl | (apply ret_bool; simp; omega), hbW⟩
  exfalso
  omega

set_option maxRecDepth 100000 in
set_option maxHeartbeats 1000000 in
theorem i4_yes (x wi rt mr da pe : Int) (w : World) (h : OkL wi rt mr da pe) : Calls Try.prog 56 #[.agg #[.int .u32 x, .int .i64 wi, .int .i64 rt, .int .i64 mr, .int .i64 da, .int .i64 pe]] w fun e w' => e = .returned (.bool true) ∧ Below w.heap.size w w' := by
  have hbW : Below w.heap.size w (w.alloc (.cells #[.int .u32 x, .int .i64 wi, .int .i64 rt, .int .i64 mr, .int .i64 da, .int .i64 pe] 35)) := (Below.refl _ _).alloc (Nat.le_refl _) _
  obtain ⟨⟨a0, b0⟩, ⟨a1, b1⟩, ⟨a2, b2⟩, ⟨a3, b3⟩, ⟨a4, b4⟩⟩ := h
  go_enter Try.func56, Try.ntmps56
  go_wp2_with (first
    | (go_at_call 68; with_reducible (refine Calls.mono (within_yes wi 1 16 _ a0 b0) ?_); rintro e w3 ⟨rfl, hw3⟩; obtain rfl := hw3)
    | (go_at_call 68; with_reducible (refine Calls.mono (within_yes rt 1 50 _ a1 b1) ?_); rintro e w3 ⟨rfl, hw3⟩; obtain rfl := hw3)
    | (go_at_call 68; with_reducible (refine Calls.mono (within_yes mr rt 400 _ a2 b2) ?_); rintro e w3 ⟨rfl, hw3⟩; obtain rfl := hw3)
    | (go_at_call 68; with_reducible (refine Calls.mono (within_yes da 1 8 _ a3 b3) ?_); rintro e w3 ⟨rfl, hw3⟩; obtain rfl := hw3)
    | (go_at_call 68; with_reducible (refine Calls.mono (within_yes pe 1 50 _ a4 b4) ?_); rintro e w3 ⟨rfl, hw3⟩; obtain rfl := hw3))
  go_ret
  exact ⟨by first | rfl | (apply ret_bool; simp; omega), hbW⟩

set_option maxRecDepth 100000 in
set_option maxHeartbeats 1000000 in
theorem i4_no (x wi rt mr da pe : Int) (w : World) (hn : ¬ OkL wi rt mr da pe) : Calls Try.prog 56 #[.agg #[.int .u32 x, .int .i64 wi, .int .i64 rt, .int .i64 mr, .int .i64 da, .int .i64 pe]] w fun e w' => e = .returned (.bool false) ∧ Below w.heap.size w w' := by
  have hbW : Below w.heap.size w (w.alloc (.cells #[.int .u32 x, .int .i64 wi, .int .i64 rt, .int .i64 mr, .int .i64 da, .int .i64 pe] 35)) := (Below.refl _ _).alloc (Nat.le_refl _) _
  simp only [OkL] at hn
  by_cases g : ¬ ((1 ≤ wi ∧ wi ≤ 16))
  · clear hn
    go_enter Try.func56, Try.ntmps56
    go_wp2_with (first
      | (go_at_call 68; with_reducible (refine Calls.mono (within_no wi 1 16 _ g) ?_); rintro e w3 ⟨rfl, hw3⟩; obtain rfl := hw3))
    go_ret
    exact ⟨by first | rfl | (apply ret_bool; simp; omega), hbW⟩
  have g0 : (1 ≤ wi ∧ wi ≤ 16) := by omega
  clear g
  by_cases g : ¬ ((1 ≤ rt ∧ rt ≤ 50))
  · clear hn
    go_enter Try.func56, Try.ntmps56
    go_wp2_with (first
      | (go_at_call 68; with_reducible (refine Calls.mono (within_yes wi 1 16 _ g0.1 g0.2) ?_); rintro e w3 ⟨rfl, hw3⟩; obtain rfl := hw3)
      | (go_at_call 68; with_reducible (refine Calls.mono (within_no rt 1 50 _ g) ?_); rintro e w3 ⟨rfl, hw3⟩; obtain rfl := hw3))
    go_ret
    exact ⟨by first | rfl | (apply ret_bool; simp; omega), hbW⟩
  have g1 : (1 ≤ rt ∧ rt ≤ 50) := by omega
  clear g
  by_cases g : ¬ ((rt ≤ mr ∧ mr ≤ 400))
  · clear hn
    go_enter Try.func56, Try.ntmps56
    go_wp2_with (first
      | (go_at_call 68; with_reducible (refine Calls.mono (within_yes wi 1 16 _ g0.1 g0.2) ?_); rintro e w3 ⟨rfl, hw3⟩; obtain rfl := hw3)
      | (go_at_call 68; with_reducible (refine Calls.mono (within_yes rt 1 50 _ g1.1 g1.2) ?_); rintro e w3 ⟨rfl, hw3⟩; obtain rfl := hw3)
      | (go_at_call 68; with_reducible (refine Calls.mono (within_no mr rt 400 _ g) ?_); rintro e w3 ⟨rfl, hw3⟩; obtain rfl := hw3))
    go_ret
    exact ⟨by first | rfl | (apply ret_bool; simp; omega), hbW⟩
  have g2 : (rt ≤ mr ∧ mr ≤ 400) := by omega
  clear g
  by_cases g : ¬ ((1 ≤ da ∧ da ≤ 8))
  · clear hn
    go_enter Try.func56, Try.ntmps56
    go_wp2_with (first
      | (go_at_call 68; with_reducible (refine Calls.mono (within_yes wi 1 16 _ g0.1 g0.2) ?_); rintro e w3 ⟨rfl, hw3⟩; obtain rfl := hw3)
      | (go_at_call 68; with_reducible (refine Calls.mono (within_yes rt 1 50 _ g1.1 g1.2) ?_); rintro e w3 ⟨rfl, hw3⟩; obtain rfl := hw3)
      | (go_at_call 68; with_reducible (refine Calls.mono (within_yes mr rt 400 _ g2.1 g2.2) ?_); rintro e w3 ⟨rfl, hw3⟩; obtain rfl := hw3)
      | (go_at_call 68; with_reducible (refine Calls.mono (within_no da 1 8 _ g) ?_); rintro e w3 ⟨rfl, hw3⟩; obtain rfl := hw3))
    go_ret
    exact ⟨by first | rfl | (apply ret_bool; simp; omega), hbW⟩
  have g3 : (1 ≤ da ∧ da ≤ 8) := by omega
  clear g
  by_cases g : ¬ ((1 ≤ pe ∧ pe ≤ 50))
  · clear hn
    go_enter Try.func56, Try.ntmps56
    go_wp2_with (first
      | (go_at_call 68; with_reducible (refine Calls.mono (within_yes wi 1 16 _ g0.1 g0.2) ?_); rintro e w3 ⟨rfl, hw3⟩; obtain rfl := hw3)
      | (go_at_call 68; with_reducible (refine Calls.mono (within_yes rt 1 50 _ g1.1 g1.2) ?_); rintro e w3 ⟨rfl, hw3⟩; obtain rfl := hw3)
      | (go_at_call 68; with_reducible (refine Calls.mono (within_yes mr rt 400 _ g2.1 g2.2) ?_); rintro e w3 ⟨rfl, hw3⟩; obtain rfl := hw3)
      | (go_at_call 68; with_reducible (refine Calls.mono (within_yes da 1 8 _ g3.1 g3.2) ?_); rintro e w3 ⟨rfl, hw3⟩; obtain rfl := hw3)
      | (go_at_call 68; with_reducible (refine Calls.mono (within_no pe 1 50 _ g) ?_); rintro e w3 ⟨rfl, hw3⟩; obtain rfl := hw3))
    go_ret
    exact ⟨by first | rfl | (apply ret_bool; simp; omega), hbW⟩
  exfalso
  omega
end Go.Proofs.Ytincfdhfoaimbaa
