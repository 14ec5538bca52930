import Derived.Test.YtjiaiaclmceeeaaBase
import Derived.Deep.RegionHeld3
import Derived.Laws.Small
namespace Go.Proofs.Ytjiaiaclmceeeaa
open Go.ChangeShapes Go.WideShapes Go.ChangeAt Go.RowKit
set_option linter.unusedVariables false

def OkT (ps po pl sc rc mm : Int) : Prop := (1 ≤ ps ∧ ps ≤ 8) ∧ (1 ≤ po ∧ po ≤ 4) ∧ (1 ≤ pl ∧ pl ≤ 32) ∧ (1 ≤ sc ∧ sc ≤ 4096) ∧ (1 ≤ rc ∧ rc ≤ 4096) ∧ (1 ≤ mm ∧ mm ≤ 256)
def OkL (wi rt mr da pe : Int) : Prop := (1 ≤ wi ∧ wi ≤ 16) ∧ (1 ≤ rt ∧ rt ≤ 50) ∧ (rt ≤ mr ∧ mr ≤ 400) ∧ (1 ≤ da ∧ da ≤ 8) ∧ (1 ≤ pe ∧ pe ≤ 50)

theorem within_yes (x l h : Int) (w : World) (h1 : l ≤ x) (h2 : x ≤ h) : Calls Try.prog 13 #[.int .i64 x, .int .i64 l, .int .i64 h] w fun e w' => e = .returned (.bool true) ∧ w' = w := by
  go_enter Try.func13, Try.ntmps13
  go_wp2
  go_ret
  exact ⟨by first | rfl | (apply ret_bool; simpa using h2), rfl⟩
theorem within_no (x l h : Int) (w : World) (hn : ¬ (l ≤ x ∧ x ≤ h)) : Calls Try.prog 13 #[.int .i64 x, .int .i64 l, .int .i64 h] w fun e w' => e = .returned (.bool false) ∧ w' = w := by
  by_cases h1 : l ≤ x
  · have h2 : ¬ x ≤ h := fun h2 => hn ⟨h1, h2⟩
    clear hn
    go_enter Try.func13, Try.ntmps13
    go_wp2
    go_ret
    exact ⟨by first | rfl | (apply ret_bool; simpa using h2), rfl⟩
  · clear hn
    go_enter Try.func13, Try.ntmps13
    go_wp2
    go_ret
    exact ⟨by first | rfl | (apply ret_bool; simpa using h1), rfl⟩

theorem below_set6 {B : Nat} {v w : World} (h : Below B v w) (g : Nat) (hg : B ≤ g) (u0 u1 u2 u3 u4 u5 : Value) :
    Below B v ((((((w.setCell ⟨g, 0, none⟩ u0).setCell ⟨g, 1, none⟩ u1).setCell ⟨g, 2, none⟩ u2).setCell ⟨g, 3, none⟩ u3).setCell ⟨g, 4, none⟩ u4).setCell ⟨g, 5, none⟩ u5) :=
  (((((h.setCell (p := ⟨g, 0, none⟩) hg u0).setCell (p := ⟨g, 1, none⟩) hg u1).setCell (p := ⟨g, 2, none⟩) hg u2).setCell (p := ⟨g, 3, none⟩) hg u3).setCell (p := ⟨g, 4, none⟩) hg u4).setCell (p := ⟨g, 5, none⟩) hg u5

set_option maxRecDepth 100000 in
set_option maxHeartbeats 1000000 in
theorem specSub (ps po wi pl sc rc mm rt mr da pe isn : Int) (w : World) : Calls Try.prog 20 #[.agg #[.int .i64 ps, .int .i64 po, .int .i64 wi, .int .i64 pl, .int .i64 sc, .int .i64 rc, .int .i64 mm, .int .i64 rt, .int .i64 mr, .int .i64 da, .int .i64 pe, .int .u32 isn], .int .i64 0] w fun e w' => ∃ x, e = .returned (.agg #[.int .u32 x, .int .i64 wi, .int .i64 rt, .int .i64 mr, .int .i64 da, .int .i64 pe]) ∧ Below w.heap.size w w' := by
  have hbW : Below w.heap.size w (w.alloc (.cells #[.int .i64 ps, .int .i64 po, .int .i64 wi, .int .i64 pl, .int .i64 sc, .int .i64 rc, .int .i64 mm, .int .i64 rt, .int .i64 mr, .int .i64 da, .int .i64 pe, .int .u32 isn] 26)) := (Below.refl _ _).alloc (Nat.le_refl _) _
  have hbX := fun o : Obj => hbW.alloc (by simp) o
  go_enter Try.func20, Try.ntmps20
  go_wp2
  exact bodyPost_ret (v := .agg #[.int .u32 (isn % 4294967296), .int .i64 wi, .int .i64 rt, .int .i64 mr, .int .i64 da, .int .i64 pe]) (by simp [results, Try.results20, go_sem]) rfl ⟨_, rfl, hbX _⟩

set_option maxRecDepth 100000 in
set_option maxHeartbeats 1000000 in
theorem implSub (ps po wi pl sc rc mm rt mr da pe isn : Int) (w : World) : Calls Try.prog 22 #[.agg #[.int .i64 ps, .int .i64 po, .int .i64 wi, .int .i64 pl, .int .i64 sc, .int .i64 rc, .int .i64 mm, .int .i64 rt, .int .i64 mr, .int .i64 da, .int .i64 pe, .int .u32 isn], .int .i64 0] w fun e w' => ∃ x, e = .returned (.agg #[.int .u32 x, .int .i64 wi, .int .i64 rt, .int .i64 mr, .int .i64 da, .int .i64 pe]) ∧ Below w.heap.size w w' := by
  have hbW : Below w.heap.size w (w.alloc (.cells #[.int .i64 ps, .int .i64 po, .int .i64 wi, .int .i64 pl, .int .i64 sc, .int .i64 rc, .int .i64 mm, .int .i64 rt, .int .i64 mr, .int .i64 da, .int .i64 pe, .int .u32 isn] 26)) := (Below.refl _ _).alloc (Nat.le_refl _) _
  have hbX := fun o : Obj => hbW.alloc (by simp) o
  go_enter Try.func22, Try.ntmps22
  go_wp2
  exact bodyPost_ret (v := .agg #[.int .u32 (isn % 4294967296), .int .i64 wi, .int .i64 rt, .int .i64 mr, .int .i64 da, .int .i64 pe]) (by simp [results, Try.results22, go_sem]) rfl ⟨_, rfl, hbX _⟩

set_option maxRecDepth 100000 in
set_option maxHeartbeats 1000000 in
theorem l4_yes (x wi rt mr da pe : Int) (w : World) (h : OkL wi rt mr da pe) : Calls Try.prog 19 #[.agg #[.int .u32 x, .int .i64 wi, .int .i64 rt, .int .i64 mr, .int .i64 da, .int .i64 pe]] w fun e w' => e = .returned (.bool true) ∧ Below w.heap.size w w' := by
  have hbW : Below w.heap.size w (w.alloc (.cells #[.int .u32 x, .int .i64 wi, .int .i64 rt, .int .i64 mr, .int .i64 da, .int .i64 pe] 46)) := (Below.refl _ _).alloc (Nat.le_refl _) _
  obtain ⟨⟨a0, b0⟩, ⟨a1, b1⟩, ⟨a2, b2⟩, ⟨a3, b3⟩, ⟨a4, b4⟩⟩ := h
  go_enter Try.func19, Try.ntmps19
  go_wp2
  go_ret
  exact ⟨by first | rfl | (apply ret_bool; simp; omega), hbW⟩

set_option maxRecDepth 100000 in
set_option maxHeartbeats 1000000 in
theorem l4_no (x wi rt mr da pe : Int) (w : World) (hn : ¬ OkL wi rt mr da pe) : Calls Try.prog 19 #[.agg #[.int .u32 x, .int .i64 wi, .int .i64 rt, .int .i64 mr, .int .i64 da, .int .i64 pe]] w fun e w' => e = .returned (.bool false) ∧ Below w.heap.size w w' := by
  have hbW : Below w.heap.size w (w.alloc (.cells #[.int .u32 x, .int .i64 wi, .int .i64 rt, .int .i64 mr, .int .i64 da, .int .i64 pe] 46)) := (Below.refl _ _).alloc (Nat.le_refl _) _
  simp only [OkL] at hn
  by_cases g : ¬ (1 ≤ wi)
  · clear hn
    go_enter Try.func19, Try.ntmps19
    go_wp2
    go_ret
    exact ⟨by first | rfl | (apply ret_bool; simp; omega), hbW⟩
  have g0 : 1 ≤ wi := by omega
  clear g
  by_cases g : ¬ (wi ≤ 16)
  · clear hn
    go_enter Try.func19, Try.ntmps19
    go_wp2
    go_ret
    exact ⟨by first | rfl | (apply ret_bool; simp; omega), hbW⟩
  have g1 : wi ≤ 16 := by omega
  clear g
  by_cases g : ¬ (1 ≤ rt)
  · clear hn
    go_enter Try.func19, Try.ntmps19
    go_wp2
    go_ret
    exact ⟨by first | rfl | (apply ret_bool; simp; omega), hbW⟩
  have g2 : 1 ≤ rt := by omega
  clear g
  by_cases g : ¬ (rt ≤ 50)
  · clear hn
    go_enter Try.func19, Try.ntmps19
    go_wp2
    go_ret
    exact ⟨by first | rfl | (apply ret_bool; simp; omega), hbW⟩
  have g3 : rt ≤ 50 := by omega
  clear g
  by_cases g : ¬ (rt ≤ mr)
  · clear hn
    go_enter Try.func19, Try.ntmps19
    go_wp2
    go_ret
    exact ⟨by first | rfl | (apply ret_bool; simp; omega), hbW⟩
  have g4 : rt ≤ mr := by omega
  clear g
  by_cases g : ¬ (mr ≤ 400)
  · clear hn
    go_enter Try.func19, Try.ntmps19
    go_wp2
    go_ret
    exact ⟨by first | rfl | (apply ret_bool; simp; omega), hbW⟩
  have g5 : mr ≤ 400 := by omega
  clear g
  by_cases g : ¬ (1 ≤ da)
  · clear hn
    go_enter Try.func19, Try.ntmps19
    go_wp2
    go_ret
    exact ⟨by first | rfl | (apply ret_bool; simp; omega), hbW⟩
  have g6 : 1 ≤ da := by omega
  clear g
  by_cases g : ¬ (da ≤ 8)
  · clear hn
    go_enter Try.func19, Try.ntmps19
    go_wp2
    go_ret
    exact ⟨by first | rfl | (apply ret_bool; simp; omega), hbW⟩
  have g7 : da ≤ 8 := by omega
  clear g
  by_cases g : ¬ (1 ≤ pe)
  · clear hn
    go_enter Try.func19, Try.ntmps19
    go_wp2
    go_ret
    exact ⟨by first | rfl | (apply ret_bool; simp; omega), hbW⟩
  have g8 : 1 ≤ pe := by omega
  clear g
  by_cases g : ¬ (pe ≤ 50)
  · clear hn
    go_enter Try.func19, Try.ntmps19
    go_wp2
    go_ret
    exact ⟨by first | rfl | (apply ret_bool; simp; omega), hbW⟩
  exfalso
  omega

set_option maxRecDepth 100000 in
set_option maxHeartbeats 1000000 in
theorem i4_yes (x wi rt mr da pe : Int) (w : World) (h : OkL wi rt mr da pe) : Calls Try.prog 21 #[.agg #[.int .u32 x, .int .i64 wi, .int .i64 rt, .int .i64 mr, .int .i64 da, .int .i64 pe]] w fun e w' => e = .returned (.bool true) ∧ Below w.heap.size w w' := by
  have hbW : Below w.heap.size w (w.alloc (.cells #[.int .u32 x, .int .i64 wi, .int .i64 rt, .int .i64 mr, .int .i64 da, .int .i64 pe] 46)) := (Below.refl _ _).alloc (Nat.le_refl _) _
  obtain ⟨⟨a0, b0⟩, ⟨a1, b1⟩, ⟨a2, b2⟩, ⟨a3, b3⟩, ⟨a4, b4⟩⟩ := h
  go_enter Try.func21, Try.ntmps21
  go_wp2_with (first
    | (go_at_call 13; with_reducible (refine Calls.mono (within_yes wi 1 16 _ a0 b0) ?_); rintro e w3 ⟨rfl, hw3⟩; obtain rfl := hw3)
    | (go_at_call 13; with_reducible (refine Calls.mono (within_yes rt 1 50 _ a1 b1) ?_); rintro e w3 ⟨rfl, hw3⟩; obtain rfl := hw3)
    | (go_at_call 13; with_reducible (refine Calls.mono (within_yes mr rt 400 _ a2 b2) ?_); rintro e w3 ⟨rfl, hw3⟩; obtain rfl := hw3)
    | (go_at_call 13; with_reducible (refine Calls.mono (within_yes da 1 8 _ a3 b3) ?_); rintro e w3 ⟨rfl, hw3⟩; obtain rfl := hw3)
    | (go_at_call 13; with_reducible (refine Calls.mono (within_yes pe 1 50 _ a4 b4) ?_); rintro e w3 ⟨rfl, hw3⟩; obtain rfl := hw3))
  go_ret
  exact ⟨by first | rfl | (apply ret_bool; simp; omega), hbW⟩

set_option maxRecDepth 100000 in
set_option maxHeartbeats 1000000 in
theorem i4_no (x wi rt mr da pe : Int) (w : World) (hn : ¬ OkL wi rt mr da pe) : Calls Try.prog 21 #[.agg #[.int .u32 x, .int .i64 wi, .int .i64 rt, .int .i64 mr, .int .i64 da, .int .i64 pe]] w fun e w' => e = .returned (.bool false) ∧ Below w.heap.size w w' := by
  have hbW : Below w.heap.size w (w.alloc (.cells #[.int .u32 x, .int .i64 wi, .int .i64 rt, .int .i64 mr, .int .i64 da, .int .i64 pe] 46)) := (Below.refl _ _).alloc (Nat.le_refl _) _
  simp only [OkL] at hn
  by_cases g : ¬ ((1 ≤ wi ∧ wi ≤ 16))
  · clear hn
    go_enter Try.func21, Try.ntmps21
    go_wp2_with (first
      | (go_at_call 13; with_reducible (refine Calls.mono (within_no wi 1 16 _ g) ?_); rintro e w3 ⟨rfl, hw3⟩; obtain rfl := hw3))
    go_ret
    exact ⟨by first | rfl | (apply ret_bool; simp; omega), hbW⟩
  have g0 : (1 ≤ wi ∧ wi ≤ 16) := by omega
  clear g
  by_cases g : ¬ ((1 ≤ rt ∧ rt ≤ 50))
  · clear hn
    go_enter Try.func21, Try.ntmps21
    go_wp2_with (first
      | (go_at_call 13; with_reducible (refine Calls.mono (within_yes wi 1 16 _ g0.1 g0.2) ?_); rintro e w3 ⟨rfl, hw3⟩; obtain rfl := hw3)
      | (go_at_call 13; with_reducible (refine Calls.mono (within_no rt 1 50 _ g) ?_); rintro e w3 ⟨rfl, hw3⟩; obtain rfl := hw3))
    go_ret
    exact ⟨by first | rfl | (apply ret_bool; simp; omega), hbW⟩
  have g1 : (1 ≤ rt ∧ rt ≤ 50) := by omega
  clear g
  by_cases g : ¬ ((rt ≤ mr ∧ mr ≤ 400))
  · clear hn
    go_enter Try.func21, Try.ntmps21
    go_wp2_with (first
      | (go_at_call 13; with_reducible (refine Calls.mono (within_yes wi 1 16 _ g0.1 g0.2) ?_); rintro e w3 ⟨rfl, hw3⟩; obtain rfl := hw3)
      | (go_at_call 13; with_reducible (refine Calls.mono (within_yes rt 1 50 _ g1.1 g1.2) ?_); rintro e w3 ⟨rfl, hw3⟩; obtain rfl := hw3)
      | (go_at_call 13; with_reducible (refine Calls.mono (within_no mr rt 400 _ g) ?_); rintro e w3 ⟨rfl, hw3⟩; obtain rfl := hw3))
    go_ret
    exact ⟨by first | rfl | (apply ret_bool; simp; omega), hbW⟩
  have g2 : (rt ≤ mr ∧ mr ≤ 400) := by omega
  clear g
  by_cases g : ¬ ((1 ≤ da ∧ da ≤ 8))
  · clear hn
    go_enter Try.func21, Try.ntmps21
    go_wp2_with (first
      | (go_at_call 13; with_reducible (refine Calls.mono (within_yes wi 1 16 _ g0.1 g0.2) ?_); rintro e w3 ⟨rfl, hw3⟩; obtain rfl := hw3)
      | (go_at_call 13; with_reducible (refine Calls.mono (within_yes rt 1 50 _ g1.1 g1.2) ?_); rintro e w3 ⟨rfl, hw3⟩; obtain rfl := hw3)
      | (go_at_call 13; with_reducible (refine Calls.mono (within_yes mr rt 400 _ g2.1 g2.2) ?_); rintro e w3 ⟨rfl, hw3⟩; obtain rfl := hw3)
      | (go_at_call 13; with_reducible (refine Calls.mono (within_no da 1 8 _ g) ?_); rintro e w3 ⟨rfl, hw3⟩; obtain rfl := hw3))
    go_ret
    exact ⟨by first | rfl | (apply ret_bool; simp; omega), hbW⟩
  have g3 : (1 ≤ da ∧ da ≤ 8) := by omega
  clear g
  by_cases g : ¬ ((1 ≤ pe ∧ pe ≤ 50))
  · clear hn
    go_enter Try.func21, Try.ntmps21
    go_wp2_with (first
      | (go_at_call 13; with_reducible (refine Calls.mono (within_yes wi 1 16 _ g0.1 g0.2) ?_); rintro e w3 ⟨rfl, hw3⟩; obtain rfl := hw3)
      | (go_at_call 13; with_reducible (refine Calls.mono (within_yes rt 1 50 _ g1.1 g1.2) ?_); rintro e w3 ⟨rfl, hw3⟩; obtain rfl := hw3)
      | (go_at_call 13; with_reducible (refine Calls.mono (within_yes mr rt 400 _ g2.1 g2.2) ?_); rintro e w3 ⟨rfl, hw3⟩; obtain rfl := hw3)
      | (go_at_call 13; with_reducible (refine Calls.mono (within_yes da 1 8 _ g3.1 g3.2) ?_); rintro e w3 ⟨rfl, hw3⟩; obtain rfl := hw3)
      | (go_at_call 13; with_reducible (refine Calls.mono (within_no pe 1 50 _ g) ?_); rintro e w3 ⟨rfl, hw3⟩; obtain rfl := hw3))
    go_ret
    exact ⟨by first | rfl | (apply ret_bool; simp; omega), hbW⟩
  exfalso
  omega
end Go.Proofs.Ytjiaiaclmceeeaa
