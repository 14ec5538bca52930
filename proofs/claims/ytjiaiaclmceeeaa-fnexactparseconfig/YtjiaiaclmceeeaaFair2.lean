import Derived.Test.YtjiaiaclmceeeaaFair
namespace Go.Proofs.Ytjiaiaclmceeeaa
open Go.ChangeShapes Go.WideShapes Go.ChangeAt Go.RowKit
set_option linter.unusedVariables false

set_option maxRecDepth 100000 in
set_option maxHeartbeats 1000000 in
theorem cfg_s_yes (ps po wi pl sc rc mm rt mr da pe isn : Int) (w : World) (ht : OkT ps po pl sc rc mm) (hl : OkL wi rt mr da pe) : Calls Try.prog 11 #[.agg #[.int .i64 ps, .int .i64 po, .int .i64 wi, .int .i64 pl, .int .i64 sc, .int .i64 rc, .int .i64 mm, .int .i64 rt, .int .i64 mr, .int .i64 da, .int .i64 pe, .int .u32 isn]] w fun e w' => e = .returned (.bool true) ∧ Below w.heap.size w w' := by
  have hbW : Below w.heap.size w (w.alloc (.cells #[.int .i64 ps, .int .i64 po, .int .i64 wi, .int .i64 pl, .int .i64 sc, .int .i64 rc, .int .i64 mm, .int .i64 rt, .int .i64 mr, .int .i64 da, .int .i64 pe, .int .u32 isn] 26)) := (Below.refl _ _).alloc (Nat.le_refl _) _
  obtain ⟨⟨a0, b0⟩, ⟨a1, b1⟩, ⟨a2, b2⟩, ⟨a3, b3⟩, ⟨a4, b4⟩, ⟨a5, b5⟩⟩ := ht
  have HL : Hid (OkL wi rt mr da pe) := hl
  clear hl
  go_enter Try.func11, Try.ntmps11
  go_wp2_with (first
    | (go_at_call 20; with_reducible (refine Calls.mono (specSub ps po wi pl sc rc mm rt mr da pe isn _) ?_); rintro e w1 ⟨x, rfl, hb1⟩)
    | (go_at_call 19; with_reducible (refine Calls.mono (l4_yes _ wi rt mr da pe _ HL.out) ?_); rintro e w2 ⟨rfl, hb2⟩))
  go_ret
  exact ⟨rfl, (hbW.trans (hb1.mono (by simp))).trans (hb2.mono (Nat.le_trans (by simp) hb1.size))⟩

set_option maxRecDepth 100000 in
set_option maxHeartbeats 1000000 in
theorem cfg_i_yes (ps po wi pl sc rc mm rt mr da pe isn : Int) (w : World) (ht : OkT ps po pl sc rc mm) (hl : OkL wi rt mr da pe) : Calls Try.prog 12 #[.agg #[.int .i64 ps, .int .i64 po, .int .i64 wi, .int .i64 pl, .int .i64 sc, .int .i64 rc, .int .i64 mm, .int .i64 rt, .int .i64 mr, .int .i64 da, .int .i64 pe, .int .u32 isn]] w fun e w' => e = .returned (.bool true) ∧ Below w.heap.size w w' := by
  have hbW : Below w.heap.size w (w.alloc (.cells #[.int .i64 ps, .int .i64 po, .int .i64 wi, .int .i64 pl, .int .i64 sc, .int .i64 rc, .int .i64 mm, .int .i64 rt, .int .i64 mr, .int .i64 da, .int .i64 pe, .int .u32 isn] 26)) := (Below.refl _ _).alloc (Nat.le_refl _) _
  obtain ⟨⟨a0, b0⟩, ⟨a1, b1⟩, ⟨a2, b2⟩, ⟨a3, b3⟩, ⟨a4, b4⟩, ⟨a5, b5⟩⟩ := ht
  have HL : Hid (OkL wi rt mr da pe) := hl
  clear hl
  go_enter Try.func12, Try.ntmps12
  go_wp2_with (first
    | (go_at_call 13; with_reducible (refine Calls.mono (within_yes ps 1 8 _ a0 b0) ?_); rintro e w3 ⟨rfl, hw3⟩; obtain rfl := hw3)
    | (go_at_call 13; with_reducible (refine Calls.mono (within_yes po 1 4 _ a1 b1) ?_); rintro e w3 ⟨rfl, hw3⟩; obtain rfl := hw3)
    | (go_at_call 13; with_reducible (refine Calls.mono (within_yes pl 1 32 _ a2 b2) ?_); rintro e w3 ⟨rfl, hw3⟩; obtain rfl := hw3)
    | (go_at_call 13; with_reducible (refine Calls.mono (within_yes sc 1 4096 _ a3 b3) ?_); rintro e w3 ⟨rfl, hw3⟩; obtain rfl := hw3)
    | (go_at_call 13; with_reducible (refine Calls.mono (within_yes rc 1 4096 _ a4 b4) ?_); rintro e w3 ⟨rfl, hw3⟩; obtain rfl := hw3)
    | (go_at_call 13; with_reducible (refine Calls.mono (within_yes mm 1 256 _ a5 b5) ?_); rintro e w3 ⟨rfl, hw3⟩; obtain rfl := hw3)
    | (go_at_call 22; with_reducible (refine Calls.mono (implSub ps po wi pl sc rc mm rt mr da pe isn _) ?_); rintro e w1 ⟨x, rfl, hb1⟩)
    | (go_at_call 21; with_reducible (refine Calls.mono (i4_yes _ wi rt mr da pe _ HL.out) ?_); rintro e w2 ⟨rfl, hb2⟩))
  go_ret
  exact ⟨rfl, (hbW.trans (hb1.mono (by simp))).trans (hb2.mono (Nat.le_trans (by simp) hb1.size))⟩

set_option maxRecDepth 100000 in
set_option maxHeartbeats 1000000 in
theorem cfg_s_no (ps po wi pl sc rc mm rt mr da pe isn : Int) (w : World) (ht : OkT ps po pl sc rc mm) (hl : ¬ OkL wi rt mr da pe) : Calls Try.prog 11 #[.agg #[.int .i64 ps, .int .i64 po, .int .i64 wi, .int .i64 pl, .int .i64 sc, .int .i64 rc, .int .i64 mm, .int .i64 rt, .int .i64 mr, .int .i64 da, .int .i64 pe, .int .u32 isn]] w fun e w' => e = .returned (.bool false) ∧ Below w.heap.size w w' := by
  have hbW : Below w.heap.size w (w.alloc (.cells #[.int .i64 ps, .int .i64 po, .int .i64 wi, .int .i64 pl, .int .i64 sc, .int .i64 rc, .int .i64 mm, .int .i64 rt, .int .i64 mr, .int .i64 da, .int .i64 pe, .int .u32 isn] 26)) := (Below.refl _ _).alloc (Nat.le_refl _) _
  obtain ⟨⟨a0, b0⟩, ⟨a1, b1⟩, ⟨a2, b2⟩, ⟨a3, b3⟩, ⟨a4, b4⟩, ⟨a5, b5⟩⟩ := ht
  have HL : Hid (¬ OkL wi rt mr da pe) := hl
  clear hl
  go_enter Try.func11, Try.ntmps11
  go_wp2_with (first
    | (go_at_call 20; with_reducible (refine Calls.mono (specSub ps po wi pl sc rc mm rt mr da pe isn _) ?_); rintro e w1 ⟨x, rfl, hb1⟩)
    | (go_at_call 19; with_reducible (refine Calls.mono (l4_no _ wi rt mr da pe _ HL.out) ?_); rintro e w2 ⟨rfl, hb2⟩))
  go_ret
  exact ⟨rfl, (hbW.trans (hb1.mono (by simp))).trans (hb2.mono (Nat.le_trans (by simp) hb1.size))⟩

set_option maxRecDepth 100000 in
set_option maxHeartbeats 1000000 in
theorem cfg_i_no (ps po wi pl sc rc mm rt mr da pe isn : Int) (w : World) (ht : OkT ps po pl sc rc mm) (hl : ¬ OkL wi rt mr da pe) : Calls Try.prog 12 #[.agg #[.int .i64 ps, .int .i64 po, .int .i64 wi, .int .i64 pl, .int .i64 sc, .int .i64 rc, .int .i64 mm, .int .i64 rt, .int .i64 mr, .int .i64 da, .int .i64 pe, .int .u32 isn]] w fun e w' => e = .returned (.bool false) ∧ Below w.heap.size w w' := by
  have hbW : Below w.heap.size w (w.alloc (.cells #[.int .i64 ps, .int .i64 po, .int .i64 wi, .int .i64 pl, .int .i64 sc, .int .i64 rc, .int .i64 mm, .int .i64 rt, .int .i64 mr, .int .i64 da, .int .i64 pe, .int .u32 isn] 26)) := (Below.refl _ _).alloc (Nat.le_refl _) _
  obtain ⟨⟨a0, b0⟩, ⟨a1, b1⟩, ⟨a2, b2⟩, ⟨a3, b3⟩, ⟨a4, b4⟩, ⟨a5, b5⟩⟩ := ht
  have HL : Hid (¬ OkL wi rt mr da pe) := hl
  clear hl
  go_enter Try.func12, Try.ntmps12
  go_wp2_with (first
    | (go_at_call 13; with_reducible (refine Calls.mono (within_yes ps 1 8 _ a0 b0) ?_); rintro e w3 ⟨rfl, hw3⟩; obtain rfl := hw3)
    | (go_at_call 13; with_reducible (refine Calls.mono (within_yes po 1 4 _ a1 b1) ?_); rintro e w3 ⟨rfl, hw3⟩; obtain rfl := hw3)
    | (go_at_call 13; with_reducible (refine Calls.mono (within_yes pl 1 32 _ a2 b2) ?_); rintro e w3 ⟨rfl, hw3⟩; obtain rfl := hw3)
    | (go_at_call 13; with_reducible (refine Calls.mono (within_yes sc 1 4096 _ a3 b3) ?_); rintro e w3 ⟨rfl, hw3⟩; obtain rfl := hw3)
    | (go_at_call 13; with_reducible (refine Calls.mono (within_yes rc 1 4096 _ a4 b4) ?_); rintro e w3 ⟨rfl, hw3⟩; obtain rfl := hw3)
    | (go_at_call 13; with_reducible (refine Calls.mono (within_yes mm 1 256 _ a5 b5) ?_); rintro e w3 ⟨rfl, hw3⟩; obtain rfl := hw3)
    | (go_at_call 22; with_reducible (refine Calls.mono (implSub ps po wi pl sc rc mm rt mr da pe isn _) ?_); rintro e w1 ⟨x, rfl, hb1⟩)
    | (go_at_call 21; with_reducible (refine Calls.mono (i4_no _ wi rt mr da pe _ HL.out) ?_); rintro e w2 ⟨rfl, hb2⟩))
  go_ret
  exact ⟨rfl, (hbW.trans (hb1.mono (by simp))).trans (hb2.mono (Nat.le_trans (by simp) hb1.size))⟩

set_option maxRecDepth 100000 in
set_option maxHeartbeats 1000000 in
theorem cfg_s_top (ps po wi pl sc rc mm rt mr da pe isn : Int) (w : World) (hn : ¬ OkT ps po pl sc rc mm) : Calls Try.prog 11 #[.agg #[.int .i64 ps, .int .i64 po, .int .i64 wi, .int .i64 pl, .int .i64 sc, .int .i64 rc, .int .i64 mm, .int .i64 rt, .int .i64 mr, .int .i64 da, .int .i64 pe, .int .u32 isn]] w fun e w' => e = .returned (.bool false) ∧ Below w.heap.size w w' := by
  have hbW : Below w.heap.size w (w.alloc (.cells #[.int .i64 ps, .int .i64 po, .int .i64 wi, .int .i64 pl, .int .i64 sc, .int .i64 rc, .int .i64 mm, .int .i64 rt, .int .i64 mr, .int .i64 da, .int .i64 pe, .int .u32 isn] 26)) := (Below.refl _ _).alloc (Nat.le_refl _) _
  simp only [OkT] at hn
  by_cases g : ¬ (1 ≤ ps)
  · clear hn
    go_enter Try.func11, Try.ntmps11
    go_wp2
    go_ret
    exact ⟨by first | rfl | (apply ret_bool; simp; omega), hbW⟩
  have g0 : 1 ≤ ps := by omega
  clear g
  by_cases g : ¬ (ps ≤ 8)
  · clear hn
    go_enter Try.func11, Try.ntmps11
    go_wp2
    go_ret
    exact ⟨by first | rfl | (apply ret_bool; simp; omega), hbW⟩
  have g1 : ps ≤ 8 := by omega
  clear g
  by_cases g : ¬ (1 ≤ po)
  · clear hn
    go_enter Try.func11, Try.ntmps11
    go_wp2
    go_ret
    exact ⟨by first | rfl | (apply ret_bool; simp; omega), hbW⟩
  have g2 : 1 ≤ po := by omega
  clear g
  by_cases g : ¬ (po ≤ 4)
  · clear hn
    go_enter Try.func11, Try.ntmps11
    go_wp2
    go_ret
    exact ⟨by first | rfl | (apply ret_bool; simp; omega), hbW⟩
  have g3 : po ≤ 4 := by omega
  clear g
  by_cases g : ¬ (1 ≤ pl)
  · clear hn
    go_enter Try.func11, Try.ntmps11
    go_wp2
    go_ret
    exact ⟨by first | rfl | (apply ret_bool; simp; omega), hbW⟩
  have g4 : 1 ≤ pl := by omega
  clear g
  by_cases g : ¬ (pl ≤ 32)
  · clear hn
    go_enter Try.func11, Try.ntmps11
    go_wp2
    go_ret
    exact ⟨by first | rfl | (apply ret_bool; simp; omega), hbW⟩
  have g5 : pl ≤ 32 := by omega
  clear g
  by_cases g : ¬ (1 ≤ sc)
  · clear hn
    go_enter Try.func11, Try.ntmps11
    go_wp2
    go_ret
    exact ⟨by first | rfl | (apply ret_bool; simp; omega), hbW⟩
  have g6 : 1 ≤ sc := by omega
  clear g
  by_cases g : ¬ (sc ≤ 4096)
  · clear hn
    go_enter Try.func11, Try.ntmps11
    go_wp2
    go_ret
    exact ⟨by first | rfl | (apply ret_bool; simp; omega), hbW⟩
  have g7 : sc ≤ 4096 := by omega
  clear g
  by_cases g : ¬ (1 ≤ rc)
  · clear hn
    go_enter Try.func11, Try.ntmps11
    go_wp2
    go_ret
    exact ⟨by first | rfl | (apply ret_bool; simp; omega), hbW⟩
  have g8 : 1 ≤ rc := by omega
  clear g
  by_cases g : ¬ (rc ≤ 4096)
  · clear hn
    go_enter Try.func11, Try.ntmps11
    go_wp2
    go_ret
    exact ⟨by first | rfl | (apply ret_bool; simp; omega), hbW⟩
  have g9 : rc ≤ 4096 := by omega
  clear g
  by_cases g : ¬ (1 ≤ mm)
  · clear hn
    go_enter Try.func11, Try.ntmps11
    go_wp2
    go_ret
    exact ⟨by first | rfl | (apply ret_bool; simp; omega), hbW⟩
  have g10 : 1 ≤ mm := by omega
  clear g
  by_cases g : ¬ (mm ≤ 256)
  · clear hn
    go_enter Try.func11, Try.ntmps11
    go_wp2
    go_ret
    exact ⟨by first | rfl | (apply ret_bool; simp; omega), hbW⟩
  exfalso
  omega

set_option maxRecDepth 100000 in
set_option maxHeartbeats 1000000 in
theorem cfg_i_top (ps po wi pl sc rc mm rt mr da pe isn : Int) (w : World) (hn : ¬ OkT ps po pl sc rc mm) : Calls Try.prog 12 #[.agg #[.int .i64 ps, .int .i64 po, .int .i64 wi, .int .i64 pl, .int .i64 sc, .int .i64 rc, .int .i64 mm, .int .i64 rt, .int .i64 mr, .int .i64 da, .int .i64 pe, .int .u32 isn]] w fun e w' => e = .returned (.bool false) ∧ Below w.heap.size w w' := by
  have hbW : Below w.heap.size w (w.alloc (.cells #[.int .i64 ps, .int .i64 po, .int .i64 wi, .int .i64 pl, .int .i64 sc, .int .i64 rc, .int .i64 mm, .int .i64 rt, .int .i64 mr, .int .i64 da, .int .i64 pe, .int .u32 isn] 26)) := (Below.refl _ _).alloc (Nat.le_refl _) _
  simp only [OkT] at hn
  by_cases g : ¬ ((1 ≤ ps ∧ ps ≤ 8))
  · clear hn
    go_enter Try.func12, Try.ntmps12
    go_wp2_with (first
      | (go_at_call 13; with_reducible (refine Calls.mono (within_no ps 1 8 _ g) ?_); rintro e w3 ⟨rfl, hw3⟩; obtain rfl := hw3))
    go_ret
    exact ⟨by first | rfl | (apply ret_bool; simp; omega), hbW⟩
  have g0 : (1 ≤ ps ∧ ps ≤ 8) := by omega
  clear g
  by_cases g : ¬ ((1 ≤ po ∧ po ≤ 4))
  · clear hn
    go_enter Try.func12, Try.ntmps12
    go_wp2_with (first
      | (go_at_call 13; with_reducible (refine Calls.mono (within_yes ps 1 8 _ g0.1 g0.2) ?_); rintro e w3 ⟨rfl, hw3⟩; obtain rfl := hw3)
      | (go_at_call 13; with_reducible (refine Calls.mono (within_no po 1 4 _ g) ?_); rintro e w3 ⟨rfl, hw3⟩; obtain rfl := hw3))
    go_ret
    exact ⟨by first | rfl | (apply ret_bool; simp; omega), hbW⟩
  have g1 : (1 ≤ po ∧ po ≤ 4) := by omega
  clear g
  by_cases g : ¬ ((1 ≤ pl ∧ pl ≤ 32))
  · clear hn
    go_enter Try.func12, Try.ntmps12
    go_wp2_with (first
      | (go_at_call 13; with_reducible (refine Calls.mono (within_yes ps 1 8 _ g0.1 g0.2) ?_); rintro e w3 ⟨rfl, hw3⟩; obtain rfl := hw3)
      | (go_at_call 13; with_reducible (refine Calls.mono (within_yes po 1 4 _ g1.1 g1.2) ?_); rintro e w3 ⟨rfl, hw3⟩; obtain rfl := hw3)
      | (go_at_call 13; with_reducible (refine Calls.mono (within_no pl 1 32 _ g) ?_); rintro e w3 ⟨rfl, hw3⟩; obtain rfl := hw3))
    go_ret
    exact ⟨by first | rfl | (apply ret_bool; simp; omega), hbW⟩
  have g2 : (1 ≤ pl ∧ pl ≤ 32) := by omega
  clear g
  by_cases g : ¬ ((1 ≤ sc ∧ sc ≤ 4096))
  · clear hn
    go_enter Try.func12, Try.ntmps12
    go_wp2_with (first
      | (go_at_call 13; with_reducible (refine Calls.mono (within_yes ps 1 8 _ g0.1 g0.2) ?_); rintro e w3 ⟨rfl, hw3⟩; obtain rfl := hw3)
      | (go_at_call 13; with_reducible (refine Calls.mono (within_yes po 1 4 _ g1.1 g1.2) ?_); rintro e w3 ⟨rfl, hw3⟩; obtain rfl := hw3)
      | (go_at_call 13; with_reducible (refine Calls.mono (within_yes pl 1 32 _ g2.1 g2.2) ?_); rintro e w3 ⟨rfl, hw3⟩; obtain rfl := hw3)
      | (go_at_call 13; with_reducible (refine Calls.mono (within_no sc 1 4096 _ g) ?_); rintro e w3 ⟨rfl, hw3⟩; obtain rfl := hw3))
    go_ret
    exact ⟨by first | rfl | (apply ret_bool; simp; omega), hbW⟩
  have g3 : (1 ≤ sc ∧ sc ≤ 4096) := by omega
  clear g
  by_cases g : ¬ ((1 ≤ rc ∧ rc ≤ 4096))
  · clear hn
    go_enter Try.func12, Try.ntmps12
    go_wp2_with (first
      | (go_at_call 13; with_reducible (refine Calls.mono (within_yes ps 1 8 _ g0.1 g0.2) ?_); rintro e w3 ⟨rfl, hw3⟩; obtain rfl := hw3)
      | (go_at_call 13; with_reducible (refine Calls.mono (within_yes po 1 4 _ g1.1 g1.2) ?_); rintro e w3 ⟨rfl, hw3⟩; obtain rfl := hw3)
      | (go_at_call 13; with_reducible (refine Calls.mono (within_yes pl 1 32 _ g2.1 g2.2) ?_); rintro e w3 ⟨rfl, hw3⟩; obtain rfl := hw3)
      | (go_at_call 13; with_reducible (refine Calls.mono (within_yes sc 1 4096 _ g3.1 g3.2) ?_); rintro e w3 ⟨rfl, hw3⟩; obtain rfl := hw3)
      | (go_at_call 13; with_reducible (refine Calls.mono (within_no rc 1 4096 _ g) ?_); rintro e w3 ⟨rfl, hw3⟩; obtain rfl := hw3))
    go_ret
    exact ⟨by first | rfl | (apply ret_bool; simp; omega), hbW⟩
  have g4 : (1 ≤ rc ∧ rc ≤ 4096) := by omega
  clear g
  by_cases g : ¬ ((1 ≤ mm ∧ mm ≤ 256))
  · clear hn
    go_enter Try.func12, Try.ntmps12
    go_wp2_with (first
      | (go_at_call 13; with_reducible (refine Calls.mono (within_yes ps 1 8 _ g0.1 g0.2) ?_); rintro e w3 ⟨rfl, hw3⟩; obtain rfl := hw3)
      | (go_at_call 13; with_reducible (refine Calls.mono (within_yes po 1 4 _ g1.1 g1.2) ?_); rintro e w3 ⟨rfl, hw3⟩; obtain rfl := hw3)
      | (go_at_call 13; with_reducible (refine Calls.mono (within_yes pl 1 32 _ g2.1 g2.2) ?_); rintro e w3 ⟨rfl, hw3⟩; obtain rfl := hw3)
      | (go_at_call 13; with_reducible (refine Calls.mono (within_yes sc 1 4096 _ g3.1 g3.2) ?_); rintro e w3 ⟨rfl, hw3⟩; obtain rfl := hw3)
      | (go_at_call 13; with_reducible (refine Calls.mono (within_yes rc 1 4096 _ g4.1 g4.2) ?_); rintro e w3 ⟨rfl, hw3⟩; obtain rfl := hw3)
      | (go_at_call 13; with_reducible (refine Calls.mono (within_no mm 1 256 _ g) ?_); rintro e w3 ⟨rfl, hw3⟩; obtain rfl := hw3))
    go_ret
    exact ⟨by first | rfl | (apply ret_bool; simp; omega), hbW⟩
  exfalso
  omega

def Cfg (ps po wi pl sc rc mm rt mr da pe isn : Int) (fn : Nat) (r : Bool) : Prop := ∀ w : World, Calls Try.prog fn #[.agg #[.int .i64 ps, .int .i64 po, .int .i64 wi, .int .i64 pl, .int .i64 sc, .int .i64 rc, .int .i64 mm, .int .i64 rt, .int .i64 mr, .int .i64 da, .int .i64 pe, .int .u32 isn]] w fun e w' => e = .returned (.bool r) ∧ Below w.heap.size w w'
theorem both_cfg (ps po wi pl sc rc mm rt mr da pe isn : Int) : (OkT ps po pl sc rc mm ∧ OkL wi rt mr da pe ∧ Cfg ps po wi pl sc rc mm rt mr da pe isn 11 true ∧ Cfg ps po wi pl sc rc mm rt mr da pe isn 12 true) ∨ (Cfg ps po wi pl sc rc mm rt mr da pe isn 11 false ∧ Cfg ps po wi pl sc rc mm rt mr da pe isn 12 false) := by
  by_cases ht : OkT ps po pl sc rc mm
  · by_cases hl : OkL wi rt mr da pe
    · exact .inl ⟨ht, hl, fun w => cfg_s_yes ps po wi pl sc rc mm rt mr da pe isn w ht hl, fun w => cfg_i_yes ps po wi pl sc rc mm rt mr da pe isn w ht hl⟩
    · exact .inr ⟨fun w => cfg_s_no ps po wi pl sc rc mm rt mr da pe isn w ht hl, fun w => cfg_i_no ps po wi pl sc rc mm rt mr da pe isn w ht hl⟩
  · exact .inr ⟨fun w => cfg_s_top ps po wi pl sc rc mm rt mr da pe isn w ht, fun w => cfg_i_top ps po wi pl sc rc mm rt mr da pe isn w ht⟩
end Go.Proofs.Ytjiaiaclmceeeaa
