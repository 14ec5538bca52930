import Derived.Test.YtgjcdejiolenkaaSpanSpec
import Derived.Test.YtgjcdejiolenkaaSpanOps
namespace Go.Proofs.Ytgjcdejiolenkaa
open Go.ChangeShapes Go.WideShapes Go.ChangeAt Go.RowKit
set_option linter.unusedVariables false

set_option maxHeartbeats 1000000 in
theorem specDo1 (a : Option Addr) (S : Sp) (cap : Nat) (p q : Int) (w : World) (hS : Spans w a S) (hf : Fits S) (hl : S.length ≤ 1048576) (p0 : 0 ≤ p) (p1 : p ≤ 18446744073709551615) (q0 : 0 ≤ q) (q1 : q ≤ 18446744073709551615) (T : Sp) (c : Int)
    (hT : (((S.length ≤ 1000 ∧ Norm S) ∧ p ≤ q) ∧ (built f1 S (p, q)).length ≤ 1000 ∧ T = built f1 S (p, q) ∧ c = 0) ∨ (((S.length ≤ 1000 ∧ Norm S) ∧ p ≤ q) ∧ 1000 < (built f1 S (p, q)).length ∧ T = [] ∧ c = 5) ∨ (¬ ((S.length ≤ 1000 ∧ Norm S) ∧ p ≤ q) ∧ T = [] ∧ c = 1)) :
    Calls Try.prog 32 #[.slice a S.length cap, .agg #[.int .u64 p, .int .u64 q], .int .i64 1] w fun e w' => ∃ av cp, e = .returned (.tuple #[.slice av T.length cp, .int .i64 c]) ∧
      w'.ownsRow w.heap.size 31 2 (.slice av T.length cp) T.length (flat T) ∧ Below w.heap.size w w' := by
  have hb0 : Below w.heap.size w (w.alloc (.cells #[.int .u64 p, .int .u64 q] 31)) := (Below.refl _ _).alloc (Nat.le_refl _) _
  have hS0 := hS.moved hb0
  obtain ⟨x0, x1⟩ := cell_alloc2 w (.int .u64 p) (.int .u64 q) 31 _ rfl
  have HT : Hid _ := hT
  go_enter Try.func32, Try.ntmps32
  go_wp2_with fail
  refine (specSetOK a S cap _ hS0 hf (by omega)).mono ?_
  rintro e w1 ⟨b, rfl, hiff, hb1⟩
  have y0 := (hb1.cell (World.block_lt_of_cell? _ _ x0)).trans x0
  have y1 := (hb1.cell (World.block_lt_of_cell? _ _ x1)).trans x1
  have hbw := hb0.trans (hb1.mono (by simp))
  have HI : Hid _ := hiff
  clear hiff hT
  rcases HT.out with ⟨hg, hlen, rfl, rfl⟩ | ⟨hg, hlen, rfl, rfl⟩ | ⟨hg, rfl, rfl⟩
  · obtain rfl : b = true := HI.out.2 hg.1
    have pq := hg.2
    have hS1 := hS0.moved hb1
    have hlb := built_length f1 S (p, q)
    clear HT HI hS hS0 hb0 hb1 x0 x1
    go_wp2_with fail
    refine (specBuild1 a S cap p q _ hS1 hf hg.1.1 p0 p1 q0 q1).mono ?_
    rintro e w2 ⟨av, cp, rfl, ho, hb2⟩
    go_wp2
    go_ret2
    exact ⟨av, cp, rfl, owned_base ho hbw.size, hbw.trans (hb2.mono hbw.size)⟩
  · obtain rfl : b = true := HI.out.2 hg.1
    have pq := hg.2
    have hS1 := hS0.moved hb1
    have hlb := built_length f1 S (p, q)
    clear HT HI hS hS0 hb0 hb1 x0 x1
    go_wp2_with fail
    refine (specBuild1 a S cap p q _ hS1 hf hg.1.1 p0 p1 q0 q1).mono ?_
    rintro e w2 ⟨av, cp, rfl, ho, hb2⟩
    have hll := hg.1.1
    go_wp2
    go_ret2
    exact ⟨none, 0, rfl, World.ownsRow_nil _ _ _ _, hbw.trans (hb2.mono hbw.size)⟩
  · cases b with
    | true =>
      have hpq : q < p := by
        by_cases h : p ≤ q
        · exact absurd ⟨HI.out.1 rfl, h⟩ hg
        · omega
      clear HI HT hg
      go_wp2
      go_ret2
      exact ⟨none, 0, rfl, World.ownsRow_nil _ _ _ _, hbw⟩
    | false =>
      clear HI HT hg
      go_wp2
      go_ret2
      exact ⟨none, 0, rfl, World.ownsRow_nil _ _ _ _, hbw⟩

theorem specAdd (S : Sp) (p q : Int) (hf : Fits S) (hl : S.length ≤ 1048576) (p0 : 0 ≤ p) (p1 : p ≤ 18446744073709551615) (q0 : 0 ≤ q) (q1 : q ≤ 18446744073709551615) (T : Sp) (c : Int)
    (hT : (((S.length ≤ 1000 ∧ Norm S) ∧ p ≤ q) ∧ (built f1 S (p, q)).length ≤ 1000 ∧ T = built f1 S (p, q) ∧ c = 0) ∨ (((S.length ≤ 1000 ∧ Norm S) ∧ p ≤ q) ∧ 1000 < (built f1 S (p, q)).length ∧ T = [] ∧ c = 5) ∨ (¬ ((S.length ≤ 1000 ∧ Norm S) ∧ p ≤ q) ∧ T = [] ∧ c = 1)) :
    GivesL 17 S p q T c := by
  intro a cap w hS _ _ _
  have hb0 : Below w.heap.size w (w.alloc (.cells #[.int .u64 p, .int .u64 q] 31)) := (Below.refl _ _).alloc (Nat.le_refl _) _
  have hS0 := hS.moved hb0
  have HT : Hid _ := hT
  clear hT
  go_enter Try.func17, Try.ntmps17
  go_wp2_with fail
  refine (specDo1 a S cap p q _ hS0 hf hl p0 p1 q0 q1 T c HT.out).mono ?_
  rintro e w1 ⟨av, cp, rfl, ho, hb1⟩
  go_wp2
  go_ret2
  exact ⟨av, cp, rfl, owned_base ho hb0.size, hb0.trans (hb1.mono hb0.size)⟩

theorem implAdd_no (S : Sp) (p q : Int) (hf : Fits S) (hl : S.length ≤ 1048576) (hno : ¬ ((S.length ≤ 1000 ∧ Norm S) ∧ p ≤ q)) : GivesL 18 S p q [] 1 := by
  intro a cap w hS _ _ _
  have hb0 : Below w.heap.size w (w.alloc (.cells #[.int .u64 p, .int .u64 q] 31)) := (Below.refl _ _).alloc (Nat.le_refl _) _
  have hS0 := hS.moved hb0
  go_enter Try.func18, Try.ntmps18
  go_wp2_with fail
  refine (spansHold_any a S cap p q _ hS0 hf (by omega)).mono ?_
  rintro e w1 ⟨b, rfl, hiff, hb1⟩
  obtain rfl : b = false := by
    cases b with
    | false => rfl
    | true => exact absurd (hiff.1 rfl) hno
  clear hiff
  go_wp2
  go_ret2
  exact ⟨none, 0, rfl, World.ownsRow_nil _ _ _ _, hb0.trans (hb1.mono (by simp))⟩

set_option maxHeartbeats 1000000 in
theorem specDo2 (a : Option Addr) (S : Sp) (cap : Nat) (p q : Int) (w : World) (hS : Spans w a S) (hf : Fits S) (hl : S.length ≤ 1048576) (p0 : 0 ≤ p) (p1 : p ≤ 18446744073709551615) (q0 : 0 ≤ q) (q1 : q ≤ 18446744073709551615) (T : Sp) (c : Int)
    (hT : (((S.length ≤ 1000 ∧ Norm S) ∧ p ≤ q) ∧ (built f2 S (p, q)).length ≤ 1000 ∧ T = built f2 S (p, q) ∧ c = 0) ∨ (((S.length ≤ 1000 ∧ Norm S) ∧ p ≤ q) ∧ 1000 < (built f2 S (p, q)).length ∧ T = [] ∧ c = 5) ∨ (¬ ((S.length ≤ 1000 ∧ Norm S) ∧ p ≤ q) ∧ T = [] ∧ c = 1)) :
    Calls Try.prog 32 #[.slice a S.length cap, .agg #[.int .u64 p, .int .u64 q], .int .i64 2] w fun e w' => ∃ av cp, e = .returned (.tuple #[.slice av T.length cp, .int .i64 c]) ∧
      w'.ownsRow w.heap.size 31 2 (.slice av T.length cp) T.length (flat T) ∧ Below w.heap.size w w' := by
  have hb0 : Below w.heap.size w (w.alloc (.cells #[.int .u64 p, .int .u64 q] 31)) := (Below.refl _ _).alloc (Nat.le_refl _) _
  have hS0 := hS.moved hb0
  obtain ⟨x0, x1⟩ := cell_alloc2 w (.int .u64 p) (.int .u64 q) 31 _ rfl
  have HT : Hid _ := hT
  go_enter Try.func32, Try.ntmps32
  go_wp2_with fail
  refine (specSetOK a S cap _ hS0 hf (by omega)).mono ?_
  rintro e w1 ⟨b, rfl, hiff, hb1⟩
  have y0 := (hb1.cell (World.block_lt_of_cell? _ _ x0)).trans x0
  have y1 := (hb1.cell (World.block_lt_of_cell? _ _ x1)).trans x1
  have hbw := hb0.trans (hb1.mono (by simp))
  have HI : Hid _ := hiff
  clear hiff hT
  rcases HT.out with ⟨hg, hlen, rfl, rfl⟩ | ⟨hg, hlen, rfl, rfl⟩ | ⟨hg, rfl, rfl⟩
  · obtain rfl : b = true := HI.out.2 hg.1
    have pq := hg.2
    have hS1 := hS0.moved hb1
    have hlb := built_length f2 S (p, q)
    clear HT HI hS hS0 hb0 hb1 x0 x1
    go_wp2_with fail
    refine (specBuild2 a S cap p q _ hS1 hf hg.1.1 p0 p1 q0 q1).mono ?_
    rintro e w2 ⟨av, cp, rfl, ho, hb2⟩
    go_wp2
    go_ret2
    exact ⟨av, cp, rfl, owned_base ho hbw.size, hbw.trans (hb2.mono hbw.size)⟩
  · obtain rfl : b = true := HI.out.2 hg.1
    have pq := hg.2
    have hS1 := hS0.moved hb1
    have hlb := built_length f2 S (p, q)
    clear HT HI hS hS0 hb0 hb1 x0 x1
    go_wp2_with fail
    refine (specBuild2 a S cap p q _ hS1 hf hg.1.1 p0 p1 q0 q1).mono ?_
    rintro e w2 ⟨av, cp, rfl, ho, hb2⟩
    have hll := hg.1.1
    go_wp2
    go_ret2
    exact ⟨none, 0, rfl, World.ownsRow_nil _ _ _ _, hbw.trans (hb2.mono hbw.size)⟩
  · cases b with
    | true =>
      have hpq : q < p := by
        by_cases h : p ≤ q
        · exact absurd ⟨HI.out.1 rfl, h⟩ hg
        · omega
      clear HI HT hg
      go_wp2
      go_ret2
      exact ⟨none, 0, rfl, World.ownsRow_nil _ _ _ _, hbw⟩
    | false =>
      clear HI HT hg
      go_wp2
      go_ret2
      exact ⟨none, 0, rfl, World.ownsRow_nil _ _ _ _, hbw⟩

theorem specCut (S : Sp) (p q : Int) (hf : Fits S) (hl : S.length ≤ 1048576) (p0 : 0 ≤ p) (p1 : p ≤ 18446744073709551615) (q0 : 0 ≤ q) (q1 : q ≤ 18446744073709551615) (T : Sp) (c : Int)
    (hT : (((S.length ≤ 1000 ∧ Norm S) ∧ p ≤ q) ∧ (built f2 S (p, q)).length ≤ 1000 ∧ T = built f2 S (p, q) ∧ c = 0) ∨ (((S.length ≤ 1000 ∧ Norm S) ∧ p ≤ q) ∧ 1000 < (built f2 S (p, q)).length ∧ T = [] ∧ c = 5) ∨ (¬ ((S.length ≤ 1000 ∧ Norm S) ∧ p ≤ q) ∧ T = [] ∧ c = 1)) :
    GivesL 21 S p q T c := by
  intro a cap w hS _ _ _
  have hb0 : Below w.heap.size w (w.alloc (.cells #[.int .u64 p, .int .u64 q] 31)) := (Below.refl _ _).alloc (Nat.le_refl _) _
  have hS0 := hS.moved hb0
  have HT : Hid _ := hT
  clear hT
  go_enter Try.func21, Try.ntmps21
  go_wp2_with fail
  refine (specDo2 a S cap p q _ hS0 hf hl p0 p1 q0 q1 T c HT.out).mono ?_
  rintro e w1 ⟨av, cp, rfl, ho, hb1⟩
  go_wp2
  go_ret2
  exact ⟨av, cp, rfl, owned_base ho hb0.size, hb0.trans (hb1.mono hb0.size)⟩

theorem implCut_no (S : Sp) (p q : Int) (hf : Fits S) (hl : S.length ≤ 1048576) (hno : ¬ ((S.length ≤ 1000 ∧ Norm S) ∧ p ≤ q)) : GivesL 22 S p q [] 1 := by
  intro a cap w hS _ _ _
  have hb0 : Below w.heap.size w (w.alloc (.cells #[.int .u64 p, .int .u64 q] 31)) := (Below.refl _ _).alloc (Nat.le_refl _) _
  have hS0 := hS.moved hb0
  go_enter Try.func22, Try.ntmps22
  go_wp2_with fail
  refine (spansHold_any a S cap p q _ hS0 hf (by omega)).mono ?_
  rintro e w1 ⟨b, rfl, hiff, hb1⟩
  obtain rfl : b = false := by
    cases b with
    | false => rfl
    | true => exact absurd (hiff.1 rfl) hno
  clear hiff
  go_wp2
  go_ret2
  exact ⟨none, 0, rfl, World.ownsRow_nil _ _ _ _, hb0.trans (hb1.mono (by simp))⟩

set_option maxHeartbeats 1000000 in
theorem specDo3 (a : Option Addr) (S : Sp) (cap : Nat) (p q : Int) (w : World) (hS : Spans w a S) (hf : Fits S) (hl : S.length ≤ 1048576) (p0 : 0 ≤ p) (p1 : p ≤ 18446744073709551615) (q0 : 0 ≤ q) (q1 : q ≤ 18446744073709551615) (T : Sp) (c : Int)
    (hT : (((S.length ≤ 1000 ∧ Norm S) ∧ p ≤ q) ∧ (built f3 S (p, q)).length ≤ 1000 ∧ T = built f3 S (p, q) ∧ c = 0) ∨ (((S.length ≤ 1000 ∧ Norm S) ∧ p ≤ q) ∧ 1000 < (built f3 S (p, q)).length ∧ T = [] ∧ c = 5) ∨ (¬ ((S.length ≤ 1000 ∧ Norm S) ∧ p ≤ q) ∧ T = [] ∧ c = 1)) :
    Calls Try.prog 32 #[.slice a S.length cap, .agg #[.int .u64 p, .int .u64 q], .int .i64 3] w fun e w' => ∃ av cp, e = .returned (.tuple #[.slice av T.length cp, .int .i64 c]) ∧
      w'.ownsRow w.heap.size 31 2 (.slice av T.length cp) T.length (flat T) ∧ Below w.heap.size w w' := by
  have hb0 : Below w.heap.size w (w.alloc (.cells #[.int .u64 p, .int .u64 q] 31)) := (Below.refl _ _).alloc (Nat.le_refl _) _
  have hS0 := hS.moved hb0
  obtain ⟨x0, x1⟩ := cell_alloc2 w (.int .u64 p) (.int .u64 q) 31 _ rfl
  have HT : Hid _ := hT
  go_enter Try.func32, Try.ntmps32
  go_wp2_with fail
  refine (specSetOK a S cap _ hS0 hf (by omega)).mono ?_
  rintro e w1 ⟨b, rfl, hiff, hb1⟩
  have y0 := (hb1.cell (World.block_lt_of_cell? _ _ x0)).trans x0
  have y1 := (hb1.cell (World.block_lt_of_cell? _ _ x1)).trans x1
  have hbw := hb0.trans (hb1.mono (by simp))
  have HI : Hid _ := hiff
  clear hiff hT
  rcases HT.out with ⟨hg, hlen, rfl, rfl⟩ | ⟨hg, hlen, rfl, rfl⟩ | ⟨hg, rfl, rfl⟩
  · obtain rfl : b = true := HI.out.2 hg.1
    have pq := hg.2
    have hS1 := hS0.moved hb1
    have hlb := built_length f3 S (p, q)
    clear HT HI hS hS0 hb0 hb1 x0 x1
    go_wp2_with fail
    refine (specBuild3 a S cap p q _ hS1 hf hg.1.1 p0 p1 q0 q1).mono ?_
    rintro e w2 ⟨av, cp, rfl, ho, hb2⟩
    go_wp2
    go_ret2
    exact ⟨av, cp, rfl, owned_base ho hbw.size, hbw.trans (hb2.mono hbw.size)⟩
  · obtain rfl : b = true := HI.out.2 hg.1
    have pq := hg.2
    have hS1 := hS0.moved hb1
    have hlb := built_length f3 S (p, q)
    clear HT HI hS hS0 hb0 hb1 x0 x1
    go_wp2_with fail
    refine (specBuild3 a S cap p q _ hS1 hf hg.1.1 p0 p1 q0 q1).mono ?_
    rintro e w2 ⟨av, cp, rfl, ho, hb2⟩
    have hll := hg.1.1
    go_wp2
    go_ret2
    exact ⟨none, 0, rfl, World.ownsRow_nil _ _ _ _, hbw.trans (hb2.mono hbw.size)⟩
  · cases b with
    | true =>
      have hpq : q < p := by
        by_cases h : p ≤ q
        · exact absurd ⟨HI.out.1 rfl, h⟩ hg
        · omega
      clear HI HT hg
      go_wp2
      go_ret2
      exact ⟨none, 0, rfl, World.ownsRow_nil _ _ _ _, hbw⟩
    | false =>
      clear HI HT hg
      go_wp2
      go_ret2
      exact ⟨none, 0, rfl, World.ownsRow_nil _ _ _ _, hbw⟩

theorem specGaps (S : Sp) (p q : Int) (hf : Fits S) (hl : S.length ≤ 1048576) (p0 : 0 ≤ p) (p1 : p ≤ 18446744073709551615) (q0 : 0 ≤ q) (q1 : q ≤ 18446744073709551615) (T : Sp) (c : Int)
    (hT : (((S.length ≤ 1000 ∧ Norm S) ∧ p ≤ q) ∧ (built f3 S (p, q)).length ≤ 1000 ∧ T = built f3 S (p, q) ∧ c = 0) ∨ (((S.length ≤ 1000 ∧ Norm S) ∧ p ≤ q) ∧ 1000 < (built f3 S (p, q)).length ∧ T = [] ∧ c = 5) ∨ (¬ ((S.length ≤ 1000 ∧ Norm S) ∧ p ≤ q) ∧ T = [] ∧ c = 1)) :
    GivesL 23 S p q T c := by
  intro a cap w hS _ _ _
  have hb0 : Below w.heap.size w (w.alloc (.cells #[.int .u64 p, .int .u64 q] 31)) := (Below.refl _ _).alloc (Nat.le_refl _) _
  have hS0 := hS.moved hb0
  have HT : Hid _ := hT
  clear hT
  go_enter Try.func23, Try.ntmps23
  go_wp2_with fail
  refine (specDo3 a S cap p q _ hS0 hf hl p0 p1 q0 q1 T c HT.out).mono ?_
  rintro e w1 ⟨av, cp, rfl, ho, hb1⟩
  go_wp2
  go_ret2
  exact ⟨av, cp, rfl, owned_base ho hb0.size, hb0.trans (hb1.mono hb0.size)⟩

theorem implGaps_no (S : Sp) (p q : Int) (hf : Fits S) (hl : S.length ≤ 1048576) (hno : ¬ ((S.length ≤ 1000 ∧ Norm S) ∧ p ≤ q)) : GivesL 24 S p q [] 1 := by
  intro a cap w hS _ _ _
  have hb0 : Below w.heap.size w (w.alloc (.cells #[.int .u64 p, .int .u64 q] 31)) := (Below.refl _ _).alloc (Nat.le_refl _) _
  have hS0 := hS.moved hb0
  go_enter Try.func24, Try.ntmps24
  go_wp2_with fail
  refine (spansHold_any a S cap p q _ hS0 hf (by omega)).mono ?_
  rintro e w1 ⟨b, rfl, hiff, hb1⟩
  obtain rfl : b = false := by
    cases b with
    | false => rfl
    | true => exact absurd (hiff.1 rfl) hno
  clear hiff
  go_wp2
  go_ret2
  exact ⟨none, 0, rfl, World.ownsRow_nil _ _ _ _, hb0.trans (hb1.mono (by simp))⟩
end Go.Proofs.Ytgjcdejiolenkaa
