import Derived.Test.YtgjcdejiolenkaaSpanSz
namespace Go.Proofs.Ytgjcdejiolenkaa
open Go.ChangeShapes Go.WideShapes Go.ChangeAt Go.RowKit
set_option linter.unusedVariables false

/-- impl.SpanHas, where the call may go on. -/
theorem implHas_ok (a : Option Addr) (S : Sp) (cap : Nat) (p q : Int) (w : World) (hS : Spans w a S) (hf : Fits S) (hl : S.length ≤ 1000) (hn : Norm S) (hc : S.length ≤ cap) (hm : cap ≤ 9223372036854775807) (p0 : 0 ≤ p) (pq : p ≤ q) (q1 : q ≤ 18446744073709551615) :
    Calls Try.prog 13 #[.slice a S.length cap, .agg #[.int .u64 p, .int .u64 q]] w fun e w' => e = .returned (.tuple #[.int .i64 (if built f3 S (p, q) = [] then 1 else 0), .int .i64 0]) ∧ Below w.heap.size w w' := by
  have hb0 : Below w.heap.size w (w.alloc (.cells #[.int .u64 p, .int .u64 q] 31)) := (Below.refl _ _).alloc (Nat.le_refl _) _
  have hS0 := hS.moved hb0
  obtain ⟨x0, x1⟩ := cell_alloc2 w (.int .u64 p) (.int .u64 q) 31 _ rfl
  have hiff := has_iff S (p, q) pq
  have hle := (total_le (built_norm (f := f4) rfl S (p, q)) pq (built4_inside S (p, q))).1
  have hge := total_nonneg (S := built f4 S (p, q)) fun r hr => Int.le_of_lt ((built_norm (f := f4) rfl S (p, q)).each r hr)
  obtain ⟨T, hT⟩ : ∃ T, T = total (built f4 S (p, q)) := ⟨_, rfl⟩
  by_cases hg : built f3 S (p, q) = []
  · rw [if_pos hg]
    have hTe : T = q - p := by rw [hT]; exact hiff.2 hg
    have HT : Hid (total (built f4 S (p, q)) = q - p) := hiff.2 hg
    clear hiff hle hge hT hTe
    go_enter Try.func13, Try.ntmps13
    go_wp2_with fail
    refine (implSize_ok a S cap p q _ hS0 hf hl hn hc hm p0 pq q1).mono ?_
    rintro e w1 ⟨rfl, hb1⟩
    have y0 := (hb1.cell (World.block_lt_of_cell? _ _ x0)).trans x0
    have y1 := (hb1.cell (World.block_lt_of_cell? _ _ x1)).trans x1
    rw [HT.out]
    go_wp2
    all_goals first | (exfalso; omega) | (go_ret2; exact ⟨rfl, hb0.trans (hb1.mono (by simp))⟩)
  · rw [if_neg hg]
    have hTe : ¬ total (built f4 S (p, q)) = q - p := fun h => hg (hiff.1 h)
    rw [← hT] at hTe hle hge
    have HT : Hid (total (built f4 S (p, q)) = T) := hT.symm
    clear hiff hT hg
    go_enter Try.func13, Try.ntmps13
    go_wp2_with fail
    refine (implSize_ok a S cap p q _ hS0 hf hl hn hc hm p0 pq q1).mono ?_
    rintro e w1 ⟨rfl, hb1⟩
    have y0 := (hb1.cell (World.block_lt_of_cell? _ _ x0)).trans x0
    have y1 := (hb1.cell (World.block_lt_of_cell? _ _ x1)).trans x1
    rw [HT.out]
    have hTb : (T == q - p) = false := by simpa using hTe
    go_wp2
    all_goals first | (exfalso; omega) | (go_ret2; exact ⟨rfl, hb0.trans (hb1.mono (by simp))⟩)

theorem implHas_no (a : Option Addr) (S : Sp) (cap : Nat) (p q : Int) (w : World) (hS : Spans w a S) (hf : Fits S) (hl : S.length ≤ 9223372036854775807) (hno : ¬ ((S.length ≤ 1000 ∧ Norm S) ∧ p ≤ q)) :
    Calls Try.prog 13 #[.slice a S.length cap, .agg #[.int .u64 p, .int .u64 q]] w fun e w' => e = .returned (.tuple #[.int .i64 0, .int .i64 1]) ∧ Below w.heap.size w w' := by
  have hb0 : Below w.heap.size w (w.alloc (.cells #[.int .u64 p, .int .u64 q] 31)) := (Below.refl _ _).alloc (Nat.le_refl _) _
  have hS0 := hS.moved hb0
  go_enter Try.func13, Try.ntmps13
  go_wp2_with fail
  refine (implSize_no a S cap p q _ hS0 hf hl hno).mono ?_
  rintro e w1 ⟨rfl, hb1⟩
  go_wp2
  go_ret2
  exact ⟨rfl, hb0.trans (hb1.mono (by simp))⟩
end Go.Proofs.Ytgjcdejiolenkaa
