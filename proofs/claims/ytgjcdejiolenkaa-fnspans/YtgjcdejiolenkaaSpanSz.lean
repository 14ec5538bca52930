import Derived.Test.YtgjcdejiolenkaaSpanPlace
import Derived.Test.YtgjcdejiolenkaaSpanMath5
namespace Go.Proofs.Ytgjcdejiolenkaa
open Go.ChangeShapes Go.WideShapes Go.ChangeAt Go.RowKit
set_option linter.unusedVariables false

theorem spansHold_any (a : Option Addr) (S : Sp) (cap : Nat) (p q : Int) (w : World) (hS : Spans w a S) (hf : Fits S) (hl : S.length ≤ 9223372036854775807) :
    Calls Try.prog 30 #[.slice a S.length cap, .agg #[.int .u64 p, .int .u64 q]] w fun e w' => ∃ b : Bool, e = .returned (.bool b) ∧ (b = true ↔ (S.length ≤ 1000 ∧ Norm S) ∧ p ≤ q) ∧ Below w.heap.size w w' := by
  have hb0 : Below w.heap.size w (w.alloc (.cells #[.int .u64 p, .int .u64 q] 31)) := (Below.refl _ _).alloc (Nat.le_refl _) _
  have hS0 := hS.moved hb0
  obtain ⟨x0, x1⟩ := cell_alloc2 w (.int .u64 p) (.int .u64 q) 31 _ rfl
  go_enter Try.func30, Try.ntmps30
  go_wp2_with fail
  refine (implSetOK a S cap _ hS0 hf hl).mono ?_
  rintro e w1 ⟨b, rfl, hiff, hb1⟩
  have y0 := (hb1.cell (World.block_lt_of_cell? _ _ x0)).trans x0
  have y1 := (hb1.cell (World.block_lt_of_cell? _ _ x1)).trans x1
  have hbw := hb0.trans (hb1.mono (by simp))
  clear hS hS0 hf hb0 hb1 x0 x1
  have HI : Hid (b = true ↔ S.length ≤ 1000 ∧ Norm S) := hiff
  clear hiff
  cases b with
  | true =>
    go_wp2
    go_ret
    exact ⟨_, rfl, by simp only [decide_eq_true_eq]; exact ⟨fun h => ⟨HI.out.1 trivial, h⟩, fun h => h.2⟩, hbw⟩
  | false =>
    go_wp2
    go_ret
    exact ⟨false, rfl, ⟨fun h => (by cases h), fun h => HI.out.2 h.1⟩, hbw⟩

theorem sizeStep {t c d p q : Int} (h0 : 0 ≤ t) (h1 : t ≤ 18446744073709551615) (h2 : 0 ≤ t + (min d q - max c p)) (h3 : t + (min d q - max c p) ≤ 18446744073709551615) :
    IntKind.u64.wrap (t + IntKind.u64.wrap ((if q < d then q else d) - if c < p then p else c)) = t + (min d q - max c p) := by
  have e1 : (if q < d then q else d) = min d q := by split <;> omega
  have e2 : (if c < p then p else c) = max c p := by split <;> omega
  rw [e1, e2]
  simp only [IntKind.wrap_u64]
  omega

set_option maxHeartbeats 1000000 in
theorem implSize_ok (a : Option Addr) (S : Sp) (cap : Nat) (p q : Int) (w : World) (hS : Spans w a S) (hf : Fits S) (hl : S.length ≤ 1000) (hn : Norm S) (hc : S.length ≤ cap) (hm : cap ≤ 9223372036854775807) (p0 : 0 ≤ p) (pq : p ≤ q) (q1 : q ≤ 18446744073709551615) :
    Calls Try.prog 16 #[.slice a S.length cap, .agg #[.int .u64 p, .int .u64 q]] w fun e w' => e = .returned (.tuple #[.int .u64 (total (built f4 S (p, q))), .int .i64 0]) ∧ Below w.heap.size w w' := by
  have hb0 : Below w.heap.size w (w.alloc (.cells #[.int .u64 p, .int .u64 q] 31)) := (Below.refl _ _).alloc (Nat.le_refl _) _
  have hS0 := hS.moved hb0
  obtain ⟨x0, x1⟩ := cell_alloc2 w (.int .u64 p) (.int .u64 q) 31 _ rfl
  go_enter Try.func16, Try.ntmps16
  go_wp2_with fail
  refine (spansHold_any a S cap p q _ hS0 hf (by omega)).mono ?_
  rintro e w1 ⟨b, rfl, hiff, hb1⟩
  obtain rfl : b = true := hiff.2 ⟨⟨hl, hn⟩, pq⟩
  have hS1 := hS0.moved hb1
  have y0 := (hb1.cell (World.block_lt_of_cell? _ _ x0)).trans x0
  have y1 := (hb1.cell (World.block_lt_of_cell? _ _ x1)).trans x1
  have hbw := hb0.trans (hb1.mono (by simp))
  clear hiff hS hS0 hb0 hb1 x0 x1
  go_wp2_with fail
  refine (overlap_any a S cap p q _ hS1 hf hl hn).mono ?_
  rintro e w2 ⟨i, j, rfl, hi, hj, hb2⟩
  have hS2 := hS1.moved hb2
  have z0 := (hb2.cell (World.block_lt_of_cell? _ _ y0)).trans y0
  have z1 := (hb2.cell (World.block_lt_of_cell? _ _ y1)).trans y1
  have hbw2 := hbw.trans (hb2.mono hbw.size)
  have hij := overlap_le (s := (p, q)) hn pq hi hj
  have hjl := hj.le
  have HI : Hid _ := hi
  have HJ : Hid _ := hj
  have HN : Hid (Norm S) := hn
  clear hi hj hn hS1 y0 y1 hbw hb2
  have htot := clip_total (s := (p, q)) HN.out pq HI.out HJ.out
  have HT : Hid (total (clip S (p, q) i j) = total (built f4 S (p, q))) := htot
  clear htot
  by_cases hlt : i < j
  · have hic : i < cap := by omega
    have hic' : ¬ i = cap := by omega
    have hcl := clip_length (s := (p, q)) hij hjl
    have hle := clip_le (s := (p, q)) HN.out pq HI.out HJ.out
    have hbd : total (clip S (p, q) i j) ≤ q - p := by rw [HT.out]; exact (total_le (built_norm (f := f4) rfl S (p, q)) pq (built4_inside S (p, q))).1
    rcases hS2 with h0 | ⟨b, off, rfl, hcc⟩
    · simp [h0] at hjl; omega
    go_wp2
    go_loopw [6, 26] (fun t x wr => ∃ k : Nat, k ≤ j - i ∧ x = .int .i64 k ∧ t = .int .u64 (total ((clip S (p, q) i j).take k)) ∧ Below w2.heap.size w2 wr) (fun _ x _ => j - i - (intOf x).toNat)
    case atStart => exact ⟨0, Nat.zero_le _, rfl, rfl, Below.refl _ _⟩
    case round =>
      obtain ⟨k, hk, rfl, rfl, hb⟩ := hrel
      by_cases hk2 : k < j - i
      · have hik : i + k < S.length := by omega
        obtain ⟨c, d, hn, c0, c1, d0, d1, q2, q3⟩ := Spans.at hf hcc hik
        have r1 : wr.cell? ⟨b, off + i * 2 + k * 2, none⟩ = some (.int .u64 c) := by rw [show off + i * 2 + k * 2 = off + (i + k) * 2 by omega, hb.cell (World.block_lt_of_cell? w2 _ q2)]; exact q2
        have r2 : wr.cell? ⟨b, off + i * 2 + k * 2 + 1, none⟩ = some (.int .u64 d) := by rw [show off + i * 2 + k * 2 + 1 = off + (i + k) * 2 + 1 by omega, hb.cell (World.block_lt_of_cell? w2 _ q3)]; exact q3
        have t0 := (hb.cell (World.block_lt_of_cell? _ _ z0)).trans z0
        have t1 := (hb.cell (World.block_lt_of_cell? _ _ z1)).trans z1
        have hlt0 := World.block_lt_of_cell? wr _ t0
        have hk3 : k < (clip S (p, q) i j).length := by omega
        have hsucc := total_take_succ hk3
        rw [clip_at hij hjl hk3] at hsucc
        simp only [hn.out] at hsucc
        have hbd1 := total_take_le hle k
        have hbd2 := total_take_le hle (k + 1)
        have hbr := hb.alloc hb.size (.cells #[.int .u64 c, .int .u64 d] 31)
        have HS : Hid (total ((clip S (p, q) i j).take (k + 1)) = total ((clip S (p, q) i j).take k) + (min d q - max c p)) := hsucc
        clear hsucc hcc hn hb
        go_wp2
        go_roundw
        case rel => exact ⟨k + 1, by omega, by go_num, congrArg (Value.int .u64) (by rw [HS.out] at hbd2 ⊢; exact sizeStep hbd1.1 (by omega) hbd2.1 (by omega)), hbr⟩
        case measure => simp [intOf]; omega
      · go_wp2
        go_ret2
        have hke : k = (clip S (p, q) i j).length := by omega
        refine ⟨?_, hbw2.trans (hb.mono hbw2.size)⟩
        rw [← HT.out, hke, List.take_length]
        rfl
  · have hije : i = j := by omega
    subst hije
    have h0 : total (built f4 S (p, q)) = 0 := by
      rw [← HT.out]
      simp [clip, total]
    go_wp2
    all_goals
      refine wp_loop_rounds 1 ?_
      rw [rounds_succ]
      go_wp2
      go_ret2
      exact ⟨by rw [h0]; rfl, hbw2⟩

theorem implSize_no (a : Option Addr) (S : Sp) (cap : Nat) (p q : Int) (w : World) (hS : Spans w a S) (hf : Fits S) (hl : S.length ≤ 9223372036854775807) (hno : ¬ ((S.length ≤ 1000 ∧ Norm S) ∧ p ≤ q)) :
    Calls Try.prog 16 #[.slice a S.length cap, .agg #[.int .u64 p, .int .u64 q]] w fun e w' => e = .returned (.tuple #[.int .u64 0, .int .i64 1]) ∧ Below w.heap.size w w' := by
  have hb0 : Below w.heap.size w (w.alloc (.cells #[.int .u64 p, .int .u64 q] 31)) := (Below.refl _ _).alloc (Nat.le_refl _) _
  have hS0 := hS.moved hb0
  go_enter Try.func16, Try.ntmps16
  go_wp2_with fail
  refine (spansHold_any a S cap p q _ hS0 hf hl).mono ?_
  rintro e w1 ⟨b, rfl, hiff, hb1⟩
  obtain rfl : b = false := by
    cases b with
    | false => rfl
    | true => exact absurd (hiff.1 rfl) hno
  clear hiff
  go_wp2
  go_ret2
  exact ⟨rfl, hb0.trans (hb1.mono (by simp))⟩

end Go.Proofs.Ytgjcdejiolenkaa
