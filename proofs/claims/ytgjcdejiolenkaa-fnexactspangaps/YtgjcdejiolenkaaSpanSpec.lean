import Derived.Test.YtgjcdejiolenkaaSpanBuild1
import Derived.Test.YtgjcdejiolenkaaSpanBuild2
import Derived.Test.YtgjcdejiolenkaaSpanBuild3
import Derived.Test.YtgjcdejiolenkaaSpanBuild4
import Derived.Test.YtgjcdejiolenkaaSpanMath5
namespace Go.Proofs.Ytgjcdejiolenkaa
open Go.ChangeShapes Go.WideShapes Go.ChangeAt Go.RowKit
set_option linter.unusedVariables false

theorem built_fits {f : Bool → Bool → Bool} (hf0 : f false false = false) {S : Sp} {p q : Int} (hf : Fits S) (p0 : 0 ≤ p) (p1 : p ≤ 18446744073709551615) (q0 : 0 ≤ q) (q1 : q ≤ 18446744073709551615) : Fits (built f S (p, q)) := by
  intro r hr
  have hn := (built_norm hf0 S (p, q)).each r hr
  have h1 := (built_in hf0 S (p, q) r.1).1 ⟨r, hr, Int.le_refl _, hn⟩
  have h2 := (built_in hf0 S (p, q) (r.2 - 1)).1 ⟨r, hr, by omega, by omega⟩
  have key : ∀ x, f (inB x S) (inB x [(p, q)]) = true → 0 ≤ x ∧ x < 18446744073709551615 := by
    intro x hx
    by_cases u : inB x S = true
    · obtain ⟨t, ht, a, b⟩ := inB_iff.1 u
      have := hf t ht
      omega
    · by_cases v : inB x [(p, q)] = true
      · have := (in_one _ _).1 (inB_iff.1 v)
        have h5 : p ≤ x := this.1
        have h6 : x < q := this.2
        omega
      · rw [Bool.not_eq_true] at u v
        rw [u, v, hf0] at hx
        cases hx
  have a := key _ h1
  have b := key _ h2
  omega

theorem built_length (f : Bool → Bool → Bool) (S : Sp) (s : Int × Int) : (built f S s).length ≤ 2 + S.length * 2 := by
  have h1 := buildTo_length (P := pts S s) (pass := fun x => f (inB x S) (inB x [s])) ((pts S s).length - 1)
  have h2 := pts_length S s
  unfold built
  omega

theorem specHas_ok (a : Option Addr) (S : Sp) (cap : Nat) (p q : Int) (w : World) (hS : Spans w a S) (hf : Fits S) (hl : S.length ≤ 1000) (hn : Norm S) (p0 : 0 ≤ p) (pq : p ≤ q) (q1 : q ≤ 18446744073709551615) :
    Calls Try.prog 10 #[.slice a S.length cap, .agg #[.int .u64 p, .int .u64 q]] w fun e w' => e = .returned (.tuple #[.int .i64 (if built f3 S (p, q) = [] then 1 else 0), .int .i64 0]) ∧ Below w.heap.size w w' := by
  have hb0 : Below w.heap.size w (w.alloc (.cells #[.int .u64 p, .int .u64 q] 31)) := (Below.refl _ _).alloc (Nat.le_refl _) _
  have hS0 := hS.moved hb0
  obtain ⟨x0, x1⟩ := cell_alloc2 w (.int .u64 p) (.int .u64 q) 31 _ rfl
  go_enter Try.func10, Try.ntmps10
  go_wp2_with fail
  refine (specSetOK a S cap _ hS0 hf (by omega)).mono ?_
  rintro e w1 ⟨b, rfl, hiff, hb1⟩
  obtain rfl : b = true := hiff.2 ⟨hl, hn⟩
  have hS1 := hS0.moved hb1
  have y0 := (hb1.cell (World.block_lt_of_cell? _ _ x0)).trans x0
  have y1 := (hb1.cell (World.block_lt_of_cell? _ _ x1)).trans x1
  have hbw := hb0.trans (hb1.mono (by simp))
  clear hiff hS hS0 hb0 hb1 x0 x1
  go_wp2_with fail
  refine (specBuild3 a S cap p q _ hS1 hf hl p0 (by omega) (by omega) q1).mono ?_
  rintro e w2 ⟨av, cp, rfl, hown, hb2⟩
  have hbw2 := hbw.trans (hb2.mono hbw.size)
  have hlb := built_length f3 S (p, q)
  by_cases hg : built f3 S (p, q) = []
  · have h1 : (built f3 S (p, q)).length = 0 := by rw [hg]; rfl
    rw [h1]
    go_wp2
    go_ret2
    exact ⟨by first | rfl | (rw [if_pos hg]; rfl), hbw2⟩
  · have h1 : ¬ (built f3 S (p, q)).length = 0 := fun h => hg (List.eq_nil_of_length_eq_zero h)
    have h2 : (((built f3 S (p, q)).length : Int) == 0) = false := by simp; exact hg
    go_wp2
    all_goals first | (exfalso; omega) | (go_ret2; exact ⟨by first | rfl | (rw [if_neg hg]; rfl), hbw2⟩)

theorem specHas_no (a : Option Addr) (S : Sp) (cap : Nat) (p q : Int) (w : World) (hS : Spans w a S) (hf : Fits S) (hl : S.length ≤ 9223372036854775807) (hno : ¬ ((S.length ≤ 1000 ∧ Norm S) ∧ p ≤ q)) :
    Calls Try.prog 10 #[.slice a S.length cap, .agg #[.int .u64 p, .int .u64 q]] w fun e w' => e = .returned (.tuple #[.int .i64 0, .int .i64 1]) ∧ Below w.heap.size w w' := by
  have hb0 : Below w.heap.size w (w.alloc (.cells #[.int .u64 p, .int .u64 q] 31)) := (Below.refl _ _).alloc (Nat.le_refl _) _
  have hS0 := hS.moved hb0
  obtain ⟨x0, x1⟩ := cell_alloc2 w (.int .u64 p) (.int .u64 q) 31 _ rfl
  go_enter Try.func10, Try.ntmps10
  go_wp2_with fail
  refine (specSetOK a S cap _ hS0 hf hl).mono ?_
  rintro e w1 ⟨b, rfl, hiff, hb1⟩
  have y0 := (hb1.cell (World.block_lt_of_cell? _ _ x0)).trans x0
  have y1 := (hb1.cell (World.block_lt_of_cell? _ _ x1)).trans x1
  have hbw := hb0.trans (hb1.mono (by simp))
  cases b with
  | true =>
    have hpq : q < p := by
      by_cases h : p ≤ q
      · exact absurd ⟨hiff.1 rfl, h⟩ hno
      · omega
    clear hiff hno
    go_wp2
    go_ret2
    exact ⟨rfl, hbw⟩
  | false =>
    clear hiff hno
    go_wp2
    go_ret2
    exact ⟨rfl, hbw⟩

theorem sizeStep2 {t c d : Int} (h0 : 0 ≤ t) (c0 : 0 ≤ c) (d0 : 0 ≤ d) (h2 : 0 ≤ t + (d - c)) (h3 : t + (d - c) ≤ 18446744073709551615) : IntKind.u64.wrap (IntKind.u64.wrap (t + d) - c) = t + (d - c) := by
  simp only [IntKind.wrap_u64]
  omega

set_option maxHeartbeats 1000000 in
theorem specSize_ok (a : Option Addr) (S : Sp) (cap : Nat) (p q : Int) (w : World) (hS : Spans w a S) (hf : Fits S) (hl : S.length ≤ 1000) (hn : Norm S) (p0 : 0 ≤ p) (pq : p ≤ q) (q1 : q ≤ 18446744073709551615) :
    Calls Try.prog 15 #[.slice a S.length cap, .agg #[.int .u64 p, .int .u64 q]] w fun e w' => e = .returned (.tuple #[.int .u64 (total (built f4 S (p, q))), .int .i64 0]) ∧ Below w.heap.size w w' := by
  have hb0 : Below w.heap.size w (w.alloc (.cells #[.int .u64 p, .int .u64 q] 31)) := (Below.refl _ _).alloc (Nat.le_refl _) _
  have hS0 := hS.moved hb0
  obtain ⟨x0, x1⟩ := cell_alloc2 w (.int .u64 p) (.int .u64 q) 31 _ rfl
  go_enter Try.func15, Try.ntmps15
  go_wp2_with fail
  refine (specSetOK a S cap _ hS0 hf (by omega)).mono ?_
  rintro e w1 ⟨b, rfl, hiff, hb1⟩
  obtain rfl : b = true := hiff.2 ⟨hl, hn⟩
  have hS1 := hS0.moved hb1
  have y0 := (hb1.cell (World.block_lt_of_cell? _ _ x0)).trans x0
  have y1 := (hb1.cell (World.block_lt_of_cell? _ _ x1)).trans x1
  have hbw := hb0.trans (hb1.mono (by simp))
  clear hiff hS hS0 hb0 hb1 x0 x1
  go_wp2_with fail
  refine (specBuild4 a S cap p q _ hS1 hf hl p0 (by omega) (by omega) q1).mono ?_
  rintro e w2 ⟨av, cp, rfl, hown, hb2⟩
  have hbw2 := hbw.trans (hb2.mono hbw.size)
  have hlb := built_length f4 S (p, q)
  have hfb := built_fits (f := f4) rfl hf p0 (by omega) (by omega) q1
  have hle : ∀ r ∈ built f4 S (p, q), r.1 ≤ r.2 := fun r hr => Int.le_of_lt ((built_norm (f := f4) rfl S (p, q)).each r hr)
  have hbd := (total_le (built_norm (f := f4) rfl S (p, q)) pq (built4_inside S (p, q))).1
  obtain ⟨B, hB⟩ : ∃ B, B = built f4 S (p, q) := ⟨_, rfl⟩
  have HB : Hid (built f4 S (p, q) = B) := hB.symm
  rw [← hB] at hown hlb hfb hle hbd ⊢
  have hSB := Spans.ofRow rfl hown
  clear hB hown hS1 y0 y1 hb2 hbw hn hf
  go_wp2
  go_loopw [7, 8] (fun t x wr => ∃ k : Nat, k ≤ B.length ∧ x = .int .i64 k ∧ t = .int .u64 (total (B.take k)) ∧ Below w2.heap.size w2 wr) (fun _ x _ => B.length - (intOf x).toNat)
  case atStart => exact ⟨0, Nat.zero_le _, rfl, rfl, Below.refl _ _⟩
  case round =>
    obtain ⟨k, hk, rfl, rfl, hb⟩ := hrel
    by_cases hlt : k < B.length
    · rcases hSB with h0 | ⟨b, off, rfl, hcc⟩
      · simp [h0] at hlt
      obtain ⟨c, d, hn, c0, c1, d0, d1, q2, q3⟩ := Spans.at hfb hcc hlt
      have r1 : wr.cell? ⟨b, off + k * 2, none⟩ = some (.int .u64 c) := by rw [hb.cell (World.block_lt_of_cell? w2 _ q2)]; exact q2
      have r2 : wr.cell? ⟨b, off + k * 2 + 1, none⟩ = some (.int .u64 d) := by rw [hb.cell (World.block_lt_of_cell? w2 _ q3)]; exact q3
      have hsucc := total_take_succ hlt
      rw [hn.out] at hsucc
      have hbd1 := total_take_le hle k
      have hbd2 := total_take_le hle (k + 1)
      have HS : Hid (total (B.take (k + 1)) = total (B.take k) + (d - c)) := hsucc
      clear hsucc hcc hn hfb
      go_wp2
      go_quiet (fail)
      go_wp2
      go_roundw
      case rel => exact ⟨k + 1, by omega, by go_num, congrArg (Value.int .u64) (by rw [HS.out] at hbd2 ⊢; exact sizeStep2 hbd1.1 c0 d0 hbd2.1 (by omega)), drewsN hb _⟩
      case measure => simp [intOf]; omega
    · go_wp2
      go_ret2
      have hke : k = B.length := by omega
      refine ⟨?_, hbw2.trans (hb.mono hbw2.size)⟩
      rw [HB.out, hke, List.take_length]
      rfl

theorem specSize_no (a : Option Addr) (S : Sp) (cap : Nat) (p q : Int) (w : World) (hS : Spans w a S) (hf : Fits S) (hl : S.length ≤ 9223372036854775807) (hno : ¬ ((S.length ≤ 1000 ∧ Norm S) ∧ p ≤ q)) :
    Calls Try.prog 15 #[.slice a S.length cap, .agg #[.int .u64 p, .int .u64 q]] w fun e w' => e = .returned (.tuple #[.int .u64 0, .int .i64 1]) ∧ Below w.heap.size w w' := by
  have hb0 : Below w.heap.size w (w.alloc (.cells #[.int .u64 p, .int .u64 q] 31)) := (Below.refl _ _).alloc (Nat.le_refl _) _
  have hS0 := hS.moved hb0
  obtain ⟨x0, x1⟩ := cell_alloc2 w (.int .u64 p) (.int .u64 q) 31 _ rfl
  go_enter Try.func15, Try.ntmps15
  go_wp2_with fail
  refine (specSetOK a S cap _ hS0 hf hl).mono ?_
  rintro e w1 ⟨b, rfl, hiff, hb1⟩
  have y0 := (hb1.cell (World.block_lt_of_cell? _ _ x0)).trans x0
  have y1 := (hb1.cell (World.block_lt_of_cell? _ _ x1)).trans x1
  have hbw := hb0.trans (hb1.mono (by simp))
  cases b with
  | true =>
    have hpq : q < p := by
      by_cases h : p ≤ q
      · exact absurd ⟨hiff.1 rfl, h⟩ hno
      · omega
    clear hiff hno
    go_wp2
    go_ret2
    exact ⟨rfl, hbw⟩
  | false =>
    clear hiff hno
    go_wp2
    go_ret2
    exact ⟨rfl, hbw⟩
end Go.Proofs.Ytgjcdejiolenkaa
