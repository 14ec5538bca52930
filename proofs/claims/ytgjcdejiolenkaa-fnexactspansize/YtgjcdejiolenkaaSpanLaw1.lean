import Derived.Test.YtgjcdejiolenkaaSpanSpec
import Derived.Test.YtgjcdejiolenkaaSpanSize
import Derived.Test.YtgjcdejiolenkaaSpanLaw
import Derived.Test.YtgjcdejiolenkaaSpanTo
import Derived.Deep.RegionHeld3
namespace Go.Proofs.Ytgjcdejiolenkaa
open Go.ChangeShapes Go.WideShapes Go.ChangeAt Go.RowKit
set_option linter.unusedVariables false

/-- What both answer: a number and a code. -/
def Gives (fn : Nat) (S : Sp) (p q : Int) (k : IntKind) (r c : Int) : Prop :=
  ∀ (a : Option Addr) (cap : Nat) (w : World), Spans w a S → S.length ≤ cap → cap ≤ 9223372036854775807 →
    Calls Try.prog fn #[.slice a S.length cap, .agg #[.int .u64 p, .int .u64 q]] w fun e w' => e = .returned (.tuple #[.int k r, .int .i64 c]) ∧ Below w.heap.size w w'

theorem bothHas (S : Sp) (p q : Int) (hf : Fits S) (hl : S.length ≤ 1048576) (p0 : 0 ≤ p) (p1 : p ≤ 18446744073709551615) (q0 : 0 ≤ q) (q1 : q ≤ 18446744073709551615) : ∃ r c : Int, Gives 10 S p q .i64 r c ∧ Gives 13 S p q .i64 r c := by
  by_cases hg : (S.length ≤ 1000 ∧ Norm S) ∧ p ≤ q
  · exact ⟨_, _, fun a cap w h1 h2 h3 => specHas_ok a S cap p q w h1 hf hg.1.1 hg.1.2 p0 hg.2 q1, fun a cap w h1 h2 h3 => implHas_ok a S cap p q w h1 hf hg.1.1 hg.1.2 h2 h3 p0 hg.2 q1⟩
  · exact ⟨_, _, fun a cap w h1 h2 h3 => specHas_no a S cap p q w h1 hf (by omega) hg, fun a cap w h1 h2 h3 => implHas_no a S cap p q w h1 hf (by omega) hg⟩

theorem bothSize (S : Sp) (p q : Int) (hf : Fits S) (hl : S.length ≤ 1048576) (p0 : 0 ≤ p) (p1 : p ≤ 18446744073709551615) (q0 : 0 ≤ q) (q1 : q ≤ 18446744073709551615) : ∃ r c : Int, Gives 15 S p q .u64 r c ∧ Gives 16 S p q .u64 r c := by
  by_cases hg : (S.length ≤ 1000 ∧ Norm S) ∧ p ≤ q
  · exact ⟨_, _, fun a cap w h1 h2 h3 => specSize_ok a S cap p q w h1 hf hg.1.1 hg.1.2 p0 hg.2 q1, fun a cap w h1 h2 h3 => implSize_ok a S cap p q w h1 hf hg.1.1 hg.1.2 h2 h3 p0 hg.2 q1⟩
  · exact ⟨_, _, fun a cap w h1 h2 h3 => specSize_no a S cap p q w h1 hf (by omega) hg, fun a cap w h1 h2 h3 => implSize_no a S cap p q w h1 hf (by omega) hg⟩

set_option maxHeartbeats 2000000 in
theorem lawHas (a : Option Addr) (S : Sp) (cap : Nat) (p q : Int) (w : World) (hS : Spans w a S) (hf : Fits S) (hm : S.length ≤ 9223372036854775807) (p0 : 0 ≤ p) (p1 : p ≤ 18446744073709551615) (q0 : 0 ≤ q) (q1 : q ≤ 18446744073709551615) :
    Calls Try.prog 3 #[.slice a S.length cap, .agg #[.int .u64 p, .int .u64 q]] w fun e w' => e = .returned (.bool true) ∧ Below w.heap.size w w' := by
  have hb0 : Below w.heap.size w (w.alloc (.cells #[.int .u64 p, .int .u64 q] 25)) := (Below.refl _ _).alloc (Nat.le_refl _) _
  by_cases hl : S.length ≤ 1048576
  · obtain ⟨x0, x1⟩ := cell_alloc2 w (.int .u64 p) (.int .u64 q) 25 _ rfl
    have HSZ : Hid ((w.alloc (.cells #[.int .u64 p, .int .u64 q] 25)).drew.heap.size = w.heap.size + 1) := by unfold Hid; simp
    obtain ⟨r, c, hspec, himpl⟩ := bothHas S p q hf hl p0 p1 q0 q1
    have HSP : Hid _ := hspec
    have HIM : Hid _ := himpl
    clear hspec himpl
    go_enter Try.func3, Try.ntmps3
    go_wp2_with (go_at_call 9; refine (szSpanS_any a S.length cap _ hm).mono ?_; rintro e w9 ⟨rfl, rfl⟩; rw [if_pos hl])
    go_region_held3 (fun w' => w'.cell? ⟨w.heap.size, 0, none⟩ = some (.int .u64 p) ∧ w'.cell? ⟨w.heap.size, 1, none⟩ = some (.int .u64 q))
      (first | go_keep | exact ⟨by assumption, by assumption⟩)
      (first
        | (go_at_call 11; refine (toSpanS_any a S cap _ (hS.moved hb0.drew) hf hl).mono ?_; rintro e w1 ⟨rfl, ho1, hb1⟩; rw [HSZ.out] at ho1; have k0 := (hb1.cell (World.block_lt_of_cell? _ _ x0)).trans x0; have k1 := (hb1.cell (World.block_lt_of_cell? _ _ x1)).trans x1; have hbw1 := hb0.drew.trans (hb1.mono (by simp)))
        | (go_at_call 12; refine (toSpan_any p q _).mono ?_; rintro e w2 ⟨rfl, hb2⟩; have l0 := (hb2.cell (World.block_lt_of_cell? _ _ k0)).trans k0; have l1 := (hb2.cell (World.block_lt_of_cell? _ _ k1)).trans k1; have hbw2 := hbw1.trans (hb2.mono hbw1.size); have ho2 := owned_kept ho1 hb2)
        | (go_at_call 10; refine (HSP.out _ _ _ (Spans.ofRow rfl ho2) (Nat.le_refl _) (by omega)).mono ?_; rintro e w3 ⟨rfl, hb3⟩; have m0 := (hb3.cell (World.block_lt_of_cell? _ _ l0)).trans l0; have m1 := (hb3.cell (World.block_lt_of_cell? _ _ l1)).trans l1; have hbw3 := hbw2.trans (hb3.mono hbw2.size)))
    clear ho1 ho2 k0 k1 l0 l1 hb1 hb2 hb3 hbw1 hbw2 x0 x1 hb0 HSZ HSP
    have hS3 := hS.moved hbw3
    have s3 := hbw3.size
    go_wp2_with fail
    refine (toSpanS_any a S cap _ hS3 hf hl).mono ?_
    rintro e w4 ⟨rfl, ho4, hb4⟩
    have n0 := (hb4.cell (World.block_lt_of_cell? _ _ m0)).trans m0
    have n1 := (hb4.cell (World.block_lt_of_cell? _ _ m1)).trans m1
    go_wp2_with fail
    refine (toSpan_any p q _).mono ?_
    rintro e w5 ⟨rfl, hb5⟩
    have ho5 := owned_kept ho4 hb5
    go_wp2_with fail
    refine (HIM.out _ _ _ (Spans.ofRow rfl ho5) (Nat.le_refl _) (by omega)).mono ?_
    rintro e w6 ⟨rfl, hb6⟩
    have ho6 := owned_kept ho5 hb6
    have s4 := hb4.size
    have s5 := hb5.size
    have s6 := hb6.size
    have hbw6 : Below w.heap.size w w6 := ((hbw3.trans (hb4.mono s3)).trans (hb5.mono (by omega))).trans (hb6.mono (by omega))
    have hS6 := hS.moved hbw6
    clear HIM hS hS3 hbw3 hb4 hb5 hb6 ho4 ho5 m0 m1 n0 n1
    go_wp2_with fail
    refine (toSpanS_any a S cap _ hS6 hf hl).mono ?_
    rintro e w7 ⟨rfl, ho7, hb7⟩
    have ho6' := owned_kept ho6 hb7
    go_wp2_with fail
    refine (eqSpanS_same _ _ S _ _ _ (Spans.ofRow rfl ho6') (Spans.ofRow rfl ho7) hf hl).mono ?_
    rintro e w8 ⟨rfl, hb8⟩
    go_wp2
    go_ret
    have s7 := hb7.size
    exact ⟨rfl, (hbw6.trans (hb7.mono (by omega))).trans (hb8.mono (by omega))⟩
  · go_enter Try.func3, Try.ntmps3
    go_wp2_with (go_at_call 9; refine (szSpanS_any a S.length cap _ hm).mono ?_; rintro e w9 ⟨rfl, rfl⟩; rw [if_neg hl])
    go_ret
    exact ⟨rfl, hb0⟩

set_option maxHeartbeats 2000000 in
theorem lawSize (a : Option Addr) (S : Sp) (cap : Nat) (p q : Int) (w : World) (hS : Spans w a S) (hf : Fits S) (hm : S.length ≤ 9223372036854775807) (p0 : 0 ≤ p) (p1 : p ≤ 18446744073709551615) (q0 : 0 ≤ q) (q1 : q ≤ 18446744073709551615) :
    Calls Try.prog 4 #[.slice a S.length cap, .agg #[.int .u64 p, .int .u64 q]] w fun e w' => e = .returned (.bool true) ∧ Below w.heap.size w w' := by
  have hb0 : Below w.heap.size w (w.alloc (.cells #[.int .u64 p, .int .u64 q] 25)) := (Below.refl _ _).alloc (Nat.le_refl _) _
  by_cases hl : S.length ≤ 1048576
  · obtain ⟨x0, x1⟩ := cell_alloc2 w (.int .u64 p) (.int .u64 q) 25 _ rfl
    have HSZ : Hid ((w.alloc (.cells #[.int .u64 p, .int .u64 q] 25)).drew.heap.size = w.heap.size + 1) := by unfold Hid; simp
    obtain ⟨r, c, hspec, himpl⟩ := bothSize S p q hf hl p0 p1 q0 q1
    have HSP : Hid _ := hspec
    have HIM : Hid _ := himpl
    clear hspec himpl
    go_enter Try.func4, Try.ntmps4
    go_wp2_with (go_at_call 9; refine (szSpanS_any a S.length cap _ hm).mono ?_; rintro e w9 ⟨rfl, rfl⟩; rw [if_pos hl])
    go_region_held3 (fun w' => w'.cell? ⟨w.heap.size, 0, none⟩ = some (.int .u64 p) ∧ w'.cell? ⟨w.heap.size, 1, none⟩ = some (.int .u64 q))
      (first | go_keep | exact ⟨by assumption, by assumption⟩)
      (first
        | (go_at_call 11; refine (toSpanS_any a S cap _ (hS.moved hb0.drew) hf hl).mono ?_; rintro e w1 ⟨rfl, ho1, hb1⟩; rw [HSZ.out] at ho1; have k0 := (hb1.cell (World.block_lt_of_cell? _ _ x0)).trans x0; have k1 := (hb1.cell (World.block_lt_of_cell? _ _ x1)).trans x1; have hbw1 := hb0.drew.trans (hb1.mono (by simp)))
        | (go_at_call 12; refine (toSpan_any p q _).mono ?_; rintro e w2 ⟨rfl, hb2⟩; have l0 := (hb2.cell (World.block_lt_of_cell? _ _ k0)).trans k0; have l1 := (hb2.cell (World.block_lt_of_cell? _ _ k1)).trans k1; have hbw2 := hbw1.trans (hb2.mono hbw1.size); have ho2 := owned_kept ho1 hb2)
        | (go_at_call 15; refine (HSP.out _ _ _ (Spans.ofRow rfl ho2) (Nat.le_refl _) (by omega)).mono ?_; rintro e w3 ⟨rfl, hb3⟩; have m0 := (hb3.cell (World.block_lt_of_cell? _ _ l0)).trans l0; have m1 := (hb3.cell (World.block_lt_of_cell? _ _ l1)).trans l1; have hbw3 := hbw2.trans (hb3.mono hbw2.size)))
    clear ho1 ho2 k0 k1 l0 l1 hb1 hb2 hb3 hbw1 hbw2 x0 x1 hb0 HSZ HSP
    have hS3 := hS.moved hbw3
    have s3 := hbw3.size
    go_wp2_with fail
    refine (toSpanS_any a S cap _ hS3 hf hl).mono ?_
    rintro e w4 ⟨rfl, ho4, hb4⟩
    have n0 := (hb4.cell (World.block_lt_of_cell? _ _ m0)).trans m0
    have n1 := (hb4.cell (World.block_lt_of_cell? _ _ m1)).trans m1
    go_wp2_with fail
    refine (toSpan_any p q _).mono ?_
    rintro e w5 ⟨rfl, hb5⟩
    have ho5 := owned_kept ho4 hb5
    go_wp2_with fail
    refine (HIM.out _ _ _ (Spans.ofRow rfl ho5) (Nat.le_refl _) (by omega)).mono ?_
    rintro e w6 ⟨rfl, hb6⟩
    have ho6 := owned_kept ho5 hb6
    have s4 := hb4.size
    have s5 := hb5.size
    have s6 := hb6.size
    have hbw6 : Below w.heap.size w w6 := ((hbw3.trans (hb4.mono s3)).trans (hb5.mono (by omega))).trans (hb6.mono (by omega))
    have hS6 := hS.moved hbw6
    clear HIM hS hS3 hbw3 hb4 hb5 hb6 ho4 ho5 m0 m1 n0 n1
    go_wp2_with fail
    refine (toSpanS_any a S cap _ hS6 hf hl).mono ?_
    rintro e w7 ⟨rfl, ho7, hb7⟩
    have ho6' := owned_kept ho6 hb7
    go_wp2_with fail
    refine (eqSpanS_same _ _ S _ _ _ (Spans.ofRow rfl ho6') (Spans.ofRow rfl ho7) hf hl).mono ?_
    rintro e w8 ⟨rfl, hb8⟩
    go_wp2
    go_ret
    have s7 := hb7.size
    exact ⟨rfl, (hbw6.trans (hb7.mono (by omega))).trans (hb8.mono (by omega))⟩
  · go_enter Try.func4, Try.ntmps4
    go_wp2_with (go_at_call 9; refine (szSpanS_any a S.length cap _ hm).mono ?_; rintro e w9 ⟨rfl, rfl⟩; rw [if_neg hl])
    go_ret
    exact ⟨rfl, hb0⟩
end Go.Proofs.Ytgjcdejiolenkaa
