import Derived.Test.YtlagaiekoahjnaaPlanSome
import Derived.Deep.RegionHeld3
import Derived.Laws.Small
namespace Go.Proofs.Ytlagaiekoahjnaa
open Go.ChangeShapes Go.WideShapes Go.ChangeAt Go.RowKit
set_option linter.unusedVariables false

theorem specElig_none (a : Option Addr) (V : Vws) (cap B : Nat) (w : World) (hS : LieV w a V) (hf : FitsV V) (hl : V.length ≤ 8) (hB : B < 256) (he : elig V B V.length = []) :
    Calls Try.prog 66 #[.slice a V.length cap, .int .i64 (B : Int)] w fun e w' => ∃ av cp, e = .returned (.slice av 0 cp) ∧ Below w.heap.size w w' := by
  refine Calls.mono (specEligible a V cap B w hS hf hl hB) ?_
  rintro e w' ⟨av, cp, rfl, _, hb⟩
  rw [he]
  exact ⟨av, cp, rfl, hb⟩
theorem specElig_some (a : Option Addr) (V : Vws) (cap B : Nat) (w : World) (hS : LieV w a V) (hf : FitsV V) (hl : V.length ≤ 8) (hB : B < 256) (he : elig V B V.length ≠ []) :
    Calls Try.prog 66 #[.slice a V.length cap, .int .i64 (B : Int)] w fun e w' => ∃ av cp n, e = .returned (.slice av n cp) ∧ (0 : Int) < (n : Int) ∧ Below w.heap.size w w' := by
  refine Calls.mono (specEligible a V cap B w hS hf hl hB) ?_
  rintro e w' ⟨av, cp, rfl, _, hb⟩
  exact ⟨av, cp, _, rfl, by have := List.length_pos_iff.2 he; omega, hb⟩
theorem least_eq {m x y : Int} (h : Hid (m = x)) (g : x = y) : Ending.returned (.int .i64 y) = .returned (.int .i64 m) := by rw [h.out, g]
theorem least_is (a b c m : Int) (w : World) (a0 : 0 ≤ a) (a1 : a ≤ 32) (b0 : 0 ≤ b) (c0 : 0 ≤ c) (hm : m = min a (min b c)) :
    Calls Try.prog 75 #[.int .u64 a, .int .u64 b, .int .u64 c] w fun e w' => e = .returned (.int .i64 m) ∧ w' = w := by
  have HM : Hid _ := hm
  clear hm
  by_cases h1 : b < a
  · by_cases h2 : c < b
    · go_enter Try.func75, Try.ntmps75
      go_wp2
      go_ret
      exact ⟨least_eq HM (show min a (min b c) = c by omega), rfl⟩
    · go_enter Try.func75, Try.ntmps75
      go_wp2
      go_ret
      exact ⟨least_eq HM (show min a (min b c) = b by omega), rfl⟩
  · by_cases h2 : c < a
    · go_enter Try.func75, Try.ntmps75
      go_wp2
      go_ret
      exact ⟨least_eq HM (show min a (min b c) = c by omega), rfl⟩
    · go_enter Try.func75, Try.ntmps75
      go_wp2
      go_ret
      exact ⟨least_eq HM (show min a (min b c) = a by omega), rfl⟩

/-- What l6Plan gives. -/
def GivesA (fn : Nat) (pol tur : Int) (pa : Option Addr) (pk : List Int) (pc : Nat) (va : Option Addr) (V : Vws) (vc : Nat) (ma : Option Addr) (S : Mps) (mc : Nat) (mx mp wt ed cl fm pl : Int) (kd pcx of ln : Int) (T : List Int) (tn us : Int) : Prop :=
  ∀ w : World, Ints .i64 w pa pk → LieV w va V → LieM w ma S → Calls Try.prog fn #[.agg #[.int .i64 pol, .int .i64 tur, .slice pa pk.length pc, .slice va V.length vc, .slice ma S.length mc, .int .i64 mx, .int .u64 mp, .int .u64 wt, .int .u64 ed, .int .i64 cl, .int .i64 fm, .int .i64 pl]] w fun e w' => ∃ av cp, e = .returned (.agg #[.int .i64 kd, .int .i64 pcx, .int .u64 of, .int .i64 ln, .slice av T.length cp, .int .i64 tn, .int .i64 us]) ∧
    w'.ownsRow w.heap.size 2 1 (.slice av T.length cp) T.length (T.map (.int .i64)) ∧ Below w.heap.size w w'

set_option maxRecDepth 100000 in
set_option maxHeartbeats 1000000 in
theorem spec_none (pol tur : Int) (pa : Option Addr) (pk : List Int) (pc : Nat) (va : Option Addr) (V : Vws) (vc : Nat) (ma : Option Addr) (S : Mps) (mc : Nat) (mx mp wt ed cl fm pl : Int) (hvc : V.length ≤ vc) (hvm : vc ≤ 9223372036854775807) (hvn : va = none → vc = 0) (hfV : FitsV V) (hl : V.length ≤ 8) (hfS : FitsM S) (hVS : Valid S) (hS256 : S.length ≤ 256) (hno : ∀ j, j < S.length → qual S V j = false) (h : ¬ ((S.length : Int) < mx ∧ elig V 0 V.length ≠ []) ∨ (¬ (mp < wt ∧ mp < ed) ∧ ¬ (cl = 1 ∧ fm = 0 ∧ mp = wt))) : GivesA 59 pol tur pa pk pc va V vc ma S mc mx mp wt ed cl fm pl 0 0 0 0 [] tur 0 := by
  have HNO : Hid _ := hno
  have HH : Hid _ := h
  clear hno h
  intro w hP hV hS
  obtain ⟨W0, hW0⟩ : ∃ W, W = (w.alloc (.cells #[.int .i64 pol, .int .i64 tur, .slice pa pk.length pc, .slice va V.length vc, .slice ma S.length mc, .int .i64 mx, .int .u64 mp, .int .u64 wt, .int .u64 ed, .int .i64 cl, .int .i64 fm, .int .i64 pl] 48)).alloc (.cells #[.int .i64 0, .int .i64 0, .int .u64 0, .int .i64 0, .slice none 0 0, .int .i64 0, .int .i64 0] 51) := ⟨_, rfl⟩
  have hb0 : Below w.heap.size w W0 := by rw [hW0]; exact ((Below.refl _ _).alloc (Nat.le_refl _) _).alloc (by simp) _
  have s0 : W0.heap.size = w.heap.size + 1 + 1 := by rw [hW0]; simp
  have k0_ : W0.cell? ⟨w.heap.size, 0, none⟩ = some (.int .i64 pol) := by rw [hW0]; simp
  have k1_ : W0.cell? ⟨w.heap.size, 1, none⟩ = some (.int .i64 tur) := by rw [hW0]; simp
  have k2_ : W0.cell? ⟨w.heap.size, 2, none⟩ = some (.slice pa pk.length pc) := by rw [hW0]; simp
  have k3_ : W0.cell? ⟨w.heap.size, 3, none⟩ = some (.slice va V.length vc) := by rw [hW0]; simp
  have k4_ : W0.cell? ⟨w.heap.size, 4, none⟩ = some (.slice ma S.length mc) := by rw [hW0]; simp
  have k5_ : W0.cell? ⟨w.heap.size, 5, none⟩ = some (.int .i64 mx) := by rw [hW0]; simp
  have k6_ : W0.cell? ⟨w.heap.size, 6, none⟩ = some (.int .u64 mp) := by rw [hW0]; simp
  have k7_ : W0.cell? ⟨w.heap.size, 7, none⟩ = some (.int .u64 wt) := by rw [hW0]; simp
  have k8_ : W0.cell? ⟨w.heap.size, 8, none⟩ = some (.int .u64 ed) := by rw [hW0]; simp
  have k9_ : W0.cell? ⟨w.heap.size, 9, none⟩ = some (.int .i64 cl) := by rw [hW0]; simp
  have k10_ : W0.cell? ⟨w.heap.size, 10, none⟩ = some (.int .i64 fm) := by rw [hW0]; simp
  have k11_ : W0.cell? ⟨w.heap.size, 11, none⟩ = some (.int .i64 pl) := by rw [hW0]; simp
  have z_0 : W0.cell? ⟨w.heap.size + 1, 0, none⟩ = some (.int .i64 0) := by rw [hW0]; simp
  have zf_0 : W0.frozen? ⟨w.heap.size + 1, 0, none⟩ = false := by rw [hW0]; simp
  have z_1 : W0.cell? ⟨w.heap.size + 1, 1, none⟩ = some (.int .i64 0) := by rw [hW0]; simp
  have zf_1 : W0.frozen? ⟨w.heap.size + 1, 1, none⟩ = false := by rw [hW0]; simp
  have z_2 : W0.cell? ⟨w.heap.size + 1, 2, none⟩ = some (.int .u64 0) := by rw [hW0]; simp
  have zf_2 : W0.frozen? ⟨w.heap.size + 1, 2, none⟩ = false := by rw [hW0]; simp
  have z_3 : W0.cell? ⟨w.heap.size + 1, 3, none⟩ = some (.int .i64 0) := by rw [hW0]; simp
  have zf_3 : W0.frozen? ⟨w.heap.size + 1, 3, none⟩ = false := by rw [hW0]; simp
  have z_4 : W0.cell? ⟨w.heap.size + 1, 4, none⟩ = some (.slice none 0 0) := by rw [hW0]; simp
  have zf_4 : W0.frozen? ⟨w.heap.size + 1, 4, none⟩ = false := by rw [hW0]; simp
  have z_5 : W0.cell? ⟨w.heap.size + 1, 5, none⟩ = some (.int .i64 0) := by rw [hW0]; simp
  have zf_5 : W0.frozen? ⟨w.heap.size + 1, 5, none⟩ = false := by rw [hW0]; simp
  have z_6 : W0.cell? ⟨w.heap.size + 1, 6, none⟩ = some (.int .i64 0) := by rw [hW0]; simp
  have zf_6 : W0.frozen? ⟨w.heap.size + 1, 6, none⟩ = false := by rw [hW0]; simp
  obtain ⟨W, hW⟩ : ∃ W, W = W0.alloc (.cells #[.int .i64 0, .int .i64 0, .int .u64 0, .int .i64 0, .slice none 0 0, .int .i64 0, .int .i64 0] 51) := ⟨_, rfl⟩
  have hb1 : Below W0.heap.size W0 W := by rw [hW]; exact (Below.refl _ _).alloc (Nat.le_refl _) _
  have hbW : Below w.heap.size w W := hb0.trans (hb1.mono hb0.size)
  have k0 := (hb1.cell (World.block_lt_of_cell? _ _ k0_)).trans k0_
  have k1 := (hb1.cell (World.block_lt_of_cell? _ _ k1_)).trans k1_
  have k2 := (hb1.cell (World.block_lt_of_cell? _ _ k2_)).trans k2_
  have k3 := (hb1.cell (World.block_lt_of_cell? _ _ k3_)).trans k3_
  have k4 := (hb1.cell (World.block_lt_of_cell? _ _ k4_)).trans k4_
  have k5 := (hb1.cell (World.block_lt_of_cell? _ _ k5_)).trans k5_
  have k6 := (hb1.cell (World.block_lt_of_cell? _ _ k6_)).trans k6_
  have k7 := (hb1.cell (World.block_lt_of_cell? _ _ k7_)).trans k7_
  have k8 := (hb1.cell (World.block_lt_of_cell? _ _ k8_)).trans k8_
  have k9 := (hb1.cell (World.block_lt_of_cell? _ _ k9_)).trans k9_
  have k10 := (hb1.cell (World.block_lt_of_cell? _ _ k10_)).trans k10_
  have k11 := (hb1.cell (World.block_lt_of_cell? _ _ k11_)).trans k11_
  have z0 := (hb1.cell (World.block_lt_of_cell? _ _ z_0)).trans z_0
  have zf0 := (hb1.frozen (p := ⟨w.heap.size + 1, 0, none⟩) (World.block_lt_of_cell? _ _ z_0)).trans zf_0
  have z1 := (hb1.cell (World.block_lt_of_cell? _ _ z_1)).trans z_1
  have zf1 := (hb1.frozen (p := ⟨w.heap.size + 1, 1, none⟩) (World.block_lt_of_cell? _ _ z_1)).trans zf_1
  have z2 := (hb1.cell (World.block_lt_of_cell? _ _ z_2)).trans z_2
  have zf2 := (hb1.frozen (p := ⟨w.heap.size + 1, 2, none⟩) (World.block_lt_of_cell? _ _ z_2)).trans zf_2
  have z3 := (hb1.cell (World.block_lt_of_cell? _ _ z_3)).trans z_3
  have zf3 := (hb1.frozen (p := ⟨w.heap.size + 1, 3, none⟩) (World.block_lt_of_cell? _ _ z_3)).trans zf_3
  have z4 := (hb1.cell (World.block_lt_of_cell? _ _ z_4)).trans z_4
  have zf4 := (hb1.frozen (p := ⟨w.heap.size + 1, 4, none⟩) (World.block_lt_of_cell? _ _ z_4)).trans zf_4
  have z5 := (hb1.cell (World.block_lt_of_cell? _ _ z_5)).trans z_5
  have zf5 := (hb1.frozen (p := ⟨w.heap.size + 1, 5, none⟩) (World.block_lt_of_cell? _ _ z_5)).trans zf_5
  have z6 := (hb1.cell (World.block_lt_of_cell? _ _ z_6)).trans z_6
  have zf6 := (hb1.frozen (p := ⟨w.heap.size + 1, 6, none⟩) (World.block_lt_of_cell? _ _ z_6)).trans zf_6
  have y0 : W.cell? ⟨w.heap.size + 1 + 1, 0, none⟩ = some (.int .i64 0) := by rw [hW, ← s0]; simp
  have yf0 : W.frozen? ⟨w.heap.size + 1 + 1, 0, none⟩ = false := by rw [hW, ← s0]; simp
  have y1 : W.cell? ⟨w.heap.size + 1 + 1, 1, none⟩ = some (.int .i64 0) := by rw [hW, ← s0]; simp
  have yf1 : W.frozen? ⟨w.heap.size + 1 + 1, 1, none⟩ = false := by rw [hW, ← s0]; simp
  have y2 : W.cell? ⟨w.heap.size + 1 + 1, 2, none⟩ = some (.int .u64 0) := by rw [hW, ← s0]; simp
  have yf2 : W.frozen? ⟨w.heap.size + 1 + 1, 2, none⟩ = false := by rw [hW, ← s0]; simp
  have y3 : W.cell? ⟨w.heap.size + 1 + 1, 3, none⟩ = some (.int .i64 0) := by rw [hW, ← s0]; simp
  have yf3 : W.frozen? ⟨w.heap.size + 1 + 1, 3, none⟩ = false := by rw [hW, ← s0]; simp
  have y4 : W.cell? ⟨w.heap.size + 1 + 1, 4, none⟩ = some (.slice none 0 0) := by rw [hW, ← s0]; simp
  have yf4 : W.frozen? ⟨w.heap.size + 1 + 1, 4, none⟩ = false := by rw [hW, ← s0]; simp
  have y5 : W.cell? ⟨w.heap.size + 1 + 1, 5, none⟩ = some (.int .i64 0) := by rw [hW, ← s0]; simp
  have yf5 : W.frozen? ⟨w.heap.size + 1 + 1, 5, none⟩ = false := by rw [hW, ← s0]; simp
  have y6 : W.cell? ⟨w.heap.size + 1 + 1, 6, none⟩ = some (.int .i64 0) := by rw [hW, ← s0]; simp
  have yf6 : W.frozen? ⟨w.heap.size + 1 + 1, 6, none⟩ = false := by rw [hW, ← s0]; simp
  clear k0_ k1_ k2_ k3_ k4_ k5_ k6_ k7_ k8_ k9_ k10_ k11_ z_0 zf_0 z_1 zf_1 z_2 zf_2 z_3 zf_3 z_4 zf_4 z_5 zf_5 z_6 zf_6
  have hVW := hV.moved hbW
  have hSW := hS.moved hbW
  have hPW := hP.moved hbW
  have sW : w.heap.size + 3 ≤ W.heap.size := by rw [hW]; simp [s0]
  have HVS : Hid (Valid S) := hVS
  rw [hW0] at hW
  clear hS hVS s0 hb1 hb0 hW0
  go_enter Try.func59, Try.ntmps59
  go_wp2
  rw [← hW]
  clear hW
  go_loopw [4, 5] (fun b i wr => ∃ q : Nat, q ≤ S.length ∧ i = .int .i64 q ∧ b = .int .i64 0 ∧ Hid (∀ j, j < q → qual S V j = false) ∧ Below W.heap.size W wr) (fun _ i _ => S.length - (intOf i).toNat)
  case atStart => exact ⟨0, Nat.zero_le _, rfl, rfl, (fun j h => by omega : ∀ j, j < 0 → qual S V j = false), Below.refl _ _⟩
  case round =>
    obtain ⟨q, hq, rfl, rfl, HQ, hb⟩ := hrel
    have hbw : Below w.heap.size w wr := hbW.trans (hb.mono hbW.size)
    have sz := hb.size
    have k0' := (hb.cell (World.block_lt_of_cell? _ _ k0)).trans k0
    have k1' := (hb.cell (World.block_lt_of_cell? _ _ k1)).trans k1
    have k2' := (hb.cell (World.block_lt_of_cell? _ _ k2)).trans k2
    have k3' := (hb.cell (World.block_lt_of_cell? _ _ k3)).trans k3
    have k4' := (hb.cell (World.block_lt_of_cell? _ _ k4)).trans k4
    have k5' := (hb.cell (World.block_lt_of_cell? _ _ k5)).trans k5
    have k6' := (hb.cell (World.block_lt_of_cell? _ _ k6)).trans k6
    have k7' := (hb.cell (World.block_lt_of_cell? _ _ k7)).trans k7
    have k8' := (hb.cell (World.block_lt_of_cell? _ _ k8)).trans k8
    have k9' := (hb.cell (World.block_lt_of_cell? _ _ k9)).trans k9
    have k10' := (hb.cell (World.block_lt_of_cell? _ _ k10)).trans k10
    have k11' := (hb.cell (World.block_lt_of_cell? _ _ k11)).trans k11
    have z0' := (hb.cell (World.block_lt_of_cell? _ _ z0)).trans z0
    have zf0' := (hb.frozen (p := ⟨w.heap.size + 1, 0, none⟩) (World.block_lt_of_cell? _ _ z0)).trans zf0
    have z1' := (hb.cell (World.block_lt_of_cell? _ _ z1)).trans z1
    have zf1' := (hb.frozen (p := ⟨w.heap.size + 1, 1, none⟩) (World.block_lt_of_cell? _ _ z1)).trans zf1
    have z2' := (hb.cell (World.block_lt_of_cell? _ _ z2)).trans z2
    have zf2' := (hb.frozen (p := ⟨w.heap.size + 1, 2, none⟩) (World.block_lt_of_cell? _ _ z2)).trans zf2
    have z3' := (hb.cell (World.block_lt_of_cell? _ _ z3)).trans z3
    have zf3' := (hb.frozen (p := ⟨w.heap.size + 1, 3, none⟩) (World.block_lt_of_cell? _ _ z3)).trans zf3
    have z4' := (hb.cell (World.block_lt_of_cell? _ _ z4)).trans z4
    have zf4' := (hb.frozen (p := ⟨w.heap.size + 1, 4, none⟩) (World.block_lt_of_cell? _ _ z4)).trans zf4
    have z5' := (hb.cell (World.block_lt_of_cell? _ _ z5)).trans z5
    have zf5' := (hb.frozen (p := ⟨w.heap.size + 1, 5, none⟩) (World.block_lt_of_cell? _ _ z5)).trans zf5
    have z6' := (hb.cell (World.block_lt_of_cell? _ _ z6)).trans z6
    have zf6' := (hb.frozen (p := ⟨w.heap.size + 1, 6, none⟩) (World.block_lt_of_cell? _ _ z6)).trans zf6
    have y0' := (hb.cell (World.block_lt_of_cell? _ _ y0)).trans y0
    have yf0' := (hb.frozen (p := ⟨w.heap.size + 1 + 1, 0, none⟩) (World.block_lt_of_cell? _ _ y0)).trans yf0
    have y1' := (hb.cell (World.block_lt_of_cell? _ _ y1)).trans y1
    have yf1' := (hb.frozen (p := ⟨w.heap.size + 1 + 1, 1, none⟩) (World.block_lt_of_cell? _ _ y1)).trans yf1
    have y2' := (hb.cell (World.block_lt_of_cell? _ _ y2)).trans y2
    have yf2' := (hb.frozen (p := ⟨w.heap.size + 1 + 1, 2, none⟩) (World.block_lt_of_cell? _ _ y2)).trans yf2
    have y3' := (hb.cell (World.block_lt_of_cell? _ _ y3)).trans y3
    have yf3' := (hb.frozen (p := ⟨w.heap.size + 1 + 1, 3, none⟩) (World.block_lt_of_cell? _ _ y3)).trans yf3
    have y4' := (hb.cell (World.block_lt_of_cell? _ _ y4)).trans y4
    have yf4' := (hb.frozen (p := ⟨w.heap.size + 1 + 1, 4, none⟩) (World.block_lt_of_cell? _ _ y4)).trans yf4
    have y5' := (hb.cell (World.block_lt_of_cell? _ _ y5)).trans y5
    have yf5' := (hb.frozen (p := ⟨w.heap.size + 1 + 1, 5, none⟩) (World.block_lt_of_cell? _ _ y5)).trans yf5
    have y6' := (hb.cell (World.block_lt_of_cell? _ _ y6)).trans y6
    have yf6' := (hb.frozen (p := ⟨w.heap.size + 1 + 1, 6, none⟩) (World.block_lt_of_cell? _ _ y6)).trans yf6
    have hVr := hVW.moved hb
    have hSr := hSW.moved hb
    have hPr := hPW.moved hb
    clear k0 k1 k2 k3 k4 k5 k6 k7 k8 k9 k10 k11 z0 zf0 z1 zf1 z2 zf2 z3 zf3 z4 zf4 z5 zf5 z6 zf6 y0 yf0 y1 yf1 y2 yf2 y3 yf3 y4 yf4 y5 yf5 y6 yf6
    clear hVW hSW hPW
    by_cases hlt : q < S.length
    · rcases hSr with h | ⟨b, off, rfl, hc⟩
      · simp [h] at hlt
      obtain ⟨c0, c1, c2, c3, c4, hn, hok, r0, r1, r2, r3, r4⟩ := LieM.at hfS hc hlt
      obtain ⟨C, rfl, hC⟩ := car_nat HVS.out hlt hn.out
      have hqa := qual_at (V := V) hlt hn.out
      have hqi : (q : Int) < (S.length : Int) := by omega
      have hb' := fun v => hb.alloc sz v
      have bl2 : w.heap.size + 1 + 1 < wr.heap.size := World.block_lt_of_cell? _ _ y0'
      have bl0 : w.heap.size < wr.heap.size := by omega
      have bn0 : ¬ w.heap.size = wr.heap.size := by omega
      have bm0 : ¬ wr.heap.size = w.heap.size := by omega
      have bl1 : w.heap.size + 1 < wr.heap.size := by omega
      have bn1 : ¬ w.heap.size + 1 = wr.heap.size := by omega
      have bm1 : ¬ wr.heap.size = w.heap.size + 1 := by omega
      have bn2 : ¬ w.heap.size + 1 + 1 = wr.heap.size := by omega
      have bm2 : ¬ wr.heap.size = w.heap.size + 1 + 1 := by omega
      have hqq := HNO.out q hlt
      have HQN : Hid (∀ j, j < q + 1 → qual S V j = false) := by
        intro j hj
        by_cases ej : j = q
        · subst ej; exact hqq
        · exact HQ.out j (by omega)
      rw [hqq] at hqa
      clear hqq HQ hc hok hfS HVS hn
      by_cases h4 : c4 = 1
      · subst h4
        have HNE : Hid (elig V C V.length = []) := by unfold Hid; simpa using hqa.symm
        clear hqa
        go_wp2_with (go_at_call 66; refine (specElig_none va V vc C _ (hVr.moved ((Below.refl _ _).alloc (Nat.le_refl _) _)) hfV hl hC HNE.out).mono ?_; rintro e w2 ⟨av, cp, rfl, hb2⟩)
        go_roundw
        case rel => exact ⟨q + 1, by omega, by go_num, rfl, HQN, (hb' _).trans (hb2.mono (hb' _).size)⟩
        case measure => simp [intOf]; omega
      · have h4' : (c4 == 1) = false := by simpa using h4
        clear hqa
        go_wp2
        go_roundw
        case rel => exact ⟨q + 1, by omega, by go_num, rfl, HQN, hb' _⟩
        case measure => simp [intOf]; omega
    · obtain rfl : q = S.length := by omega
      have bl2 : w.heap.size + 1 + 1 < wr.heap.size := World.block_lt_of_cell? _ _ y0'
      have bl0 : w.heap.size < wr.heap.size := by omega
      have bn0 : ¬ w.heap.size = wr.heap.size := by omega
      have bm0 : ¬ wr.heap.size = w.heap.size := by omega
      have bl1 : w.heap.size + 1 < wr.heap.size := by omega
      have bn1 : ¬ w.heap.size + 1 = wr.heap.size := by omega
      have bm1 : ¬ wr.heap.size = w.heap.size + 1 := by omega
      have bn2 : ¬ w.heap.size + 1 + 1 = wr.heap.size := by omega
      have bm2 : ¬ wr.heap.size = w.heap.size + 1 + 1 := by omega
      clear hSr hfS HVS hbW hb HQ
      clear HNO
      by_cases hx : (S.length : Int) < mx
      · by_cases he : elig V 0 V.length = []
        · clear HH
          go_wp2_with fail
          refine Calls.mono (specElig_none va V vc 0 wr hVr hfV hl (by omega) he) ?_
          rintro e w2 ⟨av, cp, rfl, hb2⟩
          have hbw2 := hbw.trans (hb2.mono hbw.size)
          have k02 := (hb2.cell (World.block_lt_of_cell? _ _ k0')).trans k0'
          have k12 := (hb2.cell (World.block_lt_of_cell? _ _ k1')).trans k1'
          have k22 := (hb2.cell (World.block_lt_of_cell? _ _ k2')).trans k2'
          have k32 := (hb2.cell (World.block_lt_of_cell? _ _ k3')).trans k3'
          have k42 := (hb2.cell (World.block_lt_of_cell? _ _ k4')).trans k4'
          have k52 := (hb2.cell (World.block_lt_of_cell? _ _ k5')).trans k5'
          have k62 := (hb2.cell (World.block_lt_of_cell? _ _ k6')).trans k6'
          have k72 := (hb2.cell (World.block_lt_of_cell? _ _ k7')).trans k7'
          have k82 := (hb2.cell (World.block_lt_of_cell? _ _ k8')).trans k8'
          have k92 := (hb2.cell (World.block_lt_of_cell? _ _ k9')).trans k9'
          have k102 := (hb2.cell (World.block_lt_of_cell? _ _ k10')).trans k10'
          have k112 := (hb2.cell (World.block_lt_of_cell? _ _ k11')).trans k11'
          have z02 := (hb2.cell (World.block_lt_of_cell? _ _ z0')).trans z0'
          have zf02 := (hb2.frozen (p := ⟨w.heap.size + 1, 0, none⟩) (World.block_lt_of_cell? _ _ z0')).trans zf0'
          have z12 := (hb2.cell (World.block_lt_of_cell? _ _ z1')).trans z1'
          have zf12 := (hb2.frozen (p := ⟨w.heap.size + 1, 1, none⟩) (World.block_lt_of_cell? _ _ z1')).trans zf1'
          have z22 := (hb2.cell (World.block_lt_of_cell? _ _ z2')).trans z2'
          have zf22 := (hb2.frozen (p := ⟨w.heap.size + 1, 2, none⟩) (World.block_lt_of_cell? _ _ z2')).trans zf2'
          have z32 := (hb2.cell (World.block_lt_of_cell? _ _ z3')).trans z3'
          have zf32 := (hb2.frozen (p := ⟨w.heap.size + 1, 3, none⟩) (World.block_lt_of_cell? _ _ z3')).trans zf3'
          have z42 := (hb2.cell (World.block_lt_of_cell? _ _ z4')).trans z4'
          have zf42 := (hb2.frozen (p := ⟨w.heap.size + 1, 4, none⟩) (World.block_lt_of_cell? _ _ z4')).trans zf4'
          have z52 := (hb2.cell (World.block_lt_of_cell? _ _ z5')).trans z5'
          have zf52 := (hb2.frozen (p := ⟨w.heap.size + 1, 5, none⟩) (World.block_lt_of_cell? _ _ z5')).trans zf5'
          have z62 := (hb2.cell (World.block_lt_of_cell? _ _ z6')).trans z6'
          have zf62 := (hb2.frozen (p := ⟨w.heap.size + 1, 6, none⟩) (World.block_lt_of_cell? _ _ z6')).trans zf6'
          have y02 := (hb2.cell (World.block_lt_of_cell? _ _ y0')).trans y0'
          have yf02 := (hb2.frozen (p := ⟨w.heap.size + 1 + 1, 0, none⟩) (World.block_lt_of_cell? _ _ y0')).trans yf0'
          have y12 := (hb2.cell (World.block_lt_of_cell? _ _ y1')).trans y1'
          have yf12 := (hb2.frozen (p := ⟨w.heap.size + 1 + 1, 1, none⟩) (World.block_lt_of_cell? _ _ y1')).trans yf1'
          have y22 := (hb2.cell (World.block_lt_of_cell? _ _ y2')).trans y2'
          have yf22 := (hb2.frozen (p := ⟨w.heap.size + 1 + 1, 2, none⟩) (World.block_lt_of_cell? _ _ y2')).trans yf2'
          have y32 := (hb2.cell (World.block_lt_of_cell? _ _ y3')).trans y3'
          have yf32 := (hb2.frozen (p := ⟨w.heap.size + 1 + 1, 3, none⟩) (World.block_lt_of_cell? _ _ y3')).trans yf3'
          have y42 := (hb2.cell (World.block_lt_of_cell? _ _ y4')).trans y4'
          have yf42 := (hb2.frozen (p := ⟨w.heap.size + 1 + 1, 4, none⟩) (World.block_lt_of_cell? _ _ y4')).trans yf4'
          have y52 := (hb2.cell (World.block_lt_of_cell? _ _ y5')).trans y5'
          have yf52 := (hb2.frozen (p := ⟨w.heap.size + 1 + 1, 5, none⟩) (World.block_lt_of_cell? _ _ y5')).trans yf5'
          have y62 := (hb2.cell (World.block_lt_of_cell? _ _ y6')).trans y6'
          have yf62 := (hb2.frozen (p := ⟨w.heap.size + 1 + 1, 6, none⟩) (World.block_lt_of_cell? _ _ y6')).trans yf6'
          clear k0' k1' k2' k3' k4' k5' k6' k7' k8' k9' k10' k11' z0' zf0' z1' zf1' z2' zf2' z3' zf3' z4' zf4' z5' zf5' z6' zf6' y0' yf0' y1' yf1' y2' yf2' y3' yf3' y4' yf4' y5' yf5' y6' yf6'
          clear hbw hb2 he bl0 bl1 bl2 bn0 bn1 bn2 bm0 bm1 bm2
          go_wp2
          exact bodyPost_ret (v := .agg #[.int .i64 0, .int .i64 0, .int .u64 0, .int .i64 0, .slice none 0 0, .int .i64 tur, .int .i64 0]) (by simp [results, Try.results59, go_sem, z02, z12, z22, z32, z42, z52, z62]) rfl ⟨none, 0, rfl, World.ownsRow_nil _ _ _ _, below_set7 (hbw2.setCell (p := ⟨w.heap.size + 1 + 1, 5, none⟩) (by simp; omega) (.int .i64 tur)) (w.heap.size + 1) (by omega) _ _ _ _ _ _ _⟩
        · have h2 : ¬ (mp < wt ∧ mp < ed) ∧ ¬ (cl = 1 ∧ fm = 0 ∧ mp = wt) := by
            rcases HH.out with h | h
            · exact absurd ⟨hx, he⟩ h
            · exact h
          have h3 : ¬ mp < wt ∨ (mp < wt ∧ ¬ mp < ed) := by omega
          have h4 : ¬ cl = 1 ∨ (cl = 1 ∧ ¬ fm = 0) ∨ (cl = 1 ∧ fm = 0 ∧ ¬ mp = wt) := by omega
          clear HH h2
          go_wp2_with fail
          refine Calls.mono (specElig_some va V vc 0 wr hVr hfV hl (by omega) he) ?_
          rintro e w2 ⟨av, cp, n, rfl, hn0, hb2⟩
          have hbw2 := hbw.trans (hb2.mono hbw.size)
          have k02 := (hb2.cell (World.block_lt_of_cell? _ _ k0')).trans k0'
          have k12 := (hb2.cell (World.block_lt_of_cell? _ _ k1')).trans k1'
          have k22 := (hb2.cell (World.block_lt_of_cell? _ _ k2')).trans k2'
          have k32 := (hb2.cell (World.block_lt_of_cell? _ _ k3')).trans k3'
          have k42 := (hb2.cell (World.block_lt_of_cell? _ _ k4')).trans k4'
          have k52 := (hb2.cell (World.block_lt_of_cell? _ _ k5')).trans k5'
          have k62 := (hb2.cell (World.block_lt_of_cell? _ _ k6')).trans k6'
          have k72 := (hb2.cell (World.block_lt_of_cell? _ _ k7')).trans k7'
          have k82 := (hb2.cell (World.block_lt_of_cell? _ _ k8')).trans k8'
          have k92 := (hb2.cell (World.block_lt_of_cell? _ _ k9')).trans k9'
          have k102 := (hb2.cell (World.block_lt_of_cell? _ _ k10')).trans k10'
          have k112 := (hb2.cell (World.block_lt_of_cell? _ _ k11')).trans k11'
          have z02 := (hb2.cell (World.block_lt_of_cell? _ _ z0')).trans z0'
          have zf02 := (hb2.frozen (p := ⟨w.heap.size + 1, 0, none⟩) (World.block_lt_of_cell? _ _ z0')).trans zf0'
          have z12 := (hb2.cell (World.block_lt_of_cell? _ _ z1')).trans z1'
          have zf12 := (hb2.frozen (p := ⟨w.heap.size + 1, 1, none⟩) (World.block_lt_of_cell? _ _ z1')).trans zf1'
          have z22 := (hb2.cell (World.block_lt_of_cell? _ _ z2')).trans z2'
          have zf22 := (hb2.frozen (p := ⟨w.heap.size + 1, 2, none⟩) (World.block_lt_of_cell? _ _ z2')).trans zf2'
          have z32 := (hb2.cell (World.block_lt_of_cell? _ _ z3')).trans z3'
          have zf32 := (hb2.frozen (p := ⟨w.heap.size + 1, 3, none⟩) (World.block_lt_of_cell? _ _ z3')).trans zf3'
          have z42 := (hb2.cell (World.block_lt_of_cell? _ _ z4')).trans z4'
          have zf42 := (hb2.frozen (p := ⟨w.heap.size + 1, 4, none⟩) (World.block_lt_of_cell? _ _ z4')).trans zf4'
          have z52 := (hb2.cell (World.block_lt_of_cell? _ _ z5')).trans z5'
          have zf52 := (hb2.frozen (p := ⟨w.heap.size + 1, 5, none⟩) (World.block_lt_of_cell? _ _ z5')).trans zf5'
          have z62 := (hb2.cell (World.block_lt_of_cell? _ _ z6')).trans z6'
          have zf62 := (hb2.frozen (p := ⟨w.heap.size + 1, 6, none⟩) (World.block_lt_of_cell? _ _ z6')).trans zf6'
          have y02 := (hb2.cell (World.block_lt_of_cell? _ _ y0')).trans y0'
          have yf02 := (hb2.frozen (p := ⟨w.heap.size + 1 + 1, 0, none⟩) (World.block_lt_of_cell? _ _ y0')).trans yf0'
          have y12 := (hb2.cell (World.block_lt_of_cell? _ _ y1')).trans y1'
          have yf12 := (hb2.frozen (p := ⟨w.heap.size + 1 + 1, 1, none⟩) (World.block_lt_of_cell? _ _ y1')).trans yf1'
          have y22 := (hb2.cell (World.block_lt_of_cell? _ _ y2')).trans y2'
          have yf22 := (hb2.frozen (p := ⟨w.heap.size + 1 + 1, 2, none⟩) (World.block_lt_of_cell? _ _ y2')).trans yf2'
          have y32 := (hb2.cell (World.block_lt_of_cell? _ _ y3')).trans y3'
          have yf32 := (hb2.frozen (p := ⟨w.heap.size + 1 + 1, 3, none⟩) (World.block_lt_of_cell? _ _ y3')).trans yf3'
          have y42 := (hb2.cell (World.block_lt_of_cell? _ _ y4')).trans y4'
          have yf42 := (hb2.frozen (p := ⟨w.heap.size + 1 + 1, 4, none⟩) (World.block_lt_of_cell? _ _ y4')).trans yf4'
          have y52 := (hb2.cell (World.block_lt_of_cell? _ _ y5')).trans y5'
          have yf52 := (hb2.frozen (p := ⟨w.heap.size + 1 + 1, 5, none⟩) (World.block_lt_of_cell? _ _ y5')).trans yf5'
          have y62 := (hb2.cell (World.block_lt_of_cell? _ _ y6')).trans y6'
          have yf62 := (hb2.frozen (p := ⟨w.heap.size + 1 + 1, 6, none⟩) (World.block_lt_of_cell? _ _ y6')).trans yf6'
          clear k0' k1' k2' k3' k4' k5' k6' k7' k8' k9' k10' k11' z0' zf0' z1' zf1' z2' zf2' z3' zf3' z4' zf4' z5' zf5' z6' zf6' y0' yf0' y1' yf1' y2' yf2' y3' yf3' y4' yf4' y5' yf5' y6' yf6'
          clear hbw hb2 he bl0 bl1 bl2 bn0 bn1 bn2 bm0 bm1 bm2
          rcases h3 with g | ⟨g, g2⟩
          all_goals
            rcases h4 with h5 | ⟨rfl, h5⟩ | ⟨rfl, rfl, h5⟩
            · have h5' : (cl == 1) = false := by simpa using h5
              go_wp2
              exact bodyPost_ret (v := .agg #[.int .i64 0, .int .i64 0, .int .u64 0, .int .i64 0, .slice none 0 0, .int .i64 tur, .int .i64 0]) (by simp [results, Try.results59, go_sem, z02, z12, z22, z32, z42, z52, z62]) rfl ⟨none, 0, rfl, World.ownsRow_nil _ _ _ _, below_set7 (hbw2.setCell (p := ⟨w.heap.size + 1 + 1, 5, none⟩) (by simp; omega) (.int .i64 tur)) (w.heap.size + 1) (by omega) _ _ _ _ _ _ _⟩
            · have h5' : (fm == 0) = false := by simpa using h5
              go_wp2
              exact bodyPost_ret (v := .agg #[.int .i64 0, .int .i64 0, .int .u64 0, .int .i64 0, .slice none 0 0, .int .i64 tur, .int .i64 0]) (by simp [results, Try.results59, go_sem, z02, z12, z22, z32, z42, z52, z62]) rfl ⟨none, 0, rfl, World.ownsRow_nil _ _ _ _, below_set7 (hbw2.setCell (p := ⟨w.heap.size + 1 + 1, 5, none⟩) (by simp; omega) (.int .i64 tur)) (w.heap.size + 1) (by omega) _ _ _ _ _ _ _⟩
            · have h5' : (mp == wt) = false := by simpa using h5
              go_wp2
              exact bodyPost_ret (v := .agg #[.int .i64 0, .int .i64 0, .int .u64 0, .int .i64 0, .slice none 0 0, .int .i64 tur, .int .i64 0]) (by simp [results, Try.results59, go_sem, z02, z12, z22, z32, z42, z52, z62]) rfl ⟨none, 0, rfl, World.ownsRow_nil _ _ _ _, below_set7 (hbw2.setCell (p := ⟨w.heap.size + 1 + 1, 5, none⟩) (by simp; omega) (.int .i64 tur)) (w.heap.size + 1) (by omega) _ _ _ _ _ _ _⟩
      · have hx' : mx ≤ (S.length : Int) := by omega
        clear HH
        go_wp2
        exact bodyPost_ret (v := .agg #[.int .i64 0, .int .i64 0, .int .u64 0, .int .i64 0, .slice none 0 0, .int .i64 tur, .int .i64 0]) (by simp [results, Try.results59, go_sem, z0', z1', z2', z3', z4', z5', z6']) rfl ⟨none, 0, rfl, World.ownsRow_nil _ _ _ _, below_set7 (hbw.setCell (p := ⟨w.heap.size + 1 + 1, 5, none⟩) (by simp; omega) (.int .i64 tur)) (w.heap.size + 1) (by omega) _ _ _ _ _ _ _⟩
end Go.Proofs.Ytlagaiekoahjnaa
