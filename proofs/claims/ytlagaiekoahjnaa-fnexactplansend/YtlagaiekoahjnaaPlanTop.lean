import Derived.Test.YtlagaiekoahjnaaPlanNext
import Derived.Test.YtlagaiekoahjnaaPlanChoice
namespace Go.Proofs.Ytlagaiekoahjnaa
open Go.ChangeShapes Go.WideShapes Go.ChangeAt Go.RowKit
set_option linter.unusedVariables false

theorem below_then {v w : World} (h : Below v.heap.size v w) (o : Obj) : Below v.heap.size v (w.alloc o) := h.alloc h.size o

/-- What PlanSend gives. -/
def GivesS (fn : Nat) (pol tur : Int) (pa : Option Addr) (pk : List Int) (pc : Nat) (va : Option Addr) (V : Vws) (vc : Nat) (ma : Option Addr) (S : Mps) (mc : Nat) (mx mp wt ed cl fm pl : Int) (kd pcx of ln : Int) (T : List Int) (tn us c : Int) : Prop :=
  ∀ w : World, Ints .i64 w pa pk → LieV w va V → LieM w ma S → Calls Try.prog fn #[.agg #[.int .i64 pol, .int .i64 tur, .slice pa pk.length pc, .slice va V.length vc, .slice ma S.length mc, .int .i64 mx, .int .u64 mp, .int .u64 wt, .int .u64 ed, .int .i64 cl, .int .i64 fm, .int .i64 pl]] w fun e w' => ∃ av cp, e = .returned (.tuple #[.agg #[.int .i64 kd, .int .i64 pcx, .int .u64 of, .int .i64 ln, .slice av T.length cp, .int .i64 tn, .int .i64 us], .int .i64 c]) ∧
    w'.ownsRow w.heap.size 2 1 (.slice av T.length cp) T.length (T.map (.int .i64)) ∧ Below w.heap.size w w'

theorem implPick_any (p t k : Int) (V : Vws) (B : Int) (T : List Int) (tn c : Int) (hp : 1 ≤ p ∧ p ≤ 4) (h : ∀ nm F tr a cap, PickAt nm F tr t k V a cap B T tn c) : GivesP 20 p t k V B T tn c := by
  rcases (show p = 1 ∨ p = 2 ∨ p = 3 ∨ p = 4 by omega) with rfl | rfl | rfl | rfl
  · exact implPick_1 t k V B T tn c fun a cap => h _ _ _ a cap
  · exact implPick_2 t k V B T tn c fun a cap => h _ _ _ a cap
  · exact implPick_3 t k V B T tn c fun a cap => h _ _ _ a cap
  · exact implPick_4 t k V B T tn c fun a cap => h _ _ _ a cap

set_option maxRecDepth 100000 in
set_option maxHeartbeats 2000000 in
/-- What stands behind the first choice of paths. -/
theorem top_first (pol tur : Int) (pa : Option Addr) (pk : List Int) (pc : Nat) (va : Option Addr) (V : Vws) (vc : Nat) (ma : Option Addr) (S : Mps) (mc : Nat) (mx mp wt ed cl fm pl : Int) (hvc : V.length ≤ vc) (hvm : vc ≤ 9223372036854775807) (hvn : va = none → vc = 0) (hpm : pk.length ≤ 9223372036854775807) (T0 : List Int) (tn0 c0 : Int) (hG : GivesP 20 pol tur (pk.getD 0 0) V 0 T0 tn0 c0) (hc0 : ¬ c0 = 0) : GivesS 28 pol tur pa pk pc va V vc ma S mc mx mp wt ed cl fm pl 0 0 0 0 [] 0 0 c0 := by
  intro w hP hV hS
  have HG : Hid _ := hG
  clear hG
  obtain ⟨W, hW⟩ : ∃ W, W = (w.alloc (.cells #[.int .i64 pol, .int .i64 tur, .slice pa pk.length pc, .slice va V.length vc, .slice ma S.length mc, .int .i64 mx, .int .u64 mp, .int .u64 wt, .int .u64 ed, .int .i64 cl, .int .i64 fm, .int .i64 pl] 48)).alloc (.cells #[.int .i64 0, .int .i64 0, .int .u64 0, .int .i64 0, .slice none 0 0, .int .i64 0, .int .i64 0] 51) := ⟨_, rfl⟩
  have hbW : Below w.heap.size w W := by rw [hW]; exact ((Below.refl _ _).alloc (Nat.le_refl _) _).alloc (by simp) _
  have k0 : W.cell? ⟨w.heap.size, 0, none⟩ = some (.int .i64 pol) := by rw [hW]; simp
  have k1 : W.cell? ⟨w.heap.size, 1, none⟩ = some (.int .i64 tur) := by rw [hW]; simp
  have k2 : W.cell? ⟨w.heap.size, 2, none⟩ = some (.slice pa pk.length pc) := by rw [hW]; simp
  have k3 : W.cell? ⟨w.heap.size, 3, none⟩ = some (.slice va V.length vc) := by rw [hW]; simp
  have k4 : W.cell? ⟨w.heap.size, 4, none⟩ = some (.slice ma S.length mc) := by rw [hW]; simp
  have k5 : W.cell? ⟨w.heap.size, 5, none⟩ = some (.int .i64 mx) := by rw [hW]; simp
  have k6 : W.cell? ⟨w.heap.size, 6, none⟩ = some (.int .u64 mp) := by rw [hW]; simp
  have k7 : W.cell? ⟨w.heap.size, 7, none⟩ = some (.int .u64 wt) := by rw [hW]; simp
  have k8 : W.cell? ⟨w.heap.size, 8, none⟩ = some (.int .u64 ed) := by rw [hW]; simp
  have k9 : W.cell? ⟨w.heap.size, 9, none⟩ = some (.int .i64 cl) := by rw [hW]; simp
  have k10 : W.cell? ⟨w.heap.size, 10, none⟩ = some (.int .i64 fm) := by rw [hW]; simp
  have k11 : W.cell? ⟨w.heap.size, 11, none⟩ = some (.int .i64 pl) := by rw [hW]; simp
  have z0 : W.cell? ⟨w.heap.size + 1, 0, none⟩ = some (.int .i64 0) := by rw [hW]; simp
  have zf0 : W.frozen? ⟨w.heap.size + 1, 0, none⟩ = false := by rw [hW]; simp
  have z1 : W.cell? ⟨w.heap.size + 1, 1, none⟩ = some (.int .i64 0) := by rw [hW]; simp
  have zf1 : W.frozen? ⟨w.heap.size + 1, 1, none⟩ = false := by rw [hW]; simp
  have z2 : W.cell? ⟨w.heap.size + 1, 2, none⟩ = some (.int .u64 0) := by rw [hW]; simp
  have zf2 : W.frozen? ⟨w.heap.size + 1, 2, none⟩ = false := by rw [hW]; simp
  have z3 : W.cell? ⟨w.heap.size + 1, 3, none⟩ = some (.int .i64 0) := by rw [hW]; simp
  have zf3 : W.frozen? ⟨w.heap.size + 1, 3, none⟩ = false := by rw [hW]; simp
  have z4 : W.cell? ⟨w.heap.size + 1, 4, none⟩ = some (.slice none 0 0) := by rw [hW]; simp
  have zf4 : W.frozen? ⟨w.heap.size + 1, 4, none⟩ = false := by rw [hW]; simp
  have z5 : W.cell? ⟨w.heap.size + 1, 5, none⟩ = some (.int .i64 0) := by rw [hW]; simp
  have zf5 : W.frozen? ⟨w.heap.size + 1, 5, none⟩ = false := by rw [hW]; simp
  have z6 : W.cell? ⟨w.heap.size + 1, 6, none⟩ = some (.int .i64 0) := by rw [hW]; simp
  have zf6 : W.frozen? ⟨w.heap.size + 1, 6, none⟩ = false := by rw [hW]; simp
  have hPW := hP.moved hbW
  have hVW := hV.moved hbW
  have sW := hbW.size
  have hc0' : (c0 != 0) = true := by simpa using hc0
  clear hP hV hS
  obtain ⟨kk, hkk⟩ : ∃ kk, kk = pk.getD 0 0 := ⟨_, rfl⟩
  rw [← hkk] at HG
  have HKK : Hid _ := hkk
  clear hkk
  by_cases hpe : pk = []
  · have hl0 : ¬ (0 : Int) < (pk.length : Int) := by rw [hpe]; simp
    have hl1 : (pk.length : Int) ≤ 0 := by omega
    obtain rfl : kk = 0 := by rw [HKK.out, hpe]; rfl
    clear HKK hpe
    go_enter Try.func28, Try.ntmps28
    go_wp2_with fail
    rw [← hW]
    refine Calls.mono (HG.out va vc _ hVW hvc hvm hvn) ?_
    rintro e w1 ⟨av, cp, rfl, ho, hb1⟩
    have j0 := (hb1.cell (World.block_lt_of_cell? _ _ k0)).trans k0
    have j1 := (hb1.cell (World.block_lt_of_cell? _ _ k1)).trans k1
    have j2 := (hb1.cell (World.block_lt_of_cell? _ _ k2)).trans k2
    have j3 := (hb1.cell (World.block_lt_of_cell? _ _ k3)).trans k3
    have j4 := (hb1.cell (World.block_lt_of_cell? _ _ k4)).trans k4
    have j5 := (hb1.cell (World.block_lt_of_cell? _ _ k5)).trans k5
    have j6 := (hb1.cell (World.block_lt_of_cell? _ _ k6)).trans k6
    have j7 := (hb1.cell (World.block_lt_of_cell? _ _ k7)).trans k7
    have j8 := (hb1.cell (World.block_lt_of_cell? _ _ k8)).trans k8
    have j9 := (hb1.cell (World.block_lt_of_cell? _ _ k9)).trans k9
    have j10 := (hb1.cell (World.block_lt_of_cell? _ _ k10)).trans k10
    have j11 := (hb1.cell (World.block_lt_of_cell? _ _ k11)).trans k11
    have y0 := (hb1.cell (World.block_lt_of_cell? _ _ z0)).trans z0
    have yf0 := (hb1.frozen (p := ⟨w.heap.size + 1, 0, none⟩) (World.block_lt_of_cell? _ _ z0)).trans zf0
    have y1 := (hb1.cell (World.block_lt_of_cell? _ _ z1)).trans z1
    have yf1 := (hb1.frozen (p := ⟨w.heap.size + 1, 1, none⟩) (World.block_lt_of_cell? _ _ z1)).trans zf1
    have y2 := (hb1.cell (World.block_lt_of_cell? _ _ z2)).trans z2
    have yf2 := (hb1.frozen (p := ⟨w.heap.size + 1, 2, none⟩) (World.block_lt_of_cell? _ _ z2)).trans zf2
    have y3 := (hb1.cell (World.block_lt_of_cell? _ _ z3)).trans z3
    have yf3 := (hb1.frozen (p := ⟨w.heap.size + 1, 3, none⟩) (World.block_lt_of_cell? _ _ z3)).trans zf3
    have y4 := (hb1.cell (World.block_lt_of_cell? _ _ z4)).trans z4
    have yf4 := (hb1.frozen (p := ⟨w.heap.size + 1, 4, none⟩) (World.block_lt_of_cell? _ _ z4)).trans zf4
    have y5 := (hb1.cell (World.block_lt_of_cell? _ _ z5)).trans z5
    have yf5 := (hb1.frozen (p := ⟨w.heap.size + 1, 5, none⟩) (World.block_lt_of_cell? _ _ z5)).trans zf5
    have y6 := (hb1.cell (World.block_lt_of_cell? _ _ z6)).trans z6
    have yf6 := (hb1.frozen (p := ⟨w.heap.size + 1, 6, none⟩) (World.block_lt_of_cell? _ _ z6)).trans zf6
    have hbw1 := hbW.trans (hb1.mono sW)
    have hb7 := below_set7 hbw1 (w.heap.size + 1) (by omega)
    clear hW HG hVW ho hb1
    clear k0 k1 k2 k3 k4 k5 k6 k7 k8 k9 k10 k11 z0 zf0 z1 zf1 z2 zf2 z3 zf3 z4 zf4 z5 zf5 z6 zf6
    go_wp2
    exact bodyPost_ret (v := .tuple #[.agg #[.int .i64 0, .int .i64 0, .int .u64 0, .int .i64 0, .slice none 0 0, .int .i64 0, .int .i64 0], .int .i64 c0]) (by simp [results, Try.results28, go_sem, y0, y1, y2, y3, y4, y5, y6]) rfl ⟨none, 0, rfl, World.ownsRow_nil _ _ _ _, hb7 _ _ _ _ _ _ _⟩
  · have hl0 : 0 < pk.length := List.length_pos_iff.2 hpe
    have hl1 : (0 : Int) < (pk.length : Int) := by omega
    rcases hPW with h | ⟨bp, op, rfl, hcp⟩
    · exact absurd h hpe
    have q0 := hcp 0 hl0
    rw [← HKK.out] at q0
    simp only [Nat.add_zero] at q0
    clear HKK hpe hcp
    go_enter Try.func28, Try.ntmps28
    rw [hW] at q0
    go_wp2_with fail
    rw [← hW] at q0 ⊢
    refine Calls.mono (HG.out va vc _ hVW hvc hvm hvn) ?_
    rintro e w1 ⟨av, cp, rfl, ho, hb1⟩
    have j0 := (hb1.cell (World.block_lt_of_cell? _ _ k0)).trans k0
    have j1 := (hb1.cell (World.block_lt_of_cell? _ _ k1)).trans k1
    have j2 := (hb1.cell (World.block_lt_of_cell? _ _ k2)).trans k2
    have j3 := (hb1.cell (World.block_lt_of_cell? _ _ k3)).trans k3
    have j4 := (hb1.cell (World.block_lt_of_cell? _ _ k4)).trans k4
    have j5 := (hb1.cell (World.block_lt_of_cell? _ _ k5)).trans k5
    have j6 := (hb1.cell (World.block_lt_of_cell? _ _ k6)).trans k6
    have j7 := (hb1.cell (World.block_lt_of_cell? _ _ k7)).trans k7
    have j8 := (hb1.cell (World.block_lt_of_cell? _ _ k8)).trans k8
    have j9 := (hb1.cell (World.block_lt_of_cell? _ _ k9)).trans k9
    have j10 := (hb1.cell (World.block_lt_of_cell? _ _ k10)).trans k10
    have j11 := (hb1.cell (World.block_lt_of_cell? _ _ k11)).trans k11
    have y0 := (hb1.cell (World.block_lt_of_cell? _ _ z0)).trans z0
    have yf0 := (hb1.frozen (p := ⟨w.heap.size + 1, 0, none⟩) (World.block_lt_of_cell? _ _ z0)).trans zf0
    have y1 := (hb1.cell (World.block_lt_of_cell? _ _ z1)).trans z1
    have yf1 := (hb1.frozen (p := ⟨w.heap.size + 1, 1, none⟩) (World.block_lt_of_cell? _ _ z1)).trans zf1
    have y2 := (hb1.cell (World.block_lt_of_cell? _ _ z2)).trans z2
    have yf2 := (hb1.frozen (p := ⟨w.heap.size + 1, 2, none⟩) (World.block_lt_of_cell? _ _ z2)).trans zf2
    have y3 := (hb1.cell (World.block_lt_of_cell? _ _ z3)).trans z3
    have yf3 := (hb1.frozen (p := ⟨w.heap.size + 1, 3, none⟩) (World.block_lt_of_cell? _ _ z3)).trans zf3
    have y4 := (hb1.cell (World.block_lt_of_cell? _ _ z4)).trans z4
    have yf4 := (hb1.frozen (p := ⟨w.heap.size + 1, 4, none⟩) (World.block_lt_of_cell? _ _ z4)).trans zf4
    have y5 := (hb1.cell (World.block_lt_of_cell? _ _ z5)).trans z5
    have yf5 := (hb1.frozen (p := ⟨w.heap.size + 1, 5, none⟩) (World.block_lt_of_cell? _ _ z5)).trans zf5
    have y6 := (hb1.cell (World.block_lt_of_cell? _ _ z6)).trans z6
    have yf6 := (hb1.frozen (p := ⟨w.heap.size + 1, 6, none⟩) (World.block_lt_of_cell? _ _ z6)).trans zf6
    have hbw1 := hbW.trans (hb1.mono sW)
    have hb7 := below_set7 hbw1 (w.heap.size + 1) (by omega)
    clear hW HG hVW ho hb1
    clear k0 k1 k2 k3 k4 k5 k6 k7 k8 k9 k10 k11 z0 zf0 z1 zf1 z2 zf2 z3 zf3 z4 zf4 z5 zf5 z6 zf6
    go_wp2
    exact bodyPost_ret (v := .tuple #[.agg #[.int .i64 0, .int .i64 0, .int .u64 0, .int .i64 0, .slice none 0 0, .int .i64 0, .int .i64 0], .int .i64 c0]) (by simp [results, Try.results28, go_sem, y0, y1, y2, y3, y4, y5, y6]) rfl ⟨none, 0, rfl, World.ownsRow_nil _ _ _ _, hb7 _ _ _ _ _ _ _⟩

set_option maxRecDepth 100000 in
set_option maxHeartbeats 2000000 in
theorem top_range (pol tur : Int) (pa : Option Addr) (pk : List Int) (pc : Nat) (va : Option Addr) (V : Vws) (vc : Nat) (ma : Option Addr) (S : Mps) (mc : Nat) (mx mp wt ed cl fm pl : Int) (hvc : V.length ≤ vc) (hvm : vc ≤ 9223372036854775807) (hvn : va = none → vc = 0) (hpm : pk.length ≤ 9223372036854775807) (T0 : List Int) (tn0 : Int) (hG : GivesP 20 pol tur (pk.getD 0 0) V 0 T0 tn0 0) (ht : 0 ≤ tur ∧ tur < V.length) (hr : ¬ OkR tur V.length pk.length mx mp wt ed cl fm pl) : GivesS 28 pol tur pa pk pc va V vc ma S mc mx mp wt ed cl fm pl 0 0 0 0 [] 0 0 4 := by
  intro w hP hV hS
  have HG : Hid _ := hG
  clear hG
  obtain ⟨W, hW⟩ : ∃ W, W = (w.alloc (.cells #[.int .i64 pol, .int .i64 tur, .slice pa pk.length pc, .slice va V.length vc, .slice ma S.length mc, .int .i64 mx, .int .u64 mp, .int .u64 wt, .int .u64 ed, .int .i64 cl, .int .i64 fm, .int .i64 pl] 48)).alloc (.cells #[.int .i64 0, .int .i64 0, .int .u64 0, .int .i64 0, .slice none 0 0, .int .i64 0, .int .i64 0] 51) := ⟨_, rfl⟩
  have hbW : Below w.heap.size w W := by rw [hW]; exact ((Below.refl _ _).alloc (Nat.le_refl _) _).alloc (by simp) _
  have k0 : W.cell? ⟨w.heap.size, 0, none⟩ = some (.int .i64 pol) := by rw [hW]; simp
  have k1 : W.cell? ⟨w.heap.size, 1, none⟩ = some (.int .i64 tur) := by rw [hW]; simp
  have k2 : W.cell? ⟨w.heap.size, 2, none⟩ = some (.slice pa pk.length pc) := by rw [hW]; simp
  have k3 : W.cell? ⟨w.heap.size, 3, none⟩ = some (.slice va V.length vc) := by rw [hW]; simp
  have k4 : W.cell? ⟨w.heap.size, 4, none⟩ = some (.slice ma S.length mc) := by rw [hW]; simp
  have k5 : W.cell? ⟨w.heap.size, 5, none⟩ = some (.int .i64 mx) := by rw [hW]; simp
  have k6 : W.cell? ⟨w.heap.size, 6, none⟩ = some (.int .u64 mp) := by rw [hW]; simp
  have k7 : W.cell? ⟨w.heap.size, 7, none⟩ = some (.int .u64 wt) := by rw [hW]; simp
  have k8 : W.cell? ⟨w.heap.size, 8, none⟩ = some (.int .u64 ed) := by rw [hW]; simp
  have k9 : W.cell? ⟨w.heap.size, 9, none⟩ = some (.int .i64 cl) := by rw [hW]; simp
  have k10 : W.cell? ⟨w.heap.size, 10, none⟩ = some (.int .i64 fm) := by rw [hW]; simp
  have k11 : W.cell? ⟨w.heap.size, 11, none⟩ = some (.int .i64 pl) := by rw [hW]; simp
  have z0 : W.cell? ⟨w.heap.size + 1, 0, none⟩ = some (.int .i64 0) := by rw [hW]; simp
  have zf0 : W.frozen? ⟨w.heap.size + 1, 0, none⟩ = false := by rw [hW]; simp
  have z1 : W.cell? ⟨w.heap.size + 1, 1, none⟩ = some (.int .i64 0) := by rw [hW]; simp
  have zf1 : W.frozen? ⟨w.heap.size + 1, 1, none⟩ = false := by rw [hW]; simp
  have z2 : W.cell? ⟨w.heap.size + 1, 2, none⟩ = some (.int .u64 0) := by rw [hW]; simp
  have zf2 : W.frozen? ⟨w.heap.size + 1, 2, none⟩ = false := by rw [hW]; simp
  have z3 : W.cell? ⟨w.heap.size + 1, 3, none⟩ = some (.int .i64 0) := by rw [hW]; simp
  have zf3 : W.frozen? ⟨w.heap.size + 1, 3, none⟩ = false := by rw [hW]; simp
  have z4 : W.cell? ⟨w.heap.size + 1, 4, none⟩ = some (.slice none 0 0) := by rw [hW]; simp
  have zf4 : W.frozen? ⟨w.heap.size + 1, 4, none⟩ = false := by rw [hW]; simp
  have z5 : W.cell? ⟨w.heap.size + 1, 5, none⟩ = some (.int .i64 0) := by rw [hW]; simp
  have zf5 : W.frozen? ⟨w.heap.size + 1, 5, none⟩ = false := by rw [hW]; simp
  have z6 : W.cell? ⟨w.heap.size + 1, 6, none⟩ = some (.int .i64 0) := by rw [hW]; simp
  have zf6 : W.frozen? ⟨w.heap.size + 1, 6, none⟩ = false := by rw [hW]; simp
  have hPW := hP.moved hbW
  have hVW := hV.moved hbW
  have sW := hbW.size
  obtain ⟨kk, hkk⟩ : ∃ kk, kk = pk.getD 0 0 := ⟨_, rfl⟩
  rw [← hkk] at HG
  have HKK : Hid _ := hkk
  clear hkk
  by_cases hpe : pk = []
  · have hl0 : ¬ (0 : Int) < (pk.length : Int) := by rw [hpe]; simp
    have hl1 : (pk.length : Int) ≤ 0 := by omega
    obtain rfl : kk = 0 := by rw [HKK.out, hpe]; rfl
    have HPE : Hid (pk = []) := hpe
    clear HKK hpe
    go_enter Try.func28, Try.ntmps28
    go_wp2_with fail
    rw [← hW]
    refine Calls.mono (HG.out va vc _ hVW hvc hvm hvn) ?_
    rintro e w1 ⟨av0, cp0, rfl, ho0, hb1⟩
    have j0 := (hb1.cell (World.block_lt_of_cell? _ _ k0)).trans k0
    have j1 := (hb1.cell (World.block_lt_of_cell? _ _ k1)).trans k1
    have j2 := (hb1.cell (World.block_lt_of_cell? _ _ k2)).trans k2
    have j3 := (hb1.cell (World.block_lt_of_cell? _ _ k3)).trans k3
    have j4 := (hb1.cell (World.block_lt_of_cell? _ _ k4)).trans k4
    have j5 := (hb1.cell (World.block_lt_of_cell? _ _ k5)).trans k5
    have j6 := (hb1.cell (World.block_lt_of_cell? _ _ k6)).trans k6
    have j7 := (hb1.cell (World.block_lt_of_cell? _ _ k7)).trans k7
    have j8 := (hb1.cell (World.block_lt_of_cell? _ _ k8)).trans k8
    have j9 := (hb1.cell (World.block_lt_of_cell? _ _ k9)).trans k9
    have j10 := (hb1.cell (World.block_lt_of_cell? _ _ k10)).trans k10
    have j11 := (hb1.cell (World.block_lt_of_cell? _ _ k11)).trans k11
    have y0 := (hb1.cell (World.block_lt_of_cell? _ _ z0)).trans z0
    have yf0 := (hb1.frozen (p := ⟨w.heap.size + 1, 0, none⟩) (World.block_lt_of_cell? _ _ z0)).trans zf0
    have y1 := (hb1.cell (World.block_lt_of_cell? _ _ z1)).trans z1
    have yf1 := (hb1.frozen (p := ⟨w.heap.size + 1, 1, none⟩) (World.block_lt_of_cell? _ _ z1)).trans zf1
    have y2 := (hb1.cell (World.block_lt_of_cell? _ _ z2)).trans z2
    have yf2 := (hb1.frozen (p := ⟨w.heap.size + 1, 2, none⟩) (World.block_lt_of_cell? _ _ z2)).trans zf2
    have y3 := (hb1.cell (World.block_lt_of_cell? _ _ z3)).trans z3
    have yf3 := (hb1.frozen (p := ⟨w.heap.size + 1, 3, none⟩) (World.block_lt_of_cell? _ _ z3)).trans zf3
    have y4 := (hb1.cell (World.block_lt_of_cell? _ _ z4)).trans z4
    have yf4 := (hb1.frozen (p := ⟨w.heap.size + 1, 4, none⟩) (World.block_lt_of_cell? _ _ z4)).trans zf4
    have y5 := (hb1.cell (World.block_lt_of_cell? _ _ z5)).trans z5
    have yf5 := (hb1.frozen (p := ⟨w.heap.size + 1, 5, none⟩) (World.block_lt_of_cell? _ _ z5)).trans zf5
    have y6 := (hb1.cell (World.block_lt_of_cell? _ _ z6)).trans z6
    have yf6 := (hb1.frozen (p := ⟨w.heap.size + 1, 6, none⟩) (World.block_lt_of_cell? _ _ z6)).trans zf6
    have hbw1 := hbW.trans (hb1.mono sW)
    clear hW HG hVW ho0 hb1
    clear k0 k1 k2 k3 k4 k5 k6 k7 k8 k9 k10 k11 z0 zf0 z1 zf1 z2 zf2 z3 zf3 z4 zf4 z5 zf5 z6 zf6
    go_wp2_with fail
    refine Calls.mono (ranges_no pol tur pa pk pc va V vc ma S mc mx mp wt ed cl fm pl _ hpm ht hr) ?_
    rintro e w2 ⟨rfl, hb2⟩
    have i0 := (hb2.cell (World.block_lt_of_cell? _ _ j0)).trans j0
    have i1 := (hb2.cell (World.block_lt_of_cell? _ _ j1)).trans j1
    have i2 := (hb2.cell (World.block_lt_of_cell? _ _ j2)).trans j2
    have i3 := (hb2.cell (World.block_lt_of_cell? _ _ j3)).trans j3
    have i4 := (hb2.cell (World.block_lt_of_cell? _ _ j4)).trans j4
    have i5 := (hb2.cell (World.block_lt_of_cell? _ _ j5)).trans j5
    have i6 := (hb2.cell (World.block_lt_of_cell? _ _ j6)).trans j6
    have i7 := (hb2.cell (World.block_lt_of_cell? _ _ j7)).trans j7
    have i8 := (hb2.cell (World.block_lt_of_cell? _ _ j8)).trans j8
    have i9 := (hb2.cell (World.block_lt_of_cell? _ _ j9)).trans j9
    have i10 := (hb2.cell (World.block_lt_of_cell? _ _ j10)).trans j10
    have i11 := (hb2.cell (World.block_lt_of_cell? _ _ j11)).trans j11
    have x0 := (hb2.cell (World.block_lt_of_cell? _ _ y0)).trans y0
    have xf0 := (hb2.frozen (p := ⟨w.heap.size + 1, 0, none⟩) (World.block_lt_of_cell? _ _ y0)).trans yf0
    have x1 := (hb2.cell (World.block_lt_of_cell? _ _ y1)).trans y1
    have xf1 := (hb2.frozen (p := ⟨w.heap.size + 1, 1, none⟩) (World.block_lt_of_cell? _ _ y1)).trans yf1
    have x2 := (hb2.cell (World.block_lt_of_cell? _ _ y2)).trans y2
    have xf2 := (hb2.frozen (p := ⟨w.heap.size + 1, 2, none⟩) (World.block_lt_of_cell? _ _ y2)).trans yf2
    have x3 := (hb2.cell (World.block_lt_of_cell? _ _ y3)).trans y3
    have xf3 := (hb2.frozen (p := ⟨w.heap.size + 1, 3, none⟩) (World.block_lt_of_cell? _ _ y3)).trans yf3
    have x4 := (hb2.cell (World.block_lt_of_cell? _ _ y4)).trans y4
    have xf4 := (hb2.frozen (p := ⟨w.heap.size + 1, 4, none⟩) (World.block_lt_of_cell? _ _ y4)).trans yf4
    have x5 := (hb2.cell (World.block_lt_of_cell? _ _ y5)).trans y5
    have xf5 := (hb2.frozen (p := ⟨w.heap.size + 1, 5, none⟩) (World.block_lt_of_cell? _ _ y5)).trans yf5
    have x6 := (hb2.cell (World.block_lt_of_cell? _ _ y6)).trans y6
    have xf6 := (hb2.frozen (p := ⟨w.heap.size + 1, 6, none⟩) (World.block_lt_of_cell? _ _ y6)).trans yf6
    have hbw2 := hbw1.trans (hb2.mono hbw1.size)
    have hb7 := below_set7 hbw2 (w.heap.size + 1) (by omega)
    clear j0 j1 j2 j3 j4 j5 j6 j7 j8 j9 j10 j11 y0 yf0 y1 yf1 y2 yf2 y3 yf3 y4 yf4 y5 yf5 y6 yf6
    clear hb2 hr
    go_wp2
    exact bodyPost_ret (v := .tuple #[.agg #[.int .i64 0, .int .i64 0, .int .u64 0, .int .i64 0, .slice none 0 0, .int .i64 0, .int .i64 0], .int .i64 4]) (by simp [results, Try.results28, go_sem, x0, x1, x2, x3, x4, x5, x6]) rfl ⟨none, 0, rfl, World.ownsRow_nil _ _ _ _, hb7 _ _ _ _ _ _ _⟩
  · have hl0 : 0 < pk.length := List.length_pos_iff.2 hpe
    have hl1 : (0 : Int) < (pk.length : Int) := by omega
    have hPW' := hPW
    rcases hPW' with h | ⟨bp, op, hpa, hcp⟩
    · exact absurd h hpe
    subst hpa
    have q0 := hcp 0 hl0
    rw [← HKK.out] at q0
    simp only [Nat.add_zero] at q0
    have HPE : Hid (¬ pk = []) := hpe
    clear HKK hcp hpe
    go_enter Try.func28, Try.ntmps28
    rw [hW] at q0
    go_wp2_with fail
    rw [← hW] at q0 ⊢
    refine Calls.mono (HG.out va vc _ hVW hvc hvm hvn) ?_
    rintro e w1 ⟨av0, cp0, rfl, ho0, hb1⟩
    have j0 := (hb1.cell (World.block_lt_of_cell? _ _ k0)).trans k0
    have j1 := (hb1.cell (World.block_lt_of_cell? _ _ k1)).trans k1
    have j2 := (hb1.cell (World.block_lt_of_cell? _ _ k2)).trans k2
    have j3 := (hb1.cell (World.block_lt_of_cell? _ _ k3)).trans k3
    have j4 := (hb1.cell (World.block_lt_of_cell? _ _ k4)).trans k4
    have j5 := (hb1.cell (World.block_lt_of_cell? _ _ k5)).trans k5
    have j6 := (hb1.cell (World.block_lt_of_cell? _ _ k6)).trans k6
    have j7 := (hb1.cell (World.block_lt_of_cell? _ _ k7)).trans k7
    have j8 := (hb1.cell (World.block_lt_of_cell? _ _ k8)).trans k8
    have j9 := (hb1.cell (World.block_lt_of_cell? _ _ k9)).trans k9
    have j10 := (hb1.cell (World.block_lt_of_cell? _ _ k10)).trans k10
    have j11 := (hb1.cell (World.block_lt_of_cell? _ _ k11)).trans k11
    have y0 := (hb1.cell (World.block_lt_of_cell? _ _ z0)).trans z0
    have yf0 := (hb1.frozen (p := ⟨w.heap.size + 1, 0, none⟩) (World.block_lt_of_cell? _ _ z0)).trans zf0
    have y1 := (hb1.cell (World.block_lt_of_cell? _ _ z1)).trans z1
    have yf1 := (hb1.frozen (p := ⟨w.heap.size + 1, 1, none⟩) (World.block_lt_of_cell? _ _ z1)).trans zf1
    have y2 := (hb1.cell (World.block_lt_of_cell? _ _ z2)).trans z2
    have yf2 := (hb1.frozen (p := ⟨w.heap.size + 1, 2, none⟩) (World.block_lt_of_cell? _ _ z2)).trans zf2
    have y3 := (hb1.cell (World.block_lt_of_cell? _ _ z3)).trans z3
    have yf3 := (hb1.frozen (p := ⟨w.heap.size + 1, 3, none⟩) (World.block_lt_of_cell? _ _ z3)).trans zf3
    have y4 := (hb1.cell (World.block_lt_of_cell? _ _ z4)).trans z4
    have yf4 := (hb1.frozen (p := ⟨w.heap.size + 1, 4, none⟩) (World.block_lt_of_cell? _ _ z4)).trans zf4
    have y5 := (hb1.cell (World.block_lt_of_cell? _ _ z5)).trans z5
    have yf5 := (hb1.frozen (p := ⟨w.heap.size + 1, 5, none⟩) (World.block_lt_of_cell? _ _ z5)).trans zf5
    have y6 := (hb1.cell (World.block_lt_of_cell? _ _ z6)).trans z6
    have yf6 := (hb1.frozen (p := ⟨w.heap.size + 1, 6, none⟩) (World.block_lt_of_cell? _ _ z6)).trans zf6
    have hbw1 := hbW.trans (hb1.mono sW)
    clear hW HG hVW ho0 hb1
    clear k0 k1 k2 k3 k4 k5 k6 k7 k8 k9 k10 k11 z0 zf0 z1 zf1 z2 zf2 z3 zf3 z4 zf4 z5 zf5 z6 zf6
    go_wp2_with fail
    refine Calls.mono (ranges_no pol tur (some ⟨bp, op, none⟩) pk pc va V vc ma S mc mx mp wt ed cl fm pl _ hpm ht hr) ?_
    rintro e w2 ⟨rfl, hb2⟩
    have i0 := (hb2.cell (World.block_lt_of_cell? _ _ j0)).trans j0
    have i1 := (hb2.cell (World.block_lt_of_cell? _ _ j1)).trans j1
    have i2 := (hb2.cell (World.block_lt_of_cell? _ _ j2)).trans j2
    have i3 := (hb2.cell (World.block_lt_of_cell? _ _ j3)).trans j3
    have i4 := (hb2.cell (World.block_lt_of_cell? _ _ j4)).trans j4
    have i5 := (hb2.cell (World.block_lt_of_cell? _ _ j5)).trans j5
    have i6 := (hb2.cell (World.block_lt_of_cell? _ _ j6)).trans j6
    have i7 := (hb2.cell (World.block_lt_of_cell? _ _ j7)).trans j7
    have i8 := (hb2.cell (World.block_lt_of_cell? _ _ j8)).trans j8
    have i9 := (hb2.cell (World.block_lt_of_cell? _ _ j9)).trans j9
    have i10 := (hb2.cell (World.block_lt_of_cell? _ _ j10)).trans j10
    have i11 := (hb2.cell (World.block_lt_of_cell? _ _ j11)).trans j11
    have x0 := (hb2.cell (World.block_lt_of_cell? _ _ y0)).trans y0
    have xf0 := (hb2.frozen (p := ⟨w.heap.size + 1, 0, none⟩) (World.block_lt_of_cell? _ _ y0)).trans yf0
    have x1 := (hb2.cell (World.block_lt_of_cell? _ _ y1)).trans y1
    have xf1 := (hb2.frozen (p := ⟨w.heap.size + 1, 1, none⟩) (World.block_lt_of_cell? _ _ y1)).trans yf1
    have x2 := (hb2.cell (World.block_lt_of_cell? _ _ y2)).trans y2
    have xf2 := (hb2.frozen (p := ⟨w.heap.size + 1, 2, none⟩) (World.block_lt_of_cell? _ _ y2)).trans yf2
    have x3 := (hb2.cell (World.block_lt_of_cell? _ _ y3)).trans y3
    have xf3 := (hb2.frozen (p := ⟨w.heap.size + 1, 3, none⟩) (World.block_lt_of_cell? _ _ y3)).trans yf3
    have x4 := (hb2.cell (World.block_lt_of_cell? _ _ y4)).trans y4
    have xf4 := (hb2.frozen (p := ⟨w.heap.size + 1, 4, none⟩) (World.block_lt_of_cell? _ _ y4)).trans yf4
    have x5 := (hb2.cell (World.block_lt_of_cell? _ _ y5)).trans y5
    have xf5 := (hb2.frozen (p := ⟨w.heap.size + 1, 5, none⟩) (World.block_lt_of_cell? _ _ y5)).trans yf5
    have x6 := (hb2.cell (World.block_lt_of_cell? _ _ y6)).trans y6
    have xf6 := (hb2.frozen (p := ⟨w.heap.size + 1, 6, none⟩) (World.block_lt_of_cell? _ _ y6)).trans yf6
    have hbw2 := hbw1.trans (hb2.mono hbw1.size)
    have hb7 := below_set7 hbw2 (w.heap.size + 1) (by omega)
    clear j0 j1 j2 j3 j4 j5 j6 j7 j8 j9 j10 j11 y0 yf0 y1 yf1 y2 yf2 y3 yf3 y4 yf4 y5 yf5 y6 yf6
    clear hb2 hr
    go_wp2
    exact bodyPost_ret (v := .tuple #[.agg #[.int .i64 0, .int .i64 0, .int .u64 0, .int .i64 0, .slice none 0 0, .int .i64 0, .int .i64 0], .int .i64 4]) (by simp [results, Try.results28, go_sem, x0, x1, x2, x3, x4, x5, x6]) rfl ⟨none, 0, rfl, World.ownsRow_nil _ _ _ _, hb7 _ _ _ _ _ _ _⟩

set_option maxRecDepth 100000 in
set_option maxHeartbeats 2000000 in
theorem top_maps (pol tur : Int) (pa : Option Addr) (pk : List Int) (pc : Nat) (va : Option Addr) (V : Vws) (vc : Nat) (ma : Option Addr) (S : Mps) (mc : Nat) (mx mp wt ed cl fm pl : Int) (hvc : V.length ≤ vc) (hvm : vc ≤ 9223372036854775807) (hvn : va = none → vc = 0) (hpm : pk.length ≤ 9223372036854775807) (T0 : List Int) (tn0 : Int) (hG : GivesP 20 pol tur (pk.getD 0 0) V 0 T0 tn0 0) (hfS : FitsM S) (hms : S.length ≤ 9223372036854775807) (hr : OkR tur V.length pk.length mx mp wt ed cl fm pl) (hn : ¬ ((S.length ≤ 256 ∧ Valid S) ∧ (S.length : Int) ≤ mx)) : GivesS 28 pol tur pa pk pc va V vc ma S mc mx mp wt ed cl fm pl 0 0 0 0 [] 0 0 1 := by
  intro w hP hV hS
  have HG : Hid _ := hG
  clear hG
  obtain ⟨W, hW⟩ : ∃ W, W = (w.alloc (.cells #[.int .i64 pol, .int .i64 tur, .slice pa pk.length pc, .slice va V.length vc, .slice ma S.length mc, .int .i64 mx, .int .u64 mp, .int .u64 wt, .int .u64 ed, .int .i64 cl, .int .i64 fm, .int .i64 pl] 48)).alloc (.cells #[.int .i64 0, .int .i64 0, .int .u64 0, .int .i64 0, .slice none 0 0, .int .i64 0, .int .i64 0] 51) := ⟨_, rfl⟩
  have hbW : Below w.heap.size w W := by rw [hW]; exact ((Below.refl _ _).alloc (Nat.le_refl _) _).alloc (by simp) _
  have k0 : W.cell? ⟨w.heap.size, 0, none⟩ = some (.int .i64 pol) := by rw [hW]; simp
  have k1 : W.cell? ⟨w.heap.size, 1, none⟩ = some (.int .i64 tur) := by rw [hW]; simp
  have k2 : W.cell? ⟨w.heap.size, 2, none⟩ = some (.slice pa pk.length pc) := by rw [hW]; simp
  have k3 : W.cell? ⟨w.heap.size, 3, none⟩ = some (.slice va V.length vc) := by rw [hW]; simp
  have k4 : W.cell? ⟨w.heap.size, 4, none⟩ = some (.slice ma S.length mc) := by rw [hW]; simp
  have k5 : W.cell? ⟨w.heap.size, 5, none⟩ = some (.int .i64 mx) := by rw [hW]; simp
  have k6 : W.cell? ⟨w.heap.size, 6, none⟩ = some (.int .u64 mp) := by rw [hW]; simp
  have k7 : W.cell? ⟨w.heap.size, 7, none⟩ = some (.int .u64 wt) := by rw [hW]; simp
  have k8 : W.cell? ⟨w.heap.size, 8, none⟩ = some (.int .u64 ed) := by rw [hW]; simp
  have k9 : W.cell? ⟨w.heap.size, 9, none⟩ = some (.int .i64 cl) := by rw [hW]; simp
  have k10 : W.cell? ⟨w.heap.size, 10, none⟩ = some (.int .i64 fm) := by rw [hW]; simp
  have k11 : W.cell? ⟨w.heap.size, 11, none⟩ = some (.int .i64 pl) := by rw [hW]; simp
  have z0 : W.cell? ⟨w.heap.size + 1, 0, none⟩ = some (.int .i64 0) := by rw [hW]; simp
  have zf0 : W.frozen? ⟨w.heap.size + 1, 0, none⟩ = false := by rw [hW]; simp
  have z1 : W.cell? ⟨w.heap.size + 1, 1, none⟩ = some (.int .i64 0) := by rw [hW]; simp
  have zf1 : W.frozen? ⟨w.heap.size + 1, 1, none⟩ = false := by rw [hW]; simp
  have z2 : W.cell? ⟨w.heap.size + 1, 2, none⟩ = some (.int .u64 0) := by rw [hW]; simp
  have zf2 : W.frozen? ⟨w.heap.size + 1, 2, none⟩ = false := by rw [hW]; simp
  have z3 : W.cell? ⟨w.heap.size + 1, 3, none⟩ = some (.int .i64 0) := by rw [hW]; simp
  have zf3 : W.frozen? ⟨w.heap.size + 1, 3, none⟩ = false := by rw [hW]; simp
  have z4 : W.cell? ⟨w.heap.size + 1, 4, none⟩ = some (.slice none 0 0) := by rw [hW]; simp
  have zf4 : W.frozen? ⟨w.heap.size + 1, 4, none⟩ = false := by rw [hW]; simp
  have z5 : W.cell? ⟨w.heap.size + 1, 5, none⟩ = some (.int .i64 0) := by rw [hW]; simp
  have zf5 : W.frozen? ⟨w.heap.size + 1, 5, none⟩ = false := by rw [hW]; simp
  have z6 : W.cell? ⟨w.heap.size + 1, 6, none⟩ = some (.int .i64 0) := by rw [hW]; simp
  have zf6 : W.frozen? ⟨w.heap.size + 1, 6, none⟩ = false := by rw [hW]; simp
  have hPW := hP.moved hbW
  have hVW := hV.moved hbW
  have sW := hbW.size
  obtain ⟨kk, hkk⟩ : ∃ kk, kk = pk.getD 0 0 := ⟨_, rfl⟩
  rw [← hkk] at HG
  have HKK : Hid _ := hkk
  clear hkk
  by_cases hpe : pk = []
  · have hl0 : ¬ (0 : Int) < (pk.length : Int) := by rw [hpe]; simp
    have hl1 : (pk.length : Int) ≤ 0 := by omega
    obtain rfl : kk = 0 := by rw [HKK.out, hpe]; rfl
    have HPE : Hid (pk = []) := hpe
    clear HKK hpe
    go_enter Try.func28, Try.ntmps28
    go_wp2_with fail
    rw [← hW]
    refine Calls.mono (HG.out va vc _ hVW hvc hvm hvn) ?_
    rintro e w1 ⟨av0, cp0, rfl, ho0, hb1⟩
    have j0 := (hb1.cell (World.block_lt_of_cell? _ _ k0)).trans k0
    have j1 := (hb1.cell (World.block_lt_of_cell? _ _ k1)).trans k1
    have j2 := (hb1.cell (World.block_lt_of_cell? _ _ k2)).trans k2
    have j3 := (hb1.cell (World.block_lt_of_cell? _ _ k3)).trans k3
    have j4 := (hb1.cell (World.block_lt_of_cell? _ _ k4)).trans k4
    have j5 := (hb1.cell (World.block_lt_of_cell? _ _ k5)).trans k5
    have j6 := (hb1.cell (World.block_lt_of_cell? _ _ k6)).trans k6
    have j7 := (hb1.cell (World.block_lt_of_cell? _ _ k7)).trans k7
    have j8 := (hb1.cell (World.block_lt_of_cell? _ _ k8)).trans k8
    have j9 := (hb1.cell (World.block_lt_of_cell? _ _ k9)).trans k9
    have j10 := (hb1.cell (World.block_lt_of_cell? _ _ k10)).trans k10
    have j11 := (hb1.cell (World.block_lt_of_cell? _ _ k11)).trans k11
    have y0 := (hb1.cell (World.block_lt_of_cell? _ _ z0)).trans z0
    have yf0 := (hb1.frozen (p := ⟨w.heap.size + 1, 0, none⟩) (World.block_lt_of_cell? _ _ z0)).trans zf0
    have y1 := (hb1.cell (World.block_lt_of_cell? _ _ z1)).trans z1
    have yf1 := (hb1.frozen (p := ⟨w.heap.size + 1, 1, none⟩) (World.block_lt_of_cell? _ _ z1)).trans zf1
    have y2 := (hb1.cell (World.block_lt_of_cell? _ _ z2)).trans z2
    have yf2 := (hb1.frozen (p := ⟨w.heap.size + 1, 2, none⟩) (World.block_lt_of_cell? _ _ z2)).trans zf2
    have y3 := (hb1.cell (World.block_lt_of_cell? _ _ z3)).trans z3
    have yf3 := (hb1.frozen (p := ⟨w.heap.size + 1, 3, none⟩) (World.block_lt_of_cell? _ _ z3)).trans zf3
    have y4 := (hb1.cell (World.block_lt_of_cell? _ _ z4)).trans z4
    have yf4 := (hb1.frozen (p := ⟨w.heap.size + 1, 4, none⟩) (World.block_lt_of_cell? _ _ z4)).trans zf4
    have y5 := (hb1.cell (World.block_lt_of_cell? _ _ z5)).trans z5
    have yf5 := (hb1.frozen (p := ⟨w.heap.size + 1, 5, none⟩) (World.block_lt_of_cell? _ _ z5)).trans zf5
    have y6 := (hb1.cell (World.block_lt_of_cell? _ _ z6)).trans z6
    have yf6 := (hb1.frozen (p := ⟨w.heap.size + 1, 6, none⟩) (World.block_lt_of_cell? _ _ z6)).trans zf6
    have hbw1 := hbW.trans (hb1.mono sW)
    clear hW HG hVW ho0 hb1
    clear k0 k1 k2 k3 k4 k5 k6 k7 k8 k9 k10 k11 z0 zf0 z1 zf1 z2 zf2 z3 zf3 z4 zf4 z5 zf5 z6 zf6
    go_wp2_with fail
    refine Calls.mono (ranges_yes pol tur pa pk pc va V vc ma S mc mx mp wt ed cl fm pl _ hr) ?_
    rintro e w2 ⟨rfl, hb2⟩
    have i0 := (hb2.cell (World.block_lt_of_cell? _ _ j0)).trans j0
    have i1 := (hb2.cell (World.block_lt_of_cell? _ _ j1)).trans j1
    have i2 := (hb2.cell (World.block_lt_of_cell? _ _ j2)).trans j2
    have i3 := (hb2.cell (World.block_lt_of_cell? _ _ j3)).trans j3
    have i4 := (hb2.cell (World.block_lt_of_cell? _ _ j4)).trans j4
    have i5 := (hb2.cell (World.block_lt_of_cell? _ _ j5)).trans j5
    have i6 := (hb2.cell (World.block_lt_of_cell? _ _ j6)).trans j6
    have i7 := (hb2.cell (World.block_lt_of_cell? _ _ j7)).trans j7
    have i8 := (hb2.cell (World.block_lt_of_cell? _ _ j8)).trans j8
    have i9 := (hb2.cell (World.block_lt_of_cell? _ _ j9)).trans j9
    have i10 := (hb2.cell (World.block_lt_of_cell? _ _ j10)).trans j10
    have i11 := (hb2.cell (World.block_lt_of_cell? _ _ j11)).trans j11
    have x0 := (hb2.cell (World.block_lt_of_cell? _ _ y0)).trans y0
    have xf0 := (hb2.frozen (p := ⟨w.heap.size + 1, 0, none⟩) (World.block_lt_of_cell? _ _ y0)).trans yf0
    have x1 := (hb2.cell (World.block_lt_of_cell? _ _ y1)).trans y1
    have xf1 := (hb2.frozen (p := ⟨w.heap.size + 1, 1, none⟩) (World.block_lt_of_cell? _ _ y1)).trans yf1
    have x2 := (hb2.cell (World.block_lt_of_cell? _ _ y2)).trans y2
    have xf2 := (hb2.frozen (p := ⟨w.heap.size + 1, 2, none⟩) (World.block_lt_of_cell? _ _ y2)).trans yf2
    have x3 := (hb2.cell (World.block_lt_of_cell? _ _ y3)).trans y3
    have xf3 := (hb2.frozen (p := ⟨w.heap.size + 1, 3, none⟩) (World.block_lt_of_cell? _ _ y3)).trans yf3
    have x4 := (hb2.cell (World.block_lt_of_cell? _ _ y4)).trans y4
    have xf4 := (hb2.frozen (p := ⟨w.heap.size + 1, 4, none⟩) (World.block_lt_of_cell? _ _ y4)).trans yf4
    have x5 := (hb2.cell (World.block_lt_of_cell? _ _ y5)).trans y5
    have xf5 := (hb2.frozen (p := ⟨w.heap.size + 1, 5, none⟩) (World.block_lt_of_cell? _ _ y5)).trans yf5
    have x6 := (hb2.cell (World.block_lt_of_cell? _ _ y6)).trans y6
    have xf6 := (hb2.frozen (p := ⟨w.heap.size + 1, 6, none⟩) (World.block_lt_of_cell? _ _ y6)).trans yf6
    have hbw2 := hbw1.trans (hb2.mono hbw1.size)
    clear j0 j1 j2 j3 j4 j5 j6 j7 j8 j9 j10 j11 y0 yf0 y1 yf1 y2 yf2 y3 yf3 y4 yf4 y5 yf5 y6 yf6
    clear hb2 hbw1
    go_wp2_with fail
    refine Calls.mono (implMapsOK ma S mc _ (hS.moved hbw2) hfS hms) ?_
    rintro e w3 ⟨b, rfl, hiff, hb3⟩
    have g0 := (hb3.cell (World.block_lt_of_cell? _ _ i0)).trans i0
    have g1 := (hb3.cell (World.block_lt_of_cell? _ _ i1)).trans i1
    have g2 := (hb3.cell (World.block_lt_of_cell? _ _ i2)).trans i2
    have g3 := (hb3.cell (World.block_lt_of_cell? _ _ i3)).trans i3
    have g4 := (hb3.cell (World.block_lt_of_cell? _ _ i4)).trans i4
    have g5 := (hb3.cell (World.block_lt_of_cell? _ _ i5)).trans i5
    have g6 := (hb3.cell (World.block_lt_of_cell? _ _ i6)).trans i6
    have g7 := (hb3.cell (World.block_lt_of_cell? _ _ i7)).trans i7
    have g8 := (hb3.cell (World.block_lt_of_cell? _ _ i8)).trans i8
    have g9 := (hb3.cell (World.block_lt_of_cell? _ _ i9)).trans i9
    have g10 := (hb3.cell (World.block_lt_of_cell? _ _ i10)).trans i10
    have g11 := (hb3.cell (World.block_lt_of_cell? _ _ i11)).trans i11
    have v0 := (hb3.cell (World.block_lt_of_cell? _ _ x0)).trans x0
    have vf0 := (hb3.frozen (p := ⟨w.heap.size + 1, 0, none⟩) (World.block_lt_of_cell? _ _ x0)).trans xf0
    have v1 := (hb3.cell (World.block_lt_of_cell? _ _ x1)).trans x1
    have vf1 := (hb3.frozen (p := ⟨w.heap.size + 1, 1, none⟩) (World.block_lt_of_cell? _ _ x1)).trans xf1
    have v2 := (hb3.cell (World.block_lt_of_cell? _ _ x2)).trans x2
    have vf2 := (hb3.frozen (p := ⟨w.heap.size + 1, 2, none⟩) (World.block_lt_of_cell? _ _ x2)).trans xf2
    have v3 := (hb3.cell (World.block_lt_of_cell? _ _ x3)).trans x3
    have vf3 := (hb3.frozen (p := ⟨w.heap.size + 1, 3, none⟩) (World.block_lt_of_cell? _ _ x3)).trans xf3
    have v4 := (hb3.cell (World.block_lt_of_cell? _ _ x4)).trans x4
    have vf4 := (hb3.frozen (p := ⟨w.heap.size + 1, 4, none⟩) (World.block_lt_of_cell? _ _ x4)).trans xf4
    have v5 := (hb3.cell (World.block_lt_of_cell? _ _ x5)).trans x5
    have vf5 := (hb3.frozen (p := ⟨w.heap.size + 1, 5, none⟩) (World.block_lt_of_cell? _ _ x5)).trans xf5
    have v6 := (hb3.cell (World.block_lt_of_cell? _ _ x6)).trans x6
    have vf6 := (hb3.frozen (p := ⟨w.heap.size + 1, 6, none⟩) (World.block_lt_of_cell? _ _ x6)).trans xf6
    have hbw3 := hbw2.trans (hb3.mono hbw2.size)
    clear i0 i1 i2 i3 i4 i5 i6 i7 i8 i9 i10 i11 x0 xf0 x1 xf1 x2 xf2 x3 xf3 x4 xf4 x5 xf5 x6 xf6
    clear hb3 hbw2
    have hb7 := below_set7 hbw3 (w.heap.size + 1) (by omega)
    by_cases hM : S.length ≤ 256 ∧ Valid S
    · obtain rfl : b = true := hiff.2 hM
      have hlt : mx < (S.length : Int) := by
        by_cases g : (S.length : Int) ≤ mx
        · exact absurd ⟨hM, g⟩ hn
        · omega
      have hS256 : (S.length : Int) ≤ 256 := by have := hM.1; omega
      clear hn hM hiff hr
      go_wp2
      exact bodyPost_ret (v := .tuple #[.agg #[.int .i64 0, .int .i64 0, .int .u64 0, .int .i64 0, .slice none 0 0, .int .i64 0, .int .i64 0], .int .i64 1]) (by simp [results, Try.results28, go_sem, v0, v1, v2, v3, v4, v5, v6]) rfl ⟨none, 0, rfl, World.ownsRow_nil _ _ _ _, hb7 _ _ _ _ _ _ _⟩
    · obtain rfl : b = false := by cases b; rfl; exact absurd (hiff.1 rfl) hM
      clear hn hM hiff hr
      go_wp2
      exact bodyPost_ret (v := .tuple #[.agg #[.int .i64 0, .int .i64 0, .int .u64 0, .int .i64 0, .slice none 0 0, .int .i64 0, .int .i64 0], .int .i64 1]) (by simp [results, Try.results28, go_sem, v0, v1, v2, v3, v4, v5, v6]) rfl ⟨none, 0, rfl, World.ownsRow_nil _ _ _ _, hb7 _ _ _ _ _ _ _⟩
  · have hl0 : 0 < pk.length := List.length_pos_iff.2 hpe
    have hl1 : (0 : Int) < (pk.length : Int) := by omega
    have hPW' := hPW
    rcases hPW' with h | ⟨bp, op, hpa, hcp⟩
    · exact absurd h hpe
    subst hpa
    have q0 := hcp 0 hl0
    rw [← HKK.out] at q0
    simp only [Nat.add_zero] at q0
    have HPE : Hid (¬ pk = []) := hpe
    clear HKK hcp hpe
    go_enter Try.func28, Try.ntmps28
    rw [hW] at q0
    go_wp2_with fail
    rw [← hW] at q0 ⊢
    refine Calls.mono (HG.out va vc _ hVW hvc hvm hvn) ?_
    rintro e w1 ⟨av0, cp0, rfl, ho0, hb1⟩
    have j0 := (hb1.cell (World.block_lt_of_cell? _ _ k0)).trans k0
    have j1 := (hb1.cell (World.block_lt_of_cell? _ _ k1)).trans k1
    have j2 := (hb1.cell (World.block_lt_of_cell? _ _ k2)).trans k2
    have j3 := (hb1.cell (World.block_lt_of_cell? _ _ k3)).trans k3
    have j4 := (hb1.cell (World.block_lt_of_cell? _ _ k4)).trans k4
    have j5 := (hb1.cell (World.block_lt_of_cell? _ _ k5)).trans k5
    have j6 := (hb1.cell (World.block_lt_of_cell? _ _ k6)).trans k6
    have j7 := (hb1.cell (World.block_lt_of_cell? _ _ k7)).trans k7
    have j8 := (hb1.cell (World.block_lt_of_cell? _ _ k8)).trans k8
    have j9 := (hb1.cell (World.block_lt_of_cell? _ _ k9)).trans k9
    have j10 := (hb1.cell (World.block_lt_of_cell? _ _ k10)).trans k10
    have j11 := (hb1.cell (World.block_lt_of_cell? _ _ k11)).trans k11
    have y0 := (hb1.cell (World.block_lt_of_cell? _ _ z0)).trans z0
    have yf0 := (hb1.frozen (p := ⟨w.heap.size + 1, 0, none⟩) (World.block_lt_of_cell? _ _ z0)).trans zf0
    have y1 := (hb1.cell (World.block_lt_of_cell? _ _ z1)).trans z1
    have yf1 := (hb1.frozen (p := ⟨w.heap.size + 1, 1, none⟩) (World.block_lt_of_cell? _ _ z1)).trans zf1
    have y2 := (hb1.cell (World.block_lt_of_cell? _ _ z2)).trans z2
    have yf2 := (hb1.frozen (p := ⟨w.heap.size + 1, 2, none⟩) (World.block_lt_of_cell? _ _ z2)).trans zf2
    have y3 := (hb1.cell (World.block_lt_of_cell? _ _ z3)).trans z3
    have yf3 := (hb1.frozen (p := ⟨w.heap.size + 1, 3, none⟩) (World.block_lt_of_cell? _ _ z3)).trans zf3
    have y4 := (hb1.cell (World.block_lt_of_cell? _ _ z4)).trans z4
    have yf4 := (hb1.frozen (p := ⟨w.heap.size + 1, 4, none⟩) (World.block_lt_of_cell? _ _ z4)).trans zf4
    have y5 := (hb1.cell (World.block_lt_of_cell? _ _ z5)).trans z5
    have yf5 := (hb1.frozen (p := ⟨w.heap.size + 1, 5, none⟩) (World.block_lt_of_cell? _ _ z5)).trans zf5
    have y6 := (hb1.cell (World.block_lt_of_cell? _ _ z6)).trans z6
    have yf6 := (hb1.frozen (p := ⟨w.heap.size + 1, 6, none⟩) (World.block_lt_of_cell? _ _ z6)).trans zf6
    have hbw1 := hbW.trans (hb1.mono sW)
    clear hW HG hVW ho0 hb1
    clear k0 k1 k2 k3 k4 k5 k6 k7 k8 k9 k10 k11 z0 zf0 z1 zf1 z2 zf2 z3 zf3 z4 zf4 z5 zf5 z6 zf6
    go_wp2_with fail
    refine Calls.mono (ranges_yes pol tur (some ⟨bp, op, none⟩) pk pc va V vc ma S mc mx mp wt ed cl fm pl _ hr) ?_
    rintro e w2 ⟨rfl, hb2⟩
    have i0 := (hb2.cell (World.block_lt_of_cell? _ _ j0)).trans j0
    have i1 := (hb2.cell (World.block_lt_of_cell? _ _ j1)).trans j1
    have i2 := (hb2.cell (World.block_lt_of_cell? _ _ j2)).trans j2
    have i3 := (hb2.cell (World.block_lt_of_cell? _ _ j3)).trans j3
    have i4 := (hb2.cell (World.block_lt_of_cell? _ _ j4)).trans j4
    have i5 := (hb2.cell (World.block_lt_of_cell? _ _ j5)).trans j5
    have i6 := (hb2.cell (World.block_lt_of_cell? _ _ j6)).trans j6
    have i7 := (hb2.cell (World.block_lt_of_cell? _ _ j7)).trans j7
    have i8 := (hb2.cell (World.block_lt_of_cell? _ _ j8)).trans j8
    have i9 := (hb2.cell (World.block_lt_of_cell? _ _ j9)).trans j9
    have i10 := (hb2.cell (World.block_lt_of_cell? _ _ j10)).trans j10
    have i11 := (hb2.cell (World.block_lt_of_cell? _ _ j11)).trans j11
    have x0 := (hb2.cell (World.block_lt_of_cell? _ _ y0)).trans y0
    have xf0 := (hb2.frozen (p := ⟨w.heap.size + 1, 0, none⟩) (World.block_lt_of_cell? _ _ y0)).trans yf0
    have x1 := (hb2.cell (World.block_lt_of_cell? _ _ y1)).trans y1
    have xf1 := (hb2.frozen (p := ⟨w.heap.size + 1, 1, none⟩) (World.block_lt_of_cell? _ _ y1)).trans yf1
    have x2 := (hb2.cell (World.block_lt_of_cell? _ _ y2)).trans y2
    have xf2 := (hb2.frozen (p := ⟨w.heap.size + 1, 2, none⟩) (World.block_lt_of_cell? _ _ y2)).trans yf2
    have x3 := (hb2.cell (World.block_lt_of_cell? _ _ y3)).trans y3
    have xf3 := (hb2.frozen (p := ⟨w.heap.size + 1, 3, none⟩) (World.block_lt_of_cell? _ _ y3)).trans yf3
    have x4 := (hb2.cell (World.block_lt_of_cell? _ _ y4)).trans y4
    have xf4 := (hb2.frozen (p := ⟨w.heap.size + 1, 4, none⟩) (World.block_lt_of_cell? _ _ y4)).trans yf4
    have x5 := (hb2.cell (World.block_lt_of_cell? _ _ y5)).trans y5
    have xf5 := (hb2.frozen (p := ⟨w.heap.size + 1, 5, none⟩) (World.block_lt_of_cell? _ _ y5)).trans yf5
    have x6 := (hb2.cell (World.block_lt_of_cell? _ _ y6)).trans y6
    have xf6 := (hb2.frozen (p := ⟨w.heap.size + 1, 6, none⟩) (World.block_lt_of_cell? _ _ y6)).trans yf6
    have hbw2 := hbw1.trans (hb2.mono hbw1.size)
    clear j0 j1 j2 j3 j4 j5 j6 j7 j8 j9 j10 j11 y0 yf0 y1 yf1 y2 yf2 y3 yf3 y4 yf4 y5 yf5 y6 yf6
    clear hb2 hbw1
    go_wp2_with fail
    refine Calls.mono (implMapsOK ma S mc _ (hS.moved hbw2) hfS hms) ?_
    rintro e w3 ⟨b, rfl, hiff, hb3⟩
    have g0 := (hb3.cell (World.block_lt_of_cell? _ _ i0)).trans i0
    have g1 := (hb3.cell (World.block_lt_of_cell? _ _ i1)).trans i1
    have g2 := (hb3.cell (World.block_lt_of_cell? _ _ i2)).trans i2
    have g3 := (hb3.cell (World.block_lt_of_cell? _ _ i3)).trans i3
    have g4 := (hb3.cell (World.block_lt_of_cell? _ _ i4)).trans i4
    have g5 := (hb3.cell (World.block_lt_of_cell? _ _ i5)).trans i5
    have g6 := (hb3.cell (World.block_lt_of_cell? _ _ i6)).trans i6
    have g7 := (hb3.cell (World.block_lt_of_cell? _ _ i7)).trans i7
    have g8 := (hb3.cell (World.block_lt_of_cell? _ _ i8)).trans i8
    have g9 := (hb3.cell (World.block_lt_of_cell? _ _ i9)).trans i9
    have g10 := (hb3.cell (World.block_lt_of_cell? _ _ i10)).trans i10
    have g11 := (hb3.cell (World.block_lt_of_cell? _ _ i11)).trans i11
    have v0 := (hb3.cell (World.block_lt_of_cell? _ _ x0)).trans x0
    have vf0 := (hb3.frozen (p := ⟨w.heap.size + 1, 0, none⟩) (World.block_lt_of_cell? _ _ x0)).trans xf0
    have v1 := (hb3.cell (World.block_lt_of_cell? _ _ x1)).trans x1
    have vf1 := (hb3.frozen (p := ⟨w.heap.size + 1, 1, none⟩) (World.block_lt_of_cell? _ _ x1)).trans xf1
    have v2 := (hb3.cell (World.block_lt_of_cell? _ _ x2)).trans x2
    have vf2 := (hb3.frozen (p := ⟨w.heap.size + 1, 2, none⟩) (World.block_lt_of_cell? _ _ x2)).trans xf2
    have v3 := (hb3.cell (World.block_lt_of_cell? _ _ x3)).trans x3
    have vf3 := (hb3.frozen (p := ⟨w.heap.size + 1, 3, none⟩) (World.block_lt_of_cell? _ _ x3)).trans xf3
    have v4 := (hb3.cell (World.block_lt_of_cell? _ _ x4)).trans x4
    have vf4 := (hb3.frozen (p := ⟨w.heap.size + 1, 4, none⟩) (World.block_lt_of_cell? _ _ x4)).trans xf4
    have v5 := (hb3.cell (World.block_lt_of_cell? _ _ x5)).trans x5
    have vf5 := (hb3.frozen (p := ⟨w.heap.size + 1, 5, none⟩) (World.block_lt_of_cell? _ _ x5)).trans xf5
    have v6 := (hb3.cell (World.block_lt_of_cell? _ _ x6)).trans x6
    have vf6 := (hb3.frozen (p := ⟨w.heap.size + 1, 6, none⟩) (World.block_lt_of_cell? _ _ x6)).trans xf6
    have hbw3 := hbw2.trans (hb3.mono hbw2.size)
    clear i0 i1 i2 i3 i4 i5 i6 i7 i8 i9 i10 i11 x0 xf0 x1 xf1 x2 xf2 x3 xf3 x4 xf4 x5 xf5 x6 xf6
    clear hb3 hbw2
    have hb7 := below_set7 hbw3 (w.heap.size + 1) (by omega)
    by_cases hM : S.length ≤ 256 ∧ Valid S
    · obtain rfl : b = true := hiff.2 hM
      have hlt : mx < (S.length : Int) := by
        by_cases g : (S.length : Int) ≤ mx
        · exact absurd ⟨hM, g⟩ hn
        · omega
      have hS256 : (S.length : Int) ≤ 256 := by have := hM.1; omega
      clear hn hM hiff hr
      go_wp2
      exact bodyPost_ret (v := .tuple #[.agg #[.int .i64 0, .int .i64 0, .int .u64 0, .int .i64 0, .slice none 0 0, .int .i64 0, .int .i64 0], .int .i64 1]) (by simp [results, Try.results28, go_sem, v0, v1, v2, v3, v4, v5, v6]) rfl ⟨none, 0, rfl, World.ownsRow_nil _ _ _ _, hb7 _ _ _ _ _ _ _⟩
    · obtain rfl : b = false := by cases b; rfl; exact absurd (hiff.1 rfl) hM
      clear hn hM hiff hr
      go_wp2
      exact bodyPost_ret (v := .tuple #[.agg #[.int .i64 0, .int .i64 0, .int .u64 0, .int .i64 0, .slice none 0 0, .int .i64 0, .int .i64 0], .int .i64 1]) (by simp [results, Try.results28, go_sem, v0, v1, v2, v3, v4, v5, v6]) rfl ⟨none, 0, rfl, World.ownsRow_nil _ _ _ _, hb7 _ _ _ _ _ _ _⟩

set_option maxRecDepth 100000 in
set_option maxHeartbeats 2000000 in
theorem top_none (pol tur : Int) (pa : Option Addr) (pk : List Int) (pc : Nat) (va : Option Addr) (V : Vws) (vc : Nat) (ma : Option Addr) (S : Mps) (mc : Nat) (mx mp wt ed cl fm pl : Int) (hvc : V.length ≤ vc) (hvm : vc ≤ 9223372036854775807) (hvn : va = none → vc = 0) (hpm : pk.length ≤ 9223372036854775807) (T0 : List Int) (tn0 : Int) (hG : GivesP 20 pol tur (pk.getD 0 0) V 0 T0 tn0 0) (hfV : FitsV V) (hl : V.length ≤ 8) (hfS : FitsM S) (hms : S.length ≤ 9223372036854775807) (m0 : 0 ≤ mp) (w0 : 0 ≤ wt) (e0 : 0 ≤ ed) (hr : OkR tur V.length pk.length mx mp wt ed cl fm pl) (hM : (S.length ≤ 256 ∧ Valid S) ∧ (S.length : Int) ≤ mx) (hN : NextIs S V mx mp wt ed cl fm pl 0 0 0 0 0) : GivesS 28 pol tur pa pk pc va V vc ma S mc mx mp wt ed cl fm pl 0 0 0 0 [] tur 0 0 := by
  intro w hP hV hS
  have HG : Hid _ := hG
  clear hG
  obtain ⟨W, hW⟩ : ∃ W, W = (w.alloc (.cells #[.int .i64 pol, .int .i64 tur, .slice pa pk.length pc, .slice va V.length vc, .slice ma S.length mc, .int .i64 mx, .int .u64 mp, .int .u64 wt, .int .u64 ed, .int .i64 cl, .int .i64 fm, .int .i64 pl] 48)).alloc (.cells #[.int .i64 0, .int .i64 0, .int .u64 0, .int .i64 0, .slice none 0 0, .int .i64 0, .int .i64 0] 51) := ⟨_, rfl⟩
  have hbW : Below w.heap.size w W := by rw [hW]; exact ((Below.refl _ _).alloc (Nat.le_refl _) _).alloc (by simp) _
  have k0 : W.cell? ⟨w.heap.size, 0, none⟩ = some (.int .i64 pol) := by rw [hW]; simp
  have k1 : W.cell? ⟨w.heap.size, 1, none⟩ = some (.int .i64 tur) := by rw [hW]; simp
  have k2 : W.cell? ⟨w.heap.size, 2, none⟩ = some (.slice pa pk.length pc) := by rw [hW]; simp
  have k3 : W.cell? ⟨w.heap.size, 3, none⟩ = some (.slice va V.length vc) := by rw [hW]; simp
  have k4 : W.cell? ⟨w.heap.size, 4, none⟩ = some (.slice ma S.length mc) := by rw [hW]; simp
  have k5 : W.cell? ⟨w.heap.size, 5, none⟩ = some (.int .i64 mx) := by rw [hW]; simp
  have k6 : W.cell? ⟨w.heap.size, 6, none⟩ = some (.int .u64 mp) := by rw [hW]; simp
  have k7 : W.cell? ⟨w.heap.size, 7, none⟩ = some (.int .u64 wt) := by rw [hW]; simp
  have k8 : W.cell? ⟨w.heap.size, 8, none⟩ = some (.int .u64 ed) := by rw [hW]; simp
  have k9 : W.cell? ⟨w.heap.size, 9, none⟩ = some (.int .i64 cl) := by rw [hW]; simp
  have k10 : W.cell? ⟨w.heap.size, 10, none⟩ = some (.int .i64 fm) := by rw [hW]; simp
  have k11 : W.cell? ⟨w.heap.size, 11, none⟩ = some (.int .i64 pl) := by rw [hW]; simp
  have z0 : W.cell? ⟨w.heap.size + 1, 0, none⟩ = some (.int .i64 0) := by rw [hW]; simp
  have zf0 : W.frozen? ⟨w.heap.size + 1, 0, none⟩ = false := by rw [hW]; simp
  have z1 : W.cell? ⟨w.heap.size + 1, 1, none⟩ = some (.int .i64 0) := by rw [hW]; simp
  have zf1 : W.frozen? ⟨w.heap.size + 1, 1, none⟩ = false := by rw [hW]; simp
  have z2 : W.cell? ⟨w.heap.size + 1, 2, none⟩ = some (.int .u64 0) := by rw [hW]; simp
  have zf2 : W.frozen? ⟨w.heap.size + 1, 2, none⟩ = false := by rw [hW]; simp
  have z3 : W.cell? ⟨w.heap.size + 1, 3, none⟩ = some (.int .i64 0) := by rw [hW]; simp
  have zf3 : W.frozen? ⟨w.heap.size + 1, 3, none⟩ = false := by rw [hW]; simp
  have z4 : W.cell? ⟨w.heap.size + 1, 4, none⟩ = some (.slice none 0 0) := by rw [hW]; simp
  have zf4 : W.frozen? ⟨w.heap.size + 1, 4, none⟩ = false := by rw [hW]; simp
  have z5 : W.cell? ⟨w.heap.size + 1, 5, none⟩ = some (.int .i64 0) := by rw [hW]; simp
  have zf5 : W.frozen? ⟨w.heap.size + 1, 5, none⟩ = false := by rw [hW]; simp
  have z6 : W.cell? ⟨w.heap.size + 1, 6, none⟩ = some (.int .i64 0) := by rw [hW]; simp
  have zf6 : W.frozen? ⟨w.heap.size + 1, 6, none⟩ = false := by rw [hW]; simp
  have hPW := hP.moved hbW
  have hVW := hV.moved hbW
  have sW := hbW.size
  obtain ⟨kk, hkk⟩ : ∃ kk, kk = pk.getD 0 0 := ⟨_, rfl⟩
  rw [← hkk] at HG
  have HKK : Hid _ := hkk
  clear hkk
  by_cases hpe : pk = []
  · have hl0 : ¬ (0 : Int) < (pk.length : Int) := by rw [hpe]; simp
    have hl1 : (pk.length : Int) ≤ 0 := by omega
    obtain rfl : kk = 0 := by rw [HKK.out, hpe]; rfl
    have HPE : Hid (pk = []) := hpe
    clear HKK hpe
    go_enter Try.func28, Try.ntmps28
    go_wp2_with fail
    rw [← hW]
    refine Calls.mono (HG.out va vc _ hVW hvc hvm hvn) ?_
    rintro e w1 ⟨av0, cp0, rfl, ho0, hb1⟩
    have j0 := (hb1.cell (World.block_lt_of_cell? _ _ k0)).trans k0
    have j1 := (hb1.cell (World.block_lt_of_cell? _ _ k1)).trans k1
    have j2 := (hb1.cell (World.block_lt_of_cell? _ _ k2)).trans k2
    have j3 := (hb1.cell (World.block_lt_of_cell? _ _ k3)).trans k3
    have j4 := (hb1.cell (World.block_lt_of_cell? _ _ k4)).trans k4
    have j5 := (hb1.cell (World.block_lt_of_cell? _ _ k5)).trans k5
    have j6 := (hb1.cell (World.block_lt_of_cell? _ _ k6)).trans k6
    have j7 := (hb1.cell (World.block_lt_of_cell? _ _ k7)).trans k7
    have j8 := (hb1.cell (World.block_lt_of_cell? _ _ k8)).trans k8
    have j9 := (hb1.cell (World.block_lt_of_cell? _ _ k9)).trans k9
    have j10 := (hb1.cell (World.block_lt_of_cell? _ _ k10)).trans k10
    have j11 := (hb1.cell (World.block_lt_of_cell? _ _ k11)).trans k11
    have y0 := (hb1.cell (World.block_lt_of_cell? _ _ z0)).trans z0
    have yf0 := (hb1.frozen (p := ⟨w.heap.size + 1, 0, none⟩) (World.block_lt_of_cell? _ _ z0)).trans zf0
    have y1 := (hb1.cell (World.block_lt_of_cell? _ _ z1)).trans z1
    have yf1 := (hb1.frozen (p := ⟨w.heap.size + 1, 1, none⟩) (World.block_lt_of_cell? _ _ z1)).trans zf1
    have y2 := (hb1.cell (World.block_lt_of_cell? _ _ z2)).trans z2
    have yf2 := (hb1.frozen (p := ⟨w.heap.size + 1, 2, none⟩) (World.block_lt_of_cell? _ _ z2)).trans zf2
    have y3 := (hb1.cell (World.block_lt_of_cell? _ _ z3)).trans z3
    have yf3 := (hb1.frozen (p := ⟨w.heap.size + 1, 3, none⟩) (World.block_lt_of_cell? _ _ z3)).trans zf3
    have y4 := (hb1.cell (World.block_lt_of_cell? _ _ z4)).trans z4
    have yf4 := (hb1.frozen (p := ⟨w.heap.size + 1, 4, none⟩) (World.block_lt_of_cell? _ _ z4)).trans zf4
    have y5 := (hb1.cell (World.block_lt_of_cell? _ _ z5)).trans z5
    have yf5 := (hb1.frozen (p := ⟨w.heap.size + 1, 5, none⟩) (World.block_lt_of_cell? _ _ z5)).trans zf5
    have y6 := (hb1.cell (World.block_lt_of_cell? _ _ z6)).trans z6
    have yf6 := (hb1.frozen (p := ⟨w.heap.size + 1, 6, none⟩) (World.block_lt_of_cell? _ _ z6)).trans zf6
    have hbw1 := hbW.trans (hb1.mono sW)
    clear hW HG hVW ho0 hb1
    clear k0 k1 k2 k3 k4 k5 k6 k7 k8 k9 k10 k11 z0 zf0 z1 zf1 z2 zf2 z3 zf3 z4 zf4 z5 zf5 z6 zf6
    go_wp2_with fail
    have HNX : Hid _ := hN
    clear hN
    refine Calls.mono (ranges_yes pol tur pa pk pc va V vc ma S mc mx mp wt ed cl fm pl _ hr) ?_
    rintro e w2 ⟨rfl, hb2⟩
    have i0 := (hb2.cell (World.block_lt_of_cell? _ _ j0)).trans j0
    have i1 := (hb2.cell (World.block_lt_of_cell? _ _ j1)).trans j1
    have i2 := (hb2.cell (World.block_lt_of_cell? _ _ j2)).trans j2
    have i3 := (hb2.cell (World.block_lt_of_cell? _ _ j3)).trans j3
    have i4 := (hb2.cell (World.block_lt_of_cell? _ _ j4)).trans j4
    have i5 := (hb2.cell (World.block_lt_of_cell? _ _ j5)).trans j5
    have i6 := (hb2.cell (World.block_lt_of_cell? _ _ j6)).trans j6
    have i7 := (hb2.cell (World.block_lt_of_cell? _ _ j7)).trans j7
    have i8 := (hb2.cell (World.block_lt_of_cell? _ _ j8)).trans j8
    have i9 := (hb2.cell (World.block_lt_of_cell? _ _ j9)).trans j9
    have i10 := (hb2.cell (World.block_lt_of_cell? _ _ j10)).trans j10
    have i11 := (hb2.cell (World.block_lt_of_cell? _ _ j11)).trans j11
    have x0 := (hb2.cell (World.block_lt_of_cell? _ _ y0)).trans y0
    have xf0 := (hb2.frozen (p := ⟨w.heap.size + 1, 0, none⟩) (World.block_lt_of_cell? _ _ y0)).trans yf0
    have x1 := (hb2.cell (World.block_lt_of_cell? _ _ y1)).trans y1
    have xf1 := (hb2.frozen (p := ⟨w.heap.size + 1, 1, none⟩) (World.block_lt_of_cell? _ _ y1)).trans yf1
    have x2 := (hb2.cell (World.block_lt_of_cell? _ _ y2)).trans y2
    have xf2 := (hb2.frozen (p := ⟨w.heap.size + 1, 2, none⟩) (World.block_lt_of_cell? _ _ y2)).trans yf2
    have x3 := (hb2.cell (World.block_lt_of_cell? _ _ y3)).trans y3
    have xf3 := (hb2.frozen (p := ⟨w.heap.size + 1, 3, none⟩) (World.block_lt_of_cell? _ _ y3)).trans yf3
    have x4 := (hb2.cell (World.block_lt_of_cell? _ _ y4)).trans y4
    have xf4 := (hb2.frozen (p := ⟨w.heap.size + 1, 4, none⟩) (World.block_lt_of_cell? _ _ y4)).trans yf4
    have x5 := (hb2.cell (World.block_lt_of_cell? _ _ y5)).trans y5
    have xf5 := (hb2.frozen (p := ⟨w.heap.size + 1, 5, none⟩) (World.block_lt_of_cell? _ _ y5)).trans yf5
    have x6 := (hb2.cell (World.block_lt_of_cell? _ _ y6)).trans y6
    have xf6 := (hb2.frozen (p := ⟨w.heap.size + 1, 6, none⟩) (World.block_lt_of_cell? _ _ y6)).trans yf6
    have hbw2 := hbw1.trans (hb2.mono hbw1.size)
    clear j0 j1 j2 j3 j4 j5 j6 j7 j8 j9 j10 j11 y0 yf0 y1 yf1 y2 yf2 y3 yf3 y4 yf4 y5 yf5 y6 yf6
    clear hb2 hbw1
    go_wp2_with fail
    refine Calls.mono (implMapsOK ma S mc _ (hS.moved hbw2) hfS hms) ?_
    rintro e w3 ⟨b, rfl, hiff, hb3⟩
    have g0 := (hb3.cell (World.block_lt_of_cell? _ _ i0)).trans i0
    have g1 := (hb3.cell (World.block_lt_of_cell? _ _ i1)).trans i1
    have g2 := (hb3.cell (World.block_lt_of_cell? _ _ i2)).trans i2
    have g3 := (hb3.cell (World.block_lt_of_cell? _ _ i3)).trans i3
    have g4 := (hb3.cell (World.block_lt_of_cell? _ _ i4)).trans i4
    have g5 := (hb3.cell (World.block_lt_of_cell? _ _ i5)).trans i5
    have g6 := (hb3.cell (World.block_lt_of_cell? _ _ i6)).trans i6
    have g7 := (hb3.cell (World.block_lt_of_cell? _ _ i7)).trans i7
    have g8 := (hb3.cell (World.block_lt_of_cell? _ _ i8)).trans i8
    have g9 := (hb3.cell (World.block_lt_of_cell? _ _ i9)).trans i9
    have g10 := (hb3.cell (World.block_lt_of_cell? _ _ i10)).trans i10
    have g11 := (hb3.cell (World.block_lt_of_cell? _ _ i11)).trans i11
    have v0 := (hb3.cell (World.block_lt_of_cell? _ _ x0)).trans x0
    have vf0 := (hb3.frozen (p := ⟨w.heap.size + 1, 0, none⟩) (World.block_lt_of_cell? _ _ x0)).trans xf0
    have v1 := (hb3.cell (World.block_lt_of_cell? _ _ x1)).trans x1
    have vf1 := (hb3.frozen (p := ⟨w.heap.size + 1, 1, none⟩) (World.block_lt_of_cell? _ _ x1)).trans xf1
    have v2 := (hb3.cell (World.block_lt_of_cell? _ _ x2)).trans x2
    have vf2 := (hb3.frozen (p := ⟨w.heap.size + 1, 2, none⟩) (World.block_lt_of_cell? _ _ x2)).trans xf2
    have v3 := (hb3.cell (World.block_lt_of_cell? _ _ x3)).trans x3
    have vf3 := (hb3.frozen (p := ⟨w.heap.size + 1, 3, none⟩) (World.block_lt_of_cell? _ _ x3)).trans xf3
    have v4 := (hb3.cell (World.block_lt_of_cell? _ _ x4)).trans x4
    have vf4 := (hb3.frozen (p := ⟨w.heap.size + 1, 4, none⟩) (World.block_lt_of_cell? _ _ x4)).trans xf4
    have v5 := (hb3.cell (World.block_lt_of_cell? _ _ x5)).trans x5
    have vf5 := (hb3.frozen (p := ⟨w.heap.size + 1, 5, none⟩) (World.block_lt_of_cell? _ _ x5)).trans xf5
    have v6 := (hb3.cell (World.block_lt_of_cell? _ _ x6)).trans x6
    have vf6 := (hb3.frozen (p := ⟨w.heap.size + 1, 6, none⟩) (World.block_lt_of_cell? _ _ x6)).trans xf6
    have hbw3 := hbw2.trans (hb3.mono hbw2.size)
    clear i0 i1 i2 i3 i4 i5 i6 i7 i8 i9 i10 i11 x0 xf0 x1 xf1 x2 xf2 x3 xf3 x4 xf4 x5 xf5 x6 xf6
    clear hb3 hbw2
    obtain rfl : b = true := hiff.2 hM.1
    have hle := hM.2
    have hS256 : (S.length : Int) ≤ 256 := by have := hM.1.1; omega
    clear hiff
    go_wp2_with fail
    refine Calls.mono (nextFrame_is pol tur pa pk pc va V vc ma S mc mx mp wt ed cl fm pl _ (hV.moved hbw3) hfV hl (hS.moved hbw3) hfS hM.1.1 hM.1.2 m0 (by have := hr.2.2.2.2; omega) w0 (by have := hr.2.2.2.2; omega) e0 (by have := hr.2.2.2.2; omega) (by have := hr.2.2.1; omega) (by have := hr.2.2.1; omega) _ _ _ _ _ HNX.out) ?_
    rintro e w4 ⟨rfl, hb4⟩
    have i0 := (hb4.cell (World.block_lt_of_cell? _ _ g0)).trans g0
    have i1 := (hb4.cell (World.block_lt_of_cell? _ _ g1)).trans g1
    have i2 := (hb4.cell (World.block_lt_of_cell? _ _ g2)).trans g2
    have i3 := (hb4.cell (World.block_lt_of_cell? _ _ g3)).trans g3
    have i4 := (hb4.cell (World.block_lt_of_cell? _ _ g4)).trans g4
    have i5 := (hb4.cell (World.block_lt_of_cell? _ _ g5)).trans g5
    have i6 := (hb4.cell (World.block_lt_of_cell? _ _ g6)).trans g6
    have i7 := (hb4.cell (World.block_lt_of_cell? _ _ g7)).trans g7
    have i8 := (hb4.cell (World.block_lt_of_cell? _ _ g8)).trans g8
    have i9 := (hb4.cell (World.block_lt_of_cell? _ _ g9)).trans g9
    have i10 := (hb4.cell (World.block_lt_of_cell? _ _ g10)).trans g10
    have i11 := (hb4.cell (World.block_lt_of_cell? _ _ g11)).trans g11
    have x0 := (hb4.cell (World.block_lt_of_cell? _ _ v0)).trans v0
    have xf0 := (hb4.frozen (p := ⟨w.heap.size + 1, 0, none⟩) (World.block_lt_of_cell? _ _ v0)).trans vf0
    have x1 := (hb4.cell (World.block_lt_of_cell? _ _ v1)).trans v1
    have xf1 := (hb4.frozen (p := ⟨w.heap.size + 1, 1, none⟩) (World.block_lt_of_cell? _ _ v1)).trans vf1
    have x2 := (hb4.cell (World.block_lt_of_cell? _ _ v2)).trans v2
    have xf2 := (hb4.frozen (p := ⟨w.heap.size + 1, 2, none⟩) (World.block_lt_of_cell? _ _ v2)).trans vf2
    have x3 := (hb4.cell (World.block_lt_of_cell? _ _ v3)).trans v3
    have xf3 := (hb4.frozen (p := ⟨w.heap.size + 1, 3, none⟩) (World.block_lt_of_cell? _ _ v3)).trans vf3
    have x4 := (hb4.cell (World.block_lt_of_cell? _ _ v4)).trans v4
    have xf4 := (hb4.frozen (p := ⟨w.heap.size + 1, 4, none⟩) (World.block_lt_of_cell? _ _ v4)).trans vf4
    have x5 := (hb4.cell (World.block_lt_of_cell? _ _ v5)).trans v5
    have xf5 := (hb4.frozen (p := ⟨w.heap.size + 1, 5, none⟩) (World.block_lt_of_cell? _ _ v5)).trans vf5
    have x6 := (hb4.cell (World.block_lt_of_cell? _ _ v6)).trans v6
    have xf6 := (hb4.frozen (p := ⟨w.heap.size + 1, 6, none⟩) (World.block_lt_of_cell? _ _ v6)).trans vf6
    have hbw4 := hbw3.trans (hb4.mono hbw3.size)
    clear g0 g1 g2 g3 g4 g5 g6 g7 g8 g9 g10 g11 v0 vf0 v1 vf1 v2 vf2 v3 vf3 v4 vf4 v5 vf5 v6 vf6
    clear hb4 hbw3 hr hM HNX
    have bl : w.heap.size + 1 < w4.heap.size := World.block_lt_of_cell? _ _ x0
    have bl2 : ¬ w.heap.size + 1 = w4.heap.size := by omega
    have bl3 : ¬ w4.heap.size = w.heap.size + 1 := by omega
    have bl4 : ¬ w.heap.size = w4.heap.size := by omega
    have bl5 : ¬ w4.heap.size = w.heap.size := by omega
    have bl6 : w.heap.size < w4.heap.size := by omega
    have hb7 := below_set7 hbw4 (w.heap.size + 1) (by omega)
    go_wp2
    exact bodyPost_ret (v := .tuple #[.agg #[.int .i64 0, .int .i64 0, .int .u64 0, .int .i64 0, .slice none 0 0, .int .i64 tur, .int .i64 0], .int .i64 0]) (by simp [results, Try.results28, go_sem, bl, x0, x1, x2, x3, x4, x5, x6]) rfl ⟨none, 0, rfl, World.ownsRow_nil _ _ _ _, below_then (hb7 _ _ _ _ _ _ _) _⟩
  · have hl0 : 0 < pk.length := List.length_pos_iff.2 hpe
    have hl1 : (0 : Int) < (pk.length : Int) := by omega
    have hPW' := hPW
    rcases hPW' with h | ⟨bp, op, hpa, hcp⟩
    · exact absurd h hpe
    subst hpa
    have q0 := hcp 0 hl0
    rw [← HKK.out] at q0
    simp only [Nat.add_zero] at q0
    have HPE : Hid (¬ pk = []) := hpe
    clear HKK hcp hpe
    go_enter Try.func28, Try.ntmps28
    rw [hW] at q0
    go_wp2_with fail
    rw [← hW] at q0 ⊢
    refine Calls.mono (HG.out va vc _ hVW hvc hvm hvn) ?_
    rintro e w1 ⟨av0, cp0, rfl, ho0, hb1⟩
    have j0 := (hb1.cell (World.block_lt_of_cell? _ _ k0)).trans k0
    have j1 := (hb1.cell (World.block_lt_of_cell? _ _ k1)).trans k1
    have j2 := (hb1.cell (World.block_lt_of_cell? _ _ k2)).trans k2
    have j3 := (hb1.cell (World.block_lt_of_cell? _ _ k3)).trans k3
    have j4 := (hb1.cell (World.block_lt_of_cell? _ _ k4)).trans k4
    have j5 := (hb1.cell (World.block_lt_of_cell? _ _ k5)).trans k5
    have j6 := (hb1.cell (World.block_lt_of_cell? _ _ k6)).trans k6
    have j7 := (hb1.cell (World.block_lt_of_cell? _ _ k7)).trans k7
    have j8 := (hb1.cell (World.block_lt_of_cell? _ _ k8)).trans k8
    have j9 := (hb1.cell (World.block_lt_of_cell? _ _ k9)).trans k9
    have j10 := (hb1.cell (World.block_lt_of_cell? _ _ k10)).trans k10
    have j11 := (hb1.cell (World.block_lt_of_cell? _ _ k11)).trans k11
    have y0 := (hb1.cell (World.block_lt_of_cell? _ _ z0)).trans z0
    have yf0 := (hb1.frozen (p := ⟨w.heap.size + 1, 0, none⟩) (World.block_lt_of_cell? _ _ z0)).trans zf0
    have y1 := (hb1.cell (World.block_lt_of_cell? _ _ z1)).trans z1
    have yf1 := (hb1.frozen (p := ⟨w.heap.size + 1, 1, none⟩) (World.block_lt_of_cell? _ _ z1)).trans zf1
    have y2 := (hb1.cell (World.block_lt_of_cell? _ _ z2)).trans z2
    have yf2 := (hb1.frozen (p := ⟨w.heap.size + 1, 2, none⟩) (World.block_lt_of_cell? _ _ z2)).trans zf2
    have y3 := (hb1.cell (World.block_lt_of_cell? _ _ z3)).trans z3
    have yf3 := (hb1.frozen (p := ⟨w.heap.size + 1, 3, none⟩) (World.block_lt_of_cell? _ _ z3)).trans zf3
    have y4 := (hb1.cell (World.block_lt_of_cell? _ _ z4)).trans z4
    have yf4 := (hb1.frozen (p := ⟨w.heap.size + 1, 4, none⟩) (World.block_lt_of_cell? _ _ z4)).trans zf4
    have y5 := (hb1.cell (World.block_lt_of_cell? _ _ z5)).trans z5
    have yf5 := (hb1.frozen (p := ⟨w.heap.size + 1, 5, none⟩) (World.block_lt_of_cell? _ _ z5)).trans zf5
    have y6 := (hb1.cell (World.block_lt_of_cell? _ _ z6)).trans z6
    have yf6 := (hb1.frozen (p := ⟨w.heap.size + 1, 6, none⟩) (World.block_lt_of_cell? _ _ z6)).trans zf6
    have hbw1 := hbW.trans (hb1.mono sW)
    clear hW HG hVW ho0 hb1
    clear k0 k1 k2 k3 k4 k5 k6 k7 k8 k9 k10 k11 z0 zf0 z1 zf1 z2 zf2 z3 zf3 z4 zf4 z5 zf5 z6 zf6
    go_wp2_with fail
    have HNX : Hid _ := hN
    clear hN
    refine Calls.mono (ranges_yes pol tur (some ⟨bp, op, none⟩) pk pc va V vc ma S mc mx mp wt ed cl fm pl _ hr) ?_
    rintro e w2 ⟨rfl, hb2⟩
    have i0 := (hb2.cell (World.block_lt_of_cell? _ _ j0)).trans j0
    have i1 := (hb2.cell (World.block_lt_of_cell? _ _ j1)).trans j1
    have i2 := (hb2.cell (World.block_lt_of_cell? _ _ j2)).trans j2
    have i3 := (hb2.cell (World.block_lt_of_cell? _ _ j3)).trans j3
    have i4 := (hb2.cell (World.block_lt_of_cell? _ _ j4)).trans j4
    have i5 := (hb2.cell (World.block_lt_of_cell? _ _ j5)).trans j5
    have i6 := (hb2.cell (World.block_lt_of_cell? _ _ j6)).trans j6
    have i7 := (hb2.cell (World.block_lt_of_cell? _ _ j7)).trans j7
    have i8 := (hb2.cell (World.block_lt_of_cell? _ _ j8)).trans j8
    have i9 := (hb2.cell (World.block_lt_of_cell? _ _ j9)).trans j9
    have i10 := (hb2.cell (World.block_lt_of_cell? _ _ j10)).trans j10
    have i11 := (hb2.cell (World.block_lt_of_cell? _ _ j11)).trans j11
    have x0 := (hb2.cell (World.block_lt_of_cell? _ _ y0)).trans y0
    have xf0 := (hb2.frozen (p := ⟨w.heap.size + 1, 0, none⟩) (World.block_lt_of_cell? _ _ y0)).trans yf0
    have x1 := (hb2.cell (World.block_lt_of_cell? _ _ y1)).trans y1
    have xf1 := (hb2.frozen (p := ⟨w.heap.size + 1, 1, none⟩) (World.block_lt_of_cell? _ _ y1)).trans yf1
    have x2 := (hb2.cell (World.block_lt_of_cell? _ _ y2)).trans y2
    have xf2 := (hb2.frozen (p := ⟨w.heap.size + 1, 2, none⟩) (World.block_lt_of_cell? _ _ y2)).trans yf2
    have x3 := (hb2.cell (World.block_lt_of_cell? _ _ y3)).trans y3
    have xf3 := (hb2.frozen (p := ⟨w.heap.size + 1, 3, none⟩) (World.block_lt_of_cell? _ _ y3)).trans yf3
    have x4 := (hb2.cell (World.block_lt_of_cell? _ _ y4)).trans y4
    have xf4 := (hb2.frozen (p := ⟨w.heap.size + 1, 4, none⟩) (World.block_lt_of_cell? _ _ y4)).trans yf4
    have x5 := (hb2.cell (World.block_lt_of_cell? _ _ y5)).trans y5
    have xf5 := (hb2.frozen (p := ⟨w.heap.size + 1, 5, none⟩) (World.block_lt_of_cell? _ _ y5)).trans yf5
    have x6 := (hb2.cell (World.block_lt_of_cell? _ _ y6)).trans y6
    have xf6 := (hb2.frozen (p := ⟨w.heap.size + 1, 6, none⟩) (World.block_lt_of_cell? _ _ y6)).trans yf6
    have hbw2 := hbw1.trans (hb2.mono hbw1.size)
    clear j0 j1 j2 j3 j4 j5 j6 j7 j8 j9 j10 j11 y0 yf0 y1 yf1 y2 yf2 y3 yf3 y4 yf4 y5 yf5 y6 yf6
    clear hb2 hbw1
    go_wp2_with fail
    refine Calls.mono (implMapsOK ma S mc _ (hS.moved hbw2) hfS hms) ?_
    rintro e w3 ⟨b, rfl, hiff, hb3⟩
    have g0 := (hb3.cell (World.block_lt_of_cell? _ _ i0)).trans i0
    have g1 := (hb3.cell (World.block_lt_of_cell? _ _ i1)).trans i1
    have g2 := (hb3.cell (World.block_lt_of_cell? _ _ i2)).trans i2
    have g3 := (hb3.cell (World.block_lt_of_cell? _ _ i3)).trans i3
    have g4 := (hb3.cell (World.block_lt_of_cell? _ _ i4)).trans i4
    have g5 := (hb3.cell (World.block_lt_of_cell? _ _ i5)).trans i5
    have g6 := (hb3.cell (World.block_lt_of_cell? _ _ i6)).trans i6
    have g7 := (hb3.cell (World.block_lt_of_cell? _ _ i7)).trans i7
    have g8 := (hb3.cell (World.block_lt_of_cell? _ _ i8)).trans i8
    have g9 := (hb3.cell (World.block_lt_of_cell? _ _ i9)).trans i9
    have g10 := (hb3.cell (World.block_lt_of_cell? _ _ i10)).trans i10
    have g11 := (hb3.cell (World.block_lt_of_cell? _ _ i11)).trans i11
    have v0 := (hb3.cell (World.block_lt_of_cell? _ _ x0)).trans x0
    have vf0 := (hb3.frozen (p := ⟨w.heap.size + 1, 0, none⟩) (World.block_lt_of_cell? _ _ x0)).trans xf0
    have v1 := (hb3.cell (World.block_lt_of_cell? _ _ x1)).trans x1
    have vf1 := (hb3.frozen (p := ⟨w.heap.size + 1, 1, none⟩) (World.block_lt_of_cell? _ _ x1)).trans xf1
    have v2 := (hb3.cell (World.block_lt_of_cell? _ _ x2)).trans x2
    have vf2 := (hb3.frozen (p := ⟨w.heap.size + 1, 2, none⟩) (World.block_lt_of_cell? _ _ x2)).trans xf2
    have v3 := (hb3.cell (World.block_lt_of_cell? _ _ x3)).trans x3
    have vf3 := (hb3.frozen (p := ⟨w.heap.size + 1, 3, none⟩) (World.block_lt_of_cell? _ _ x3)).trans xf3
    have v4 := (hb3.cell (World.block_lt_of_cell? _ _ x4)).trans x4
    have vf4 := (hb3.frozen (p := ⟨w.heap.size + 1, 4, none⟩) (World.block_lt_of_cell? _ _ x4)).trans xf4
    have v5 := (hb3.cell (World.block_lt_of_cell? _ _ x5)).trans x5
    have vf5 := (hb3.frozen (p := ⟨w.heap.size + 1, 5, none⟩) (World.block_lt_of_cell? _ _ x5)).trans xf5
    have v6 := (hb3.cell (World.block_lt_of_cell? _ _ x6)).trans x6
    have vf6 := (hb3.frozen (p := ⟨w.heap.size + 1, 6, none⟩) (World.block_lt_of_cell? _ _ x6)).trans xf6
    have hbw3 := hbw2.trans (hb3.mono hbw2.size)
    clear i0 i1 i2 i3 i4 i5 i6 i7 i8 i9 i10 i11 x0 xf0 x1 xf1 x2 xf2 x3 xf3 x4 xf4 x5 xf5 x6 xf6
    clear hb3 hbw2
    obtain rfl : b = true := hiff.2 hM.1
    have hle := hM.2
    have hS256 : (S.length : Int) ≤ 256 := by have := hM.1.1; omega
    clear hiff
    go_wp2_with fail
    refine Calls.mono (nextFrame_is pol tur (some ⟨bp, op, none⟩) pk pc va V vc ma S mc mx mp wt ed cl fm pl _ (hV.moved hbw3) hfV hl (hS.moved hbw3) hfS hM.1.1 hM.1.2 m0 (by have := hr.2.2.2.2; omega) w0 (by have := hr.2.2.2.2; omega) e0 (by have := hr.2.2.2.2; omega) (by have := hr.2.2.1; omega) (by have := hr.2.2.1; omega) _ _ _ _ _ HNX.out) ?_
    rintro e w4 ⟨rfl, hb4⟩
    have i0 := (hb4.cell (World.block_lt_of_cell? _ _ g0)).trans g0
    have i1 := (hb4.cell (World.block_lt_of_cell? _ _ g1)).trans g1
    have i2 := (hb4.cell (World.block_lt_of_cell? _ _ g2)).trans g2
    have i3 := (hb4.cell (World.block_lt_of_cell? _ _ g3)).trans g3
    have i4 := (hb4.cell (World.block_lt_of_cell? _ _ g4)).trans g4
    have i5 := (hb4.cell (World.block_lt_of_cell? _ _ g5)).trans g5
    have i6 := (hb4.cell (World.block_lt_of_cell? _ _ g6)).trans g6
    have i7 := (hb4.cell (World.block_lt_of_cell? _ _ g7)).trans g7
    have i8 := (hb4.cell (World.block_lt_of_cell? _ _ g8)).trans g8
    have i9 := (hb4.cell (World.block_lt_of_cell? _ _ g9)).trans g9
    have i10 := (hb4.cell (World.block_lt_of_cell? _ _ g10)).trans g10
    have i11 := (hb4.cell (World.block_lt_of_cell? _ _ g11)).trans g11
    have x0 := (hb4.cell (World.block_lt_of_cell? _ _ v0)).trans v0
    have xf0 := (hb4.frozen (p := ⟨w.heap.size + 1, 0, none⟩) (World.block_lt_of_cell? _ _ v0)).trans vf0
    have x1 := (hb4.cell (World.block_lt_of_cell? _ _ v1)).trans v1
    have xf1 := (hb4.frozen (p := ⟨w.heap.size + 1, 1, none⟩) (World.block_lt_of_cell? _ _ v1)).trans vf1
    have x2 := (hb4.cell (World.block_lt_of_cell? _ _ v2)).trans v2
    have xf2 := (hb4.frozen (p := ⟨w.heap.size + 1, 2, none⟩) (World.block_lt_of_cell? _ _ v2)).trans vf2
    have x3 := (hb4.cell (World.block_lt_of_cell? _ _ v3)).trans v3
    have xf3 := (hb4.frozen (p := ⟨w.heap.size + 1, 3, none⟩) (World.block_lt_of_cell? _ _ v3)).trans vf3
    have x4 := (hb4.cell (World.block_lt_of_cell? _ _ v4)).trans v4
    have xf4 := (hb4.frozen (p := ⟨w.heap.size + 1, 4, none⟩) (World.block_lt_of_cell? _ _ v4)).trans vf4
    have x5 := (hb4.cell (World.block_lt_of_cell? _ _ v5)).trans v5
    have xf5 := (hb4.frozen (p := ⟨w.heap.size + 1, 5, none⟩) (World.block_lt_of_cell? _ _ v5)).trans vf5
    have x6 := (hb4.cell (World.block_lt_of_cell? _ _ v6)).trans v6
    have xf6 := (hb4.frozen (p := ⟨w.heap.size + 1, 6, none⟩) (World.block_lt_of_cell? _ _ v6)).trans vf6
    have hbw4 := hbw3.trans (hb4.mono hbw3.size)
    clear g0 g1 g2 g3 g4 g5 g6 g7 g8 g9 g10 g11 v0 vf0 v1 vf1 v2 vf2 v3 vf3 v4 vf4 v5 vf5 v6 vf6
    clear hb4 hbw3 hr hM HNX
    have bl : w.heap.size + 1 < w4.heap.size := World.block_lt_of_cell? _ _ x0
    have bl2 : ¬ w.heap.size + 1 = w4.heap.size := by omega
    have bl3 : ¬ w4.heap.size = w.heap.size + 1 := by omega
    have bl4 : ¬ w.heap.size = w4.heap.size := by omega
    have bl5 : ¬ w4.heap.size = w.heap.size := by omega
    have bl6 : w.heap.size < w4.heap.size := by omega
    have hb7 := below_set7 hbw4 (w.heap.size + 1) (by omega)
    go_wp2
    exact bodyPost_ret (v := .tuple #[.agg #[.int .i64 0, .int .i64 0, .int .u64 0, .int .i64 0, .slice none 0 0, .int .i64 tur, .int .i64 0], .int .i64 0]) (by simp [results, Try.results28, go_sem, bl, x0, x1, x2, x3, x4, x5, x6]) rfl ⟨none, 0, rfl, World.ownsRow_nil _ _ _ _, below_then (hb7 _ _ _ _ _ _ _) _⟩
end Go.Proofs.Ytlagaiekoahjnaa
