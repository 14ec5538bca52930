import Derived.Test.YtlagaiekoahjnaaSpecPlanF
import Derived.Test.YtlagaiekoahjnaaSpecPlanD
import Derived.Test.YtlagaiekoahjnaaSpecPlanA
import Derived.Test.YtlagaiekoahjnaaPlanSome
namespace Go.Proofs.Ytlagaiekoahjnaa
open Go.ChangeShapes Go.WideShapes Go.ChangeAt Go.RowKit
set_option linter.unusedVariables false

set_option maxRecDepth 100000 in
set_option maxHeartbeats 1000000 in
theorem specSend_code (pol tur : Int) (pa : Option Addr) (pk : List Int) (pc : Nat) (va : Option Addr) (V : Vws) (vc : Nat) (ma : Option Addr) (S : Mps) (mc : Nat) (mx mp wt ed cl fm pl : Int) (c : Int) (hc0 : ¬ c = 0) (hc : CodeIs 58 pol tur pa pk pc va V vc ma S mc mx mp wt ed cl fm pl c) : GivesS 27 pol tur pa pk pc va V vc ma S mc mx mp wt ed cl fm pl 0 0 0 0 [] 0 0 c := by
  intro w hP hV hS
  obtain ⟨W, hW⟩ : ∃ W, W = (w.alloc (.cells #[.int .i64 pol, .int .i64 tur, .slice pa pk.length pc, .slice va V.length vc, .slice ma S.length mc, .int .i64 mx, .int .u64 mp, .int .u64 wt, .int .u64 ed, .int .i64 cl, .int .i64 fm, .int .i64 pl] 48)).alloc (.cells #[.int .i64 0, .int .i64 0, .int .u64 0, .int .i64 0, .slice none 0 0, .int .i64 0, .int .i64 0] 51) := ⟨_, rfl⟩
  have hbW : Below w.heap.size w W := by rw [hW]; exact ((Below.refl _ _).alloc (Nat.le_refl _) _).alloc (by simp) _
  have k0 : W.cell? ⟨w.heap.size, 0, none⟩ = some (.int .i64 pol) := by rw [hW]; simp
  have k1 : W.cell? ⟨w.heap.size, 1, none⟩ = some (.int .i64 tur) := by rw [hW]; simp
  have k2 : W.cell? ⟨w.heap.size, 2, none⟩ = some (.slice pa pk.length pc) := by rw [hW]; simp
  have k3 : W.cell? ⟨w.heap.size, 3, none⟩ = some (.slice va V.length vc) := by rw [hW]; simp
  have k4 : W.cell? ⟨w.heap.size, 4, none⟩ = some (.slice ma S.length mc) := by rw [hW]; simp
  have k5 : W.cell? ⟨w.heap.size, 5, none⟩ = some (.int .i64 mx) := by rw [hW]; simp
  have k6 : W.cell? ⟨w.heap.size, 6, none⟩ = some (.int .u64 mp) := by rw [hW]; simp
  have k7 : W.cell? ⟨w.heap.size, 7, none⟩ = some (.int .u64 wt) := by rw [hW]; simp
  have k8 : W.cell? ⟨w.heap.size, 8, none⟩ = some (.int .u64 ed) := by rw [hW]; simp
  have k9 : W.cell? ⟨w.heap.size, 9, none⟩ = some (.int .i64 cl) := by rw [hW]; simp
  have k10 : W.cell? ⟨w.heap.size, 10, none⟩ = some (.int .i64 fm) := by rw [hW]; simp
  have k11 : W.cell? ⟨w.heap.size, 11, none⟩ = some (.int .i64 pl) := by rw [hW]; simp
  have z0 : W.cell? ⟨w.heap.size + 1, 0, none⟩ = some (.int .i64 0) := by rw [hW]; simp
  have zf0 : W.frozen? ⟨w.heap.size + 1, 0, none⟩ = false := by rw [hW]; simp
  have z1 : W.cell? ⟨w.heap.size + 1, 1, none⟩ = some (.int .i64 0) := by rw [hW]; simp
  have zf1 : W.frozen? ⟨w.heap.size + 1, 1, none⟩ = false := by rw [hW]; simp
  have z2 : W.cell? ⟨w.heap.size + 1, 2, none⟩ = some (.int .u64 0) := by rw [hW]; simp
  have zf2 : W.frozen? ⟨w.heap.size + 1, 2, none⟩ = false := by rw [hW]; simp
  have z3 : W.cell? ⟨w.heap.size + 1, 3, none⟩ = some (.int .i64 0) := by rw [hW]; simp
  have zf3 : W.frozen? ⟨w.heap.size + 1, 3, none⟩ = false := by rw [hW]; simp
  have z4 : W.cell? ⟨w.heap.size + 1, 4, none⟩ = some (.slice none 0 0) := by rw [hW]; simp
  have zf4 : W.frozen? ⟨w.heap.size + 1, 4, none⟩ = false := by rw [hW]; simp
  have z5 : W.cell? ⟨w.heap.size + 1, 5, none⟩ = some (.int .i64 0) := by rw [hW]; simp
  have zf5 : W.frozen? ⟨w.heap.size + 1, 5, none⟩ = false := by rw [hW]; simp
  have z6 : W.cell? ⟨w.heap.size + 1, 6, none⟩ = some (.int .i64 0) := by rw [hW]; simp
  have zf6 : W.frozen? ⟨w.heap.size + 1, 6, none⟩ = false := by rw [hW]; simp
  have hVW := hV.moved hbW
  have hSW := hS.moved hbW
  have hPW := hP.moved hbW
  go_enter Try.func27, Try.ntmps27
  go_wp2_with fail
  rw [← hW]
  refine Calls.mono (hc W hVW hSW) ?_
  rintro e w1 ⟨rfl, hb1⟩
  have j0 := (hb1.cell (World.block_lt_of_cell? _ _ k0)).trans k0
  have j1 := (hb1.cell (World.block_lt_of_cell? _ _ k1)).trans k1
  have j2 := (hb1.cell (World.block_lt_of_cell? _ _ k2)).trans k2
  have j3 := (hb1.cell (World.block_lt_of_cell? _ _ k3)).trans k3
  have j4 := (hb1.cell (World.block_lt_of_cell? _ _ k4)).trans k4
  have j5 := (hb1.cell (World.block_lt_of_cell? _ _ k5)).trans k5
  have j6 := (hb1.cell (World.block_lt_of_cell? _ _ k6)).trans k6
  have j7 := (hb1.cell (World.block_lt_of_cell? _ _ k7)).trans k7
  have j8 := (hb1.cell (World.block_lt_of_cell? _ _ k8)).trans k8
  have j9 := (hb1.cell (World.block_lt_of_cell? _ _ k9)).trans k9
  have j10 := (hb1.cell (World.block_lt_of_cell? _ _ k10)).trans k10
  have j11 := (hb1.cell (World.block_lt_of_cell? _ _ k11)).trans k11
  have y0 := (hb1.cell (World.block_lt_of_cell? _ _ z0)).trans z0
  have yf0 := (hb1.frozen (p := ⟨w.heap.size + 1, 0, none⟩) (World.block_lt_of_cell? _ _ z0)).trans zf0
  have y1 := (hb1.cell (World.block_lt_of_cell? _ _ z1)).trans z1
  have yf1 := (hb1.frozen (p := ⟨w.heap.size + 1, 1, none⟩) (World.block_lt_of_cell? _ _ z1)).trans zf1
  have y2 := (hb1.cell (World.block_lt_of_cell? _ _ z2)).trans z2
  have yf2 := (hb1.frozen (p := ⟨w.heap.size + 1, 2, none⟩) (World.block_lt_of_cell? _ _ z2)).trans zf2
  have y3 := (hb1.cell (World.block_lt_of_cell? _ _ z3)).trans z3
  have yf3 := (hb1.frozen (p := ⟨w.heap.size + 1, 3, none⟩) (World.block_lt_of_cell? _ _ z3)).trans zf3
  have y4 := (hb1.cell (World.block_lt_of_cell? _ _ z4)).trans z4
  have yf4 := (hb1.frozen (p := ⟨w.heap.size + 1, 4, none⟩) (World.block_lt_of_cell? _ _ z4)).trans zf4
  have y5 := (hb1.cell (World.block_lt_of_cell? _ _ z5)).trans z5
  have yf5 := (hb1.frozen (p := ⟨w.heap.size + 1, 5, none⟩) (World.block_lt_of_cell? _ _ z5)).trans zf5
  have y6 := (hb1.cell (World.block_lt_of_cell? _ _ z6)).trans z6
  have yf6 := (hb1.frozen (p := ⟨w.heap.size + 1, 6, none⟩) (World.block_lt_of_cell? _ _ z6)).trans zf6
  have hbw1 := hbW.trans (hb1.mono hbW.size)
  have s1 : w.heap.size + 1 < w1.heap.size := World.block_lt_of_cell? _ _ y0
  clear hW hVW hSW hPW hb1 k0 k1 k2 k3 k4 k5 k6 k7 k8 k9 k10 k11 z0 zf0 z1 zf1 z2 zf2 z3 zf3 z4 zf4 z5 zf5 z6 zf6
  have hc1 : (c == 0) = false := by simpa using hc0
  go_wp2
  exact bodyPost_ret (v := .tuple #[.agg #[.int .i64 0, .int .i64 0, .int .u64 0, .int .i64 0, .slice none 0 0, .int .i64 0, .int .i64 0], .int .i64 c]) (by simp [results, Try.results27, go_sem, y0, y1, y2, y3, y4, y5, y6]) rfl ⟨none, 0, rfl, World.ownsRow_nil _ _ _ _, below_set7 hbw1 (w.heap.size + 1) (by omega) _ _ _ _ _ _ _⟩

set_option maxRecDepth 100000 in
set_option maxHeartbeats 1000000 in
theorem specSend_ok (pol tur : Int) (pa : Option Addr) (pk : List Int) (pc : Nat) (va : Option Addr) (V : Vws) (vc : Nat) (ma : Option Addr) (S : Mps) (mc : Nat) (mx mp wt ed cl fm pl : Int) (kd pcx of ln : Int) (T : List Int) (tn us : Int) (hc : CodeIs 58 pol tur pa pk pc va V vc ma S mc mx mp wt ed cl fm pl 0) (hA : GivesA 59 pol tur pa pk pc va V vc ma S mc mx mp wt ed cl fm pl kd pcx of ln T tn us) : GivesS 27 pol tur pa pk pc va V vc ma S mc mx mp wt ed cl fm pl kd pcx of ln T tn us 0 := by
  intro w hP hV hS
  obtain ⟨W, hW⟩ : ∃ W, W = (w.alloc (.cells #[.int .i64 pol, .int .i64 tur, .slice pa pk.length pc, .slice va V.length vc, .slice ma S.length mc, .int .i64 mx, .int .u64 mp, .int .u64 wt, .int .u64 ed, .int .i64 cl, .int .i64 fm, .int .i64 pl] 48)).alloc (.cells #[.int .i64 0, .int .i64 0, .int .u64 0, .int .i64 0, .slice none 0 0, .int .i64 0, .int .i64 0] 51) := ⟨_, rfl⟩
  have hbW : Below w.heap.size w W := by rw [hW]; exact ((Below.refl _ _).alloc (Nat.le_refl _) _).alloc (by simp) _
  have k0 : W.cell? ⟨w.heap.size, 0, none⟩ = some (.int .i64 pol) := by rw [hW]; simp
  have k1 : W.cell? ⟨w.heap.size, 1, none⟩ = some (.int .i64 tur) := by rw [hW]; simp
  have k2 : W.cell? ⟨w.heap.size, 2, none⟩ = some (.slice pa pk.length pc) := by rw [hW]; simp
  have k3 : W.cell? ⟨w.heap.size, 3, none⟩ = some (.slice va V.length vc) := by rw [hW]; simp
  have k4 : W.cell? ⟨w.heap.size, 4, none⟩ = some (.slice ma S.length mc) := by rw [hW]; simp
  have k5 : W.cell? ⟨w.heap.size, 5, none⟩ = some (.int .i64 mx) := by rw [hW]; simp
  have k6 : W.cell? ⟨w.heap.size, 6, none⟩ = some (.int .u64 mp) := by rw [hW]; simp
  have k7 : W.cell? ⟨w.heap.size, 7, none⟩ = some (.int .u64 wt) := by rw [hW]; simp
  have k8 : W.cell? ⟨w.heap.size, 8, none⟩ = some (.int .u64 ed) := by rw [hW]; simp
  have k9 : W.cell? ⟨w.heap.size, 9, none⟩ = some (.int .i64 cl) := by rw [hW]; simp
  have k10 : W.cell? ⟨w.heap.size, 10, none⟩ = some (.int .i64 fm) := by rw [hW]; simp
  have k11 : W.cell? ⟨w.heap.size, 11, none⟩ = some (.int .i64 pl) := by rw [hW]; simp
  have z0 : W.cell? ⟨w.heap.size + 1, 0, none⟩ = some (.int .i64 0) := by rw [hW]; simp
  have zf0 : W.frozen? ⟨w.heap.size + 1, 0, none⟩ = false := by rw [hW]; simp
  have z1 : W.cell? ⟨w.heap.size + 1, 1, none⟩ = some (.int .i64 0) := by rw [hW]; simp
  have zf1 : W.frozen? ⟨w.heap.size + 1, 1, none⟩ = false := by rw [hW]; simp
  have z2 : W.cell? ⟨w.heap.size + 1, 2, none⟩ = some (.int .u64 0) := by rw [hW]; simp
  have zf2 : W.frozen? ⟨w.heap.size + 1, 2, none⟩ = false := by rw [hW]; simp
  have z3 : W.cell? ⟨w.heap.size + 1, 3, none⟩ = some (.int .i64 0) := by rw [hW]; simp
  have zf3 : W.frozen? ⟨w.heap.size + 1, 3, none⟩ = false := by rw [hW]; simp
  have z4 : W.cell? ⟨w.heap.size + 1, 4, none⟩ = some (.slice none 0 0) := by rw [hW]; simp
  have zf4 : W.frozen? ⟨w.heap.size + 1, 4, none⟩ = false := by rw [hW]; simp
  have z5 : W.cell? ⟨w.heap.size + 1, 5, none⟩ = some (.int .i64 0) := by rw [hW]; simp
  have zf5 : W.frozen? ⟨w.heap.size + 1, 5, none⟩ = false := by rw [hW]; simp
  have z6 : W.cell? ⟨w.heap.size + 1, 6, none⟩ = some (.int .i64 0) := by rw [hW]; simp
  have zf6 : W.frozen? ⟨w.heap.size + 1, 6, none⟩ = false := by rw [hW]; simp
  have hVW := hV.moved hbW
  have hSW := hS.moved hbW
  have hPW := hP.moved hbW
  go_enter Try.func27, Try.ntmps27
  go_wp2_with fail
  rw [← hW]
  refine Calls.mono (hc W hVW hSW) ?_
  rintro e w1 ⟨rfl, hb1⟩
  have j0 := (hb1.cell (World.block_lt_of_cell? _ _ k0)).trans k0
  have j1 := (hb1.cell (World.block_lt_of_cell? _ _ k1)).trans k1
  have j2 := (hb1.cell (World.block_lt_of_cell? _ _ k2)).trans k2
  have j3 := (hb1.cell (World.block_lt_of_cell? _ _ k3)).trans k3
  have j4 := (hb1.cell (World.block_lt_of_cell? _ _ k4)).trans k4
  have j5 := (hb1.cell (World.block_lt_of_cell? _ _ k5)).trans k5
  have j6 := (hb1.cell (World.block_lt_of_cell? _ _ k6)).trans k6
  have j7 := (hb1.cell (World.block_lt_of_cell? _ _ k7)).trans k7
  have j8 := (hb1.cell (World.block_lt_of_cell? _ _ k8)).trans k8
  have j9 := (hb1.cell (World.block_lt_of_cell? _ _ k9)).trans k9
  have j10 := (hb1.cell (World.block_lt_of_cell? _ _ k10)).trans k10
  have j11 := (hb1.cell (World.block_lt_of_cell? _ _ k11)).trans k11
  have y0 := (hb1.cell (World.block_lt_of_cell? _ _ z0)).trans z0
  have yf0 := (hb1.frozen (p := ⟨w.heap.size + 1, 0, none⟩) (World.block_lt_of_cell? _ _ z0)).trans zf0
  have y1 := (hb1.cell (World.block_lt_of_cell? _ _ z1)).trans z1
  have yf1 := (hb1.frozen (p := ⟨w.heap.size + 1, 1, none⟩) (World.block_lt_of_cell? _ _ z1)).trans zf1
  have y2 := (hb1.cell (World.block_lt_of_cell? _ _ z2)).trans z2
  have yf2 := (hb1.frozen (p := ⟨w.heap.size + 1, 2, none⟩) (World.block_lt_of_cell? _ _ z2)).trans zf2
  have y3 := (hb1.cell (World.block_lt_of_cell? _ _ z3)).trans z3
  have yf3 := (hb1.frozen (p := ⟨w.heap.size + 1, 3, none⟩) (World.block_lt_of_cell? _ _ z3)).trans zf3
  have y4 := (hb1.cell (World.block_lt_of_cell? _ _ z4)).trans z4
  have yf4 := (hb1.frozen (p := ⟨w.heap.size + 1, 4, none⟩) (World.block_lt_of_cell? _ _ z4)).trans zf4
  have y5 := (hb1.cell (World.block_lt_of_cell? _ _ z5)).trans z5
  have yf5 := (hb1.frozen (p := ⟨w.heap.size + 1, 5, none⟩) (World.block_lt_of_cell? _ _ z5)).trans zf5
  have y6 := (hb1.cell (World.block_lt_of_cell? _ _ z6)).trans z6
  have yf6 := (hb1.frozen (p := ⟨w.heap.size + 1, 6, none⟩) (World.block_lt_of_cell? _ _ z6)).trans zf6
  have hbw1 := hbW.trans (hb1.mono hbW.size)
  have s1 : w.heap.size + 1 < w1.heap.size := World.block_lt_of_cell? _ _ y0
  clear hW hVW hSW hPW hb1 k0 k1 k2 k3 k4 k5 k6 k7 k8 k9 k10 k11 z0 zf0 z1 zf1 z2 zf2 z3 zf3 z4 zf4 z5 zf5 z6 zf6
  go_wp2_with fail
  refine Calls.mono (hA w1 (hP.moved hbw1) (hV.moved hbw1) (hS.moved hbw1)) ?_
  rintro e w2 ⟨av, cp, rfl, ho, hb2⟩
  have x0 := (hb2.cell (World.block_lt_of_cell? _ _ y0)).trans y0
  have xf0 := (hb2.frozen (p := ⟨w.heap.size + 1, 0, none⟩) (World.block_lt_of_cell? _ _ y0)).trans yf0
  have x1 := (hb2.cell (World.block_lt_of_cell? _ _ y1)).trans y1
  have xf1 := (hb2.frozen (p := ⟨w.heap.size + 1, 1, none⟩) (World.block_lt_of_cell? _ _ y1)).trans yf1
  have x2 := (hb2.cell (World.block_lt_of_cell? _ _ y2)).trans y2
  have xf2 := (hb2.frozen (p := ⟨w.heap.size + 1, 2, none⟩) (World.block_lt_of_cell? _ _ y2)).trans yf2
  have x3 := (hb2.cell (World.block_lt_of_cell? _ _ y3)).trans y3
  have xf3 := (hb2.frozen (p := ⟨w.heap.size + 1, 3, none⟩) (World.block_lt_of_cell? _ _ y3)).trans yf3
  have x4 := (hb2.cell (World.block_lt_of_cell? _ _ y4)).trans y4
  have xf4 := (hb2.frozen (p := ⟨w.heap.size + 1, 4, none⟩) (World.block_lt_of_cell? _ _ y4)).trans yf4
  have x5 := (hb2.cell (World.block_lt_of_cell? _ _ y5)).trans y5
  have xf5 := (hb2.frozen (p := ⟨w.heap.size + 1, 5, none⟩) (World.block_lt_of_cell? _ _ y5)).trans yf5
  have x6 := (hb2.cell (World.block_lt_of_cell? _ _ y6)).trans y6
  have xf6 := (hb2.frozen (p := ⟨w.heap.size + 1, 6, none⟩) (World.block_lt_of_cell? _ _ y6)).trans yf6
  have hbw2 := hbw1.trans (hb2.mono hbw1.size)
  have HROW := own_set7 ho (w.heap.size + 1) s1
  have hz := hbw1.size
  clear hb2 ho y0 yf0 y1 yf1 y2 yf2 y3 yf3 y4 yf4 y5 yf5 y6 yf6
  go_wp2
  exact bodyPost_ret (v := .tuple #[.agg #[.int .i64 kd, .int .i64 pcx, .int .u64 of, .int .i64 ln, .slice av T.length cp, .int .i64 tn, .int .i64 us], .int .i64 0]) (by simp [results, Try.results27, go_sem, x0, x1, x2, x3, x4, x5, x6]) rfl ⟨av, cp, rfl, owned_base (HROW _ _ _ _ _ _ _) hz, below_set7 hbw2 (w.heap.size + 1) (by omega) _ _ _ _ _ _ _⟩

/-- What PlanSend gives, wherever its lists lie. -/
def GivesB (fn : Nat) (pol tur : Int) (pk : List Int) (V : Vws) (S : Mps) (mx mp wt ed cl fm pl : Int) (kd pcx of ln : Int) (T : List Int) (tn us c : Int) : Prop :=
  ∀ (pa : Option Addr) (pc : Nat) (va : Option Addr) (vc : Nat) (ma : Option Addr) (mc : Nat), V.length ≤ vc → vc ≤ 9223372036854775807 → (va = none → vc = 0) → GivesS fn pol tur pa pk pc va V vc ma S mc mx mp wt ed cl fm pl kd pcx of ln T tn us c

theorem bothPlan (pol tur : Int) (pk : List Int) (V : Vws) (S : Mps) (mx mp wt ed cl fm pl : Int) (hfV : FitsV V) (hfS : FitsM S) (hvm : V.length ≤ 9223372036854775807) (hpm : pk.length ≤ 9223372036854775807) (hms : S.length ≤ 9223372036854775807) (m0 : 0 ≤ mp) (w0 : 0 ≤ wt) (e0 : 0 ≤ ed) :
    ∃ (kd pcx of ln : Int) (T : List Int) (tn us c : Int), T.length ≤ 8 ∧ GivesB 27 pol tur pk V S mx mp wt ed cl fm pl kd pcx of ln T tn us c ∧ GivesB 28 pol tur pk V S mx mp wt ed cl fm pl kd pcx of ln T tn us c := by
  by_cases hp : 1 ≤ pol ∧ pol ≤ 4
  · by_cases hv : (1 ≤ V.length ∧ V.length ≤ 8) ∧ ValidV V
    · by_cases ht : 0 ≤ tur ∧ tur < V.length
      · obtain ⟨l0, tn0, _, _, hG0⟩ := bothChoice pol tur (pk.getD 0 0) V 0 hfV hp hv ht (by omega)
        by_cases hr : OkR tur V.length pk.length mx mp wt ed cl fm pl
        · by_cases hM : (S.length ≤ 256 ∧ Valid S) ∧ (S.length : Int) ≤ mx
          · have hr' := hr
            obtain ⟨_, _, ⟨l1, l2⟩, _, _, w1, e1, _⟩ := hr'
            have code := fun pa pc va vc ma mc => (codeM pol tur pa pk pc va V vc ma S mc mx mp wt ed cl fm pl hfV hfS hms hp hv hr).2 hM
            obtain ⟨kd, pcx, of, ln, br, hN⟩ := next_exists hM.1.2 V mx mp wt ed cl fm pl
            have hN' := hN
            rcases hN.is with ⟨i, hi, c2, c4, hn, hC, hq, hno, rfl, rfl⟩ | ⟨hno, hx, he, h1, h2, rfl, rfl, rfl, rfl, rfl⟩ | ⟨hno, hx, he, h, h1, h2, h3, rfl, rfl, rfl, rfl, rfl⟩ | ⟨hno, h, rfl, rfl, rfl, rfl, rfl⟩
            · obtain ⟨l, tn, h8, hC1, hG2⟩ := bothChoice pol tur (pk.getD 0 0) V br hfV hp hv ht hC
              refine ⟨1, (i : Int), of, ln, nums l, tn, (if pol = 4 ∧ pk ≠ [] then 1 else 0), 0, by rw [nums_length]; exact h8, ?_, ?_⟩
              · intro pa pc va vc ma mc a b c
                exact specSend_ok pol tur pa pk pc va V vc ma S mc mx mp wt ed cl fm pl _ _ _ _ _ _ _ (code _ _ _ _ _ _) (spec_again pol tur pa pk pc va V vc ma S mc mx mp wt ed cl fm pl a b c hfV hv.1.2 hfS hM.1.2 hM.1.1 i hi of ln c2 c4 br hn hC hq hno l tn _ hC1 rfl)
              · intro pa pc va vc ma mc a b c
                exact top_some pol tur pa pk pc va V vc ma S mc mx mp wt ed cl fm pl a b c hpm _ tn0 hG0 hfV hv.1.2 hfS hms m0 w0 e0 hr hM _ _ _ _ _ (by omega) hN' _ tn _ hG2 rfl
            · obtain ⟨l, tn, h8, hC1, hG2⟩ := bothChoice pol tur (pk.getD 0 0) V 0 hfV hp hv ht (by omega)
              refine ⟨2, 0, mp, min pl (min (wt - mp) (ed - mp)), nums l, tn, (if pol = 4 ∧ pk ≠ [] then 1 else 0), 0, by rw [nums_length]; exact h8, ?_, ?_⟩
              · intro pa pc va vc ma mc a b c
                exact specSend_ok pol tur pa pk pc va V vc ma S mc mx mp wt ed cl fm pl _ _ _ _ _ _ _ (code _ _ _ _ _ _) (spec_data pol tur pa pk pc va V vc ma S mc mx mp wt ed cl fm pl a b c hfV hv.1.2 hfS hM.1.2 hM.1.1 hno hx he h1 h2 m0 w1 e1 l1 l2 _ rfl l tn _ hC1 rfl)
              · intro pa pc va vc ma mc a b c
                exact top_some pol tur pa pk pc va V vc ma S mc mx mp wt ed cl fm pl a b c hpm _ tn0 hG0 hfV hv.1.2 hfS hms m0 w0 e0 hr hM _ _ _ _ _ (by omega) hN' _ tn _ hG2 rfl
            · obtain ⟨l, tn, h8, hC1, hG2⟩ := bothChoice pol tur (pk.getD 0 0) V 0 hfV hp hv ht (by omega)
              refine ⟨3, 0, wt, 0, nums l, tn, (if pol = 4 ∧ pk ≠ [] then 1 else 0), 0, by rw [nums_length]; exact h8, ?_, ?_⟩
              · intro pa pc va vc ma mc a b c
                exact specSend_ok pol tur pa pk pc va V vc ma S mc mx mp wt ed cl fm pl _ _ _ _ _ _ _ (code _ _ _ _ _ _) (spec_fin pol tur pa pk pc va V vc ma S mc mx mp wt ed cl fm pl a b c hfV hv.1.2 hfS hM.1.2 hM.1.1 hno hx he h h1 h2 h3 l tn _ hC1 rfl)
              · intro pa pc va vc ma mc a b c
                exact top_some pol tur pa pk pc va V vc ma S mc mx mp wt ed cl fm pl a b c hpm _ tn0 hG0 hfV hv.1.2 hfS hms m0 w0 e0 hr hM _ _ _ _ _ (by omega) hN' _ tn _ hG2 rfl
            · refine ⟨0, 0, 0, 0, [], tur, 0, 0, by simp, ?_, ?_⟩
              · intro pa pc va vc ma mc a b c
                exact specSend_ok pol tur pa pk pc va V vc ma S mc mx mp wt ed cl fm pl _ _ _ _ _ _ _ (code _ _ _ _ _ _) (spec_none pol tur pa pk pc va V vc ma S mc mx mp wt ed cl fm pl a b c hfV hv.1.2 hfS hM.1.2 hM.1.1 hno h)
              · intro pa pc va vc ma mc a b c
                exact top_none pol tur pa pk pc va V vc ma S mc mx mp wt ed cl fm pl a b c hpm _ tn0 hG0 hfV hv.1.2 hfS hms m0 w0 e0 hr hM hN'
          · exact ⟨0, 0, 0, 0, [], 0, 0, 1, by simp, fun pa pc va vc ma mc a b c => specSend_code pol tur pa pk pc va V vc ma S mc mx mp wt ed cl fm pl 1 (by omega) ((codeM pol tur pa pk pc va V vc ma S mc mx mp wt ed cl fm pl hfV hfS hms hp hv hr).1 hM), fun pa pc va vc ma mc a b c => top_maps pol tur pa pk pc va V vc ma S mc mx mp wt ed cl fm pl a b c hpm _ tn0 hG0 hfS hms hr hM⟩
        · exact ⟨0, 0, 0, 0, [], 0, 0, 4, by simp, fun pa pc va vc ma mc a b c => specSend_code pol tur pa pk pc va V vc ma S mc mx mp wt ed cl fm pl 4 (by omega) (code4 pol tur pa pk pc va V vc ma S mc mx mp wt ed cl fm pl hfV hpm hp hv hr), fun pa pc va vc ma mc a b c => top_range pol tur pa pk pc va V vc ma S mc mx mp wt ed cl fm pl a b c hpm _ tn0 hG0 ht hr⟩
      · have hr : ¬ OkR tur V.length pk.length mx mp wt ed cl fm pl := fun h => ht h.1
        have hG0 : GivesP 20 pol tur (pk.getD 0 0) V 0 [] 0 4 := implPick_any pol tur (pk.getD 0 0) V 0 [] 0 4 hp fun nm F tr a cap => pickAt_range nm F tr tur (pk.getD 0 0) V 0 hfV hv (fun h => ht h.1) a cap
        exact ⟨0, 0, 0, 0, [], 0, 0, 4, by simp, fun pa pc va vc ma mc a b c => specSend_code pol tur pa pk pc va V vc ma S mc mx mp wt ed cl fm pl 4 (by omega) (code4 pol tur pa pk pc va V vc ma S mc mx mp wt ed cl fm pl hfV hpm hp hv hr), fun pa pc va vc ma mc a b c => top_first pol tur pa pk pc va V vc ma S mc mx mp wt ed cl fm pl a b c hpm _ _ 4 hG0 (by omega)⟩
    · have hG0 : GivesP 20 pol tur (pk.getD 0 0) V 0 [] 0 6 := implPick_any pol tur (pk.getD 0 0) V 0 [] 0 6 hp fun nm F tr a cap => pickAt_path nm F tr tur (pk.getD 0 0) V 0 hfV hvm hv a cap
      exact ⟨0, 0, 0, 0, [], 0, 0, 6, by simp, fun pa pc va vc ma mc a b c => specSend_code pol tur pa pk pc va V vc ma S mc mx mp wt ed cl fm pl 6 (by omega) (code6 pol tur pa pk pc va V vc ma S mc mx mp wt ed cl fm pl hfV hvm hp hv), fun pa pc va vc ma mc a b c => top_first pol tur pa pk pc va V vc ma S mc mx mp wt ed cl fm pl a b c hpm _ _ 6 hG0 (by omega)⟩
  · exact ⟨0, 0, 0, 0, [], 0, 0, 17, by simp, fun pa pc va vc ma mc a b c => specSend_code pol tur pa pk pc va V vc ma S mc mx mp wt ed cl fm pl 17 (by omega) (code17 pol tur pa pk pc va V vc ma S mc mx mp wt ed cl fm pl hp), fun pa pc va vc ma mc a b c => top_first pol tur pa pk pc va V vc ma S mc mx mp wt ed cl fm pl a b c hpm _ _ 17 (implPick_cfg pol tur (pk.getD 0 0) V 0 hp) (by omega)⟩
end Go.Proofs.Ytlagaiekoahjnaa
