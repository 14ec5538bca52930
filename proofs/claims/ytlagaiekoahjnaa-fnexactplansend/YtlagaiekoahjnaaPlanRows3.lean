import Derived.Test.YtlagaiekoahjnaaPlanRows2
namespace Go.Proofs.Ytlagaiekoahjnaa
open Go.ChangeShapes Go.WideShapes Go.ChangeAt Go.RowKit
set_option linter.unusedVariables false

set_option maxRecDepth 100000 in
set_option maxHeartbeats 1000000 in
theorem eqSched_same (pol tur : Int) (pa : Option Addr) (pk : List Int) (pc : Nat) (va : Option Addr) (V : Vws) (vc : Nat) (ma : Option Addr) (S : Mps) (mc : Nat) (mx mp wt ed cl fm pl : Int) (pa' : Option Addr) (pc' : Nat) (va' : Option Addr) (vc' : Nat) (ma' : Option Addr) (mc' : Nat) (w : World) (hP : Ints .i64 w pa pk) (hP' : Ints .i64 w pa' pk) (hV : LieV w va V) (hV' : LieV w va' V) (hS : LieM w ma S) (hS' : LieM w ma' S) (hfV : FitsV V) (hfS : FitsM S) (lp : pk.length ≤ 1048576) (lv : V.length ≤ 1048576) (ls : S.length ≤ 1048576) :
    Calls Try.prog 33 #[.agg #[.int .i64 pol, .int .i64 tur, .slice pa pk.length pc, .slice va V.length vc, .slice ma S.length mc, .int .i64 mx, .int .u64 mp, .int .u64 wt, .int .u64 ed, .int .i64 cl, .int .i64 fm, .int .i64 pl], .agg #[.int .i64 pol, .int .i64 tur, .slice pa' pk.length pc', .slice va' V.length vc', .slice ma' S.length mc', .int .i64 mx, .int .u64 mp, .int .u64 wt, .int .u64 ed, .int .i64 cl, .int .i64 fm, .int .i64 pl]] w fun e w' => e = .returned (.bool true) ∧ Below w.heap.size w w' := by
  obtain ⟨W, hW⟩ : ∃ W, W = (w.alloc (.cells #[.int .i64 pol, .int .i64 tur, .slice pa pk.length pc, .slice va V.length vc, .slice ma S.length mc, .int .i64 mx, .int .u64 mp, .int .u64 wt, .int .u64 ed, .int .i64 cl, .int .i64 fm, .int .i64 pl] 48)).alloc (.cells #[.int .i64 pol, .int .i64 tur, .slice pa' pk.length pc', .slice va' V.length vc', .slice ma' S.length mc', .int .i64 mx, .int .u64 mp, .int .u64 wt, .int .u64 ed, .int .i64 cl, .int .i64 fm, .int .i64 pl] 48) := ⟨_, rfl⟩
  have hbW : Below w.heap.size w W := by rw [hW]; exact ((Below.refl _ _).alloc (Nat.le_refl _) _).alloc (by simp) _
  have k3 : W.cell? ⟨w.heap.size, 3, none⟩ = some (.slice va V.length vc) := by rw [hW]; simp
  have k4 : W.cell? ⟨w.heap.size, 4, none⟩ = some (.slice ma S.length mc) := by rw [hW]; simp
  have k5 : W.cell? ⟨w.heap.size, 5, none⟩ = some (.int .i64 mx) := by rw [hW]; simp
  have k6 : W.cell? ⟨w.heap.size, 6, none⟩ = some (.int .u64 mp) := by rw [hW]; simp
  have k7 : W.cell? ⟨w.heap.size, 7, none⟩ = some (.int .u64 wt) := by rw [hW]; simp
  have k8 : W.cell? ⟨w.heap.size, 8, none⟩ = some (.int .u64 ed) := by rw [hW]; simp
  have k9 : W.cell? ⟨w.heap.size, 9, none⟩ = some (.int .i64 cl) := by rw [hW]; simp
  have k10 : W.cell? ⟨w.heap.size, 10, none⟩ = some (.int .i64 fm) := by rw [hW]; simp
  have k11 : W.cell? ⟨w.heap.size, 11, none⟩ = some (.int .i64 pl) := by rw [hW]; simp
  have y3 : W.cell? ⟨w.heap.size + 1, 3, none⟩ = some (.slice va' V.length vc') := by rw [hW]; simp
  have y4 : W.cell? ⟨w.heap.size + 1, 4, none⟩ = some (.slice ma' S.length mc') := by rw [hW]; simp
  have y5 : W.cell? ⟨w.heap.size + 1, 5, none⟩ = some (.int .i64 mx) := by rw [hW]; simp
  have y6 : W.cell? ⟨w.heap.size + 1, 6, none⟩ = some (.int .u64 mp) := by rw [hW]; simp
  have y7 : W.cell? ⟨w.heap.size + 1, 7, none⟩ = some (.int .u64 wt) := by rw [hW]; simp
  have y8 : W.cell? ⟨w.heap.size + 1, 8, none⟩ = some (.int .u64 ed) := by rw [hW]; simp
  have y9 : W.cell? ⟨w.heap.size + 1, 9, none⟩ = some (.int .i64 cl) := by rw [hW]; simp
  have y10 : W.cell? ⟨w.heap.size + 1, 10, none⟩ = some (.int .i64 fm) := by rw [hW]; simp
  have y11 : W.cell? ⟨w.heap.size + 1, 11, none⟩ = some (.int .i64 pl) := by rw [hW]; simp
  go_enter Try.func33, Try.ntmps33
  go_wp2_with fail
  rw [← hW]
  refine Calls.mono (eqInt64S_same _ _ pk _ _ _ (hP.moved hbW) (hP'.moved hbW) lp) ?_
  rintro e u1 ⟨rfl, hb1⟩
  have ka3 := (hb1.cell (World.block_lt_of_cell? _ _ k3)).trans k3
  have ka4 := (hb1.cell (World.block_lt_of_cell? _ _ k4)).trans k4
  have ka5 := (hb1.cell (World.block_lt_of_cell? _ _ k5)).trans k5
  have ka6 := (hb1.cell (World.block_lt_of_cell? _ _ k6)).trans k6
  have ka7 := (hb1.cell (World.block_lt_of_cell? _ _ k7)).trans k7
  have ka8 := (hb1.cell (World.block_lt_of_cell? _ _ k8)).trans k8
  have ka9 := (hb1.cell (World.block_lt_of_cell? _ _ k9)).trans k9
  have ka10 := (hb1.cell (World.block_lt_of_cell? _ _ k10)).trans k10
  have ka11 := (hb1.cell (World.block_lt_of_cell? _ _ k11)).trans k11
  have ya3 := (hb1.cell (World.block_lt_of_cell? _ _ y3)).trans y3
  have ya4 := (hb1.cell (World.block_lt_of_cell? _ _ y4)).trans y4
  have ya5 := (hb1.cell (World.block_lt_of_cell? _ _ y5)).trans y5
  have ya6 := (hb1.cell (World.block_lt_of_cell? _ _ y6)).trans y6
  have ya7 := (hb1.cell (World.block_lt_of_cell? _ _ y7)).trans y7
  have ya8 := (hb1.cell (World.block_lt_of_cell? _ _ y8)).trans y8
  have ya9 := (hb1.cell (World.block_lt_of_cell? _ _ y9)).trans y9
  have ya10 := (hb1.cell (World.block_lt_of_cell? _ _ y10)).trans y10
  have ya11 := (hb1.cell (World.block_lt_of_cell? _ _ y11)).trans y11
  have hbu1 := hbW.trans (hb1.mono hbW.size)
  clear hW hb1 hbW
  clear k3 k4 k5 k6 k7 k8 k9 k10 k11 y3 y4 y5 y6 y7 y8 y9 y10 y11
  go_wp2_with fail
  refine Calls.mono (eqVS_same _ _ V _ _ _ (hV.moved hbu1) (hV'.moved hbu1) hfV lv) ?_
  rintro e u2 ⟨rfl, hb2⟩
  have kb4 := (hb2.cell (World.block_lt_of_cell? _ _ ka4)).trans ka4
  have kb5 := (hb2.cell (World.block_lt_of_cell? _ _ ka5)).trans ka5
  have kb6 := (hb2.cell (World.block_lt_of_cell? _ _ ka6)).trans ka6
  have kb7 := (hb2.cell (World.block_lt_of_cell? _ _ ka7)).trans ka7
  have kb8 := (hb2.cell (World.block_lt_of_cell? _ _ ka8)).trans ka8
  have kb9 := (hb2.cell (World.block_lt_of_cell? _ _ ka9)).trans ka9
  have kb10 := (hb2.cell (World.block_lt_of_cell? _ _ ka10)).trans ka10
  have kb11 := (hb2.cell (World.block_lt_of_cell? _ _ ka11)).trans ka11
  have yb4 := (hb2.cell (World.block_lt_of_cell? _ _ ya4)).trans ya4
  have yb5 := (hb2.cell (World.block_lt_of_cell? _ _ ya5)).trans ya5
  have yb6 := (hb2.cell (World.block_lt_of_cell? _ _ ya6)).trans ya6
  have yb7 := (hb2.cell (World.block_lt_of_cell? _ _ ya7)).trans ya7
  have yb8 := (hb2.cell (World.block_lt_of_cell? _ _ ya8)).trans ya8
  have yb9 := (hb2.cell (World.block_lt_of_cell? _ _ ya9)).trans ya9
  have yb10 := (hb2.cell (World.block_lt_of_cell? _ _ ya10)).trans ya10
  have yb11 := (hb2.cell (World.block_lt_of_cell? _ _ ya11)).trans ya11
  have hbu2 := hbu1.trans (hb2.mono hbu1.size)
  clear hb2 hbu1
  clear ka3 ka4 ka5 ka6 ka7 ka8 ka9 ka10 ka11 ya3 ya4 ya5 ya6 ya7 ya8 ya9 ya10 ya11
  go_wp2_with fail
  refine Calls.mono (eqMS_same _ _ S _ _ _ (hS.moved hbu2) (hS'.moved hbu2) hfS ls) ?_
  rintro e u3 ⟨rfl, hb3⟩
  have kc5 := (hb3.cell (World.block_lt_of_cell? _ _ kb5)).trans kb5
  have kc6 := (hb3.cell (World.block_lt_of_cell? _ _ kb6)).trans kb6
  have kc7 := (hb3.cell (World.block_lt_of_cell? _ _ kb7)).trans kb7
  have kc8 := (hb3.cell (World.block_lt_of_cell? _ _ kb8)).trans kb8
  have kc9 := (hb3.cell (World.block_lt_of_cell? _ _ kb9)).trans kb9
  have kc10 := (hb3.cell (World.block_lt_of_cell? _ _ kb10)).trans kb10
  have kc11 := (hb3.cell (World.block_lt_of_cell? _ _ kb11)).trans kb11
  have yc5 := (hb3.cell (World.block_lt_of_cell? _ _ yb5)).trans yb5
  have yc6 := (hb3.cell (World.block_lt_of_cell? _ _ yb6)).trans yb6
  have yc7 := (hb3.cell (World.block_lt_of_cell? _ _ yb7)).trans yb7
  have yc8 := (hb3.cell (World.block_lt_of_cell? _ _ yb8)).trans yb8
  have yc9 := (hb3.cell (World.block_lt_of_cell? _ _ yb9)).trans yb9
  have yc10 := (hb3.cell (World.block_lt_of_cell? _ _ yb10)).trans yb10
  have yc11 := (hb3.cell (World.block_lt_of_cell? _ _ yb11)).trans yb11
  have hbu3 := hbu2.trans (hb3.mono hbu2.size)
  clear hb3 hbu2
  clear kb4 kb5 kb6 kb7 kb8 kb9 kb10 kb11 yb4 yb5 yb6 yb7 yb8 yb9 yb10 yb11
  go_wp2
  go_ret
  exact ⟨rfl, hbu3⟩

theorem cellGrown3 {w w1 : World} {row : Option Nat} {a : Addr} {v : Value} (h : w.grownBy w1 row) (hc : w.cell? a = some v) (hr : row ≠ some a.block) : w1.cell? a = some v :=
  (World.cell?_of_block (h.block a.block (World.block_lt_of_cell? w a hc) (fun e => hr e.symm))).trans hc

set_option maxRecDepth 100000 in
set_option maxHeartbeats 1000000 in
theorem markSched_any (pol tur : Int) (pk : List Int) (V : Vws) (S : Mps) (mx mp wt ed cl fm pl : Int) (w0 w : World) (g0 g1 g2 : Nat) (hc : Copied w0 w pk V S g0 g1 g2) (lp : pk.length ≤ 1048576) (lv : V.length ≤ 1048576) (ls : S.length ≤ 1048576) :
    Calls Try.prog 34 #[.agg #[.int .i64 pol, .int .i64 tur, .slice (some ⟨g0, 0, none⟩) pk.length pk.length, .slice (some ⟨g1, 0, none⟩) V.length V.length, .slice (some ⟨g2, 0, none⟩) S.length S.length, .int .i64 mx, .int .u64 mp, .int .u64 wt, .int .u64 ed, .int .i64 cl, .int .i64 fm, .int .i64 pl], .int .i64 1] w fun e w' => ∃ (c : Int) (v : Obj) (u1 u2 : World), e = .returned (.int .i64 c) ∧ 0 ≤ c ∧ (w.alloc v).grownBy u1 (some g0) ∧ u1.grownBy u2 (some g1) ∧ u2.grownBy w' (some g2) := by
  have l1 := hc.l1
  have l2 := hc.l2
  have lt := hc.lt
  obtain ⟨W, hW⟩ : ∃ W, W = w.alloc (.cells #[.int .i64 pol, .int .i64 tur, .slice (some ⟨g0, 0, none⟩) pk.length pk.length, .slice (some ⟨g1, 0, none⟩) V.length V.length, .slice (some ⟨g2, 0, none⟩) S.length S.length, .int .i64 mx, .int .u64 mp, .int .u64 wt, .int .u64 ed, .int .i64 cl, .int .i64 fm, .int .i64 pl] 48) := ⟨_, rfl⟩
  have k3 : W.cell? ⟨w.heap.size, 3, none⟩ = some (.slice (some ⟨g1, 0, none⟩) V.length V.length) := by rw [hW]; simp
  have k4 : W.cell? ⟨w.heap.size, 4, none⟩ = some (.slice (some ⟨g2, 0, none⟩) S.length S.length) := by rw [hW]; simp
  have r0 : W.ownsRow w0.heap.size 2 1 (.slice (some ⟨g0, 0, none⟩) pk.length pk.length) pk.length (pk.map (.int .i64)) := by rw [hW]; exact hc.r0.alloc _
  have r1 : W.ownsRow w0.heap.size 57 3 (.slice (some ⟨g1, 0, none⟩) V.length V.length) V.length (flatV V) := by rw [hW]; exact hc.r1.alloc _
  have r2 : W.ownsRow w0.heap.size 55 5 (.slice (some ⟨g2, 0, none⟩) S.length S.length) S.length (flatM S) := by rw [hW]; exact hc.r2.alloc _
  have hx : ∃ v, w.alloc v = W := ⟨_, hW.symm⟩
  go_enter Try.func34, Try.ntmps34
  go_wp2_with fail
  rw [← hW]
  refine Calls.mono (markInt64S_any _ pk 1 _ _ pk.length rfl r0 lp (by omega) (by omega)) ?_
  rintro e u1 ⟨rfl, q0, hg1⟩
  have hw : w.heap.size < W.heap.size := World.block_lt_of_cell? _ _ k3
  have ka3 := cellGrown3 hg1 k3 (by simp [Value.ownBlock]; omega)
  have ka4 := cellGrown3 hg1 k4 (by simp [Value.ownBlock]; omega)
  have q1 := r1.kept hg1 (.inr (by simp [Value.ownBlock]; omega))
  have q2 := r2.kept hg1 (.inr (by simp [Value.ownBlock]; omega))
  clear hW r0 r1 r2 q0
  have e5 : (1 : Int) + (pk.length : Int) ≤ 1000000000 := by omega
  go_wp2_with fail
  refine Calls.mono (markVS_from _ V _ _ _ q1 lv (by omega) e5) ?_
  rintro e u2 ⟨rfl, _, hg2⟩
  have kb4 := cellGrown3 hg2 ka4 (by simp [Value.ownBlock]; omega)
  have p2 := q2.kept hg2 (.inr (by simp [Value.ownBlock]; omega))
  clear q1 q2
  go_wp2_with fail
  refine Calls.mono (markMS_from _ S _ _ _ p2 ls (by omega) (by omega)) ?_
  rintro e u3 ⟨rfl, _, hg3⟩
  obtain ⟨v, rfl⟩ := hx
  go_wp2
  go_ret
  exact ⟨_, v, u1, u2, rfl, by omega, hg1, hg2, hg3⟩
end Go.Proofs.Ytlagaiekoahjnaa
