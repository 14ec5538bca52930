import Derived.Test.YtlagaiekoahjnaaPlanRows
namespace Go.Proofs.Ytlagaiekoahjnaa
open Go.ChangeShapes Go.WideShapes Go.ChangeAt Go.RowKit
set_option linter.unusedVariables false

/-- What a copied input lies in. -/
structure Copied (w w' : World) (pk : List Int) (V : Vws) (S : Mps) (g0 g1 g2 : Nat) : Prop where
  ge : w.heap.size ≤ g0
  l1 : g0 < g1
  l2 : g1 < g2
  lt : g2 < w'.heap.size
  r0 : w'.ownsRow w.heap.size 2 1 (.slice (some ⟨g0, 0, none⟩) pk.length pk.length) pk.length (pk.map (.int .i64))
  r1 : w'.ownsRow w.heap.size 57 3 (.slice (some ⟨g1, 0, none⟩) V.length V.length) V.length (flatV V)
  r2 : w'.ownsRow w.heap.size 55 5 (.slice (some ⟨g2, 0, none⟩) S.length S.length) S.length (flatM S)
  be : Below w.heap.size w w'

theorem cell_new (w : World) (cs : Array Value) (e : TypeId) (b i : Nat) (v : Value) (hb : b = w.heap.size) (h : cs[i]? = some v) : (w.alloc (.cells cs e)).cell? ⟨b, i, none⟩ = some v := by
  subst hb
  simp [h]
theorem cell_old {w : World} {b i : Nat} {v : Value} (o : Obj) (h : w.cell? ⟨b, i, none⟩ = some v) : (w.alloc o).cell? ⟨b, i, none⟩ = some v :=
  ((Below.alloc (Below.refl w.heap.size w) (Nat.le_refl _) o).cell (World.block_lt_of_cell? _ _ h)).trans h

theorem row_set {w : World} {base : Nat} {e : TypeId} {size g n cap : Nat} {xs : List Value} (h : w.ownsRow base e size (.slice (some ⟨g, 0, none⟩) n cap) n xs) (b i : Nat) (v : Value) (hb : b < g) : (w.setCell ⟨b, i, none⟩ v).ownsRow base e size (.slice (some ⟨g, 0, none⟩) n cap) n xs := by
  refine h.kept (grown_set w b i v) (.inr fun e => ?_)
  simp [Value.ownBlock] at e
  omega

set_option maxRecDepth 100000 in
set_option maxHeartbeats 8000000 in
theorem toSched_any (pol tur : Int) (pa : Option Addr) (pk : List Int) (pc : Nat) (va : Option Addr) (V : Vws) (vc : Nat) (ma : Option Addr) (S : Mps) (mc : Nat) (mx mp wt ed cl fm pl : Int) (w : World) (hP : Ints .i64 w pa pk) (hV : LieV w va V) (hS : LieM w ma S) (hfV : FitsV V) (hfS : FitsM S) (lp : pk.length ≤ 1048576) (lv : V.length ≤ 1048576) (ls : S.length ≤ 1048576) :
    Calls Try.prog 31 #[.agg #[.int .i64 pol, .int .i64 tur, .slice pa pk.length pc, .slice va V.length vc, .slice ma S.length mc, .int .i64 mx, .int .u64 mp, .int .u64 wt, .int .u64 ed, .int .i64 cl, .int .i64 fm, .int .i64 pl]] w fun e w' => ∃ g0 g1 g2, e = .returned (.agg #[.int .i64 pol, .int .i64 tur, .slice (some ⟨g0, 0, none⟩) pk.length pk.length, .slice (some ⟨g1, 0, none⟩) V.length V.length, .slice (some ⟨g2, 0, none⟩) S.length S.length, .int .i64 mx, .int .u64 mp, .int .u64 wt, .int .u64 ed, .int .i64 cl, .int .i64 fm, .int .i64 pl]) ∧ Copied w w' pk V S g0 g1 g2 := by
  obtain ⟨W1, hW1⟩ : ∃ W1, W1 = w.alloc (.cells #[.int .i64 pol, .int .i64 tur, .slice pa pk.length pc, .slice va V.length vc, .slice ma S.length mc, .int .i64 mx, .int .u64 mp, .int .u64 wt, .int .u64 ed, .int .i64 cl, .int .i64 fm, .int .i64 pl] 61) := ⟨_, rfl⟩
  obtain ⟨W2, hW2⟩ : ∃ W2, W2 = W1.alloc (.cells #[.int .i64 0, .int .i64 0, .slice none 0 0, .slice none 0 0, .slice none 0 0, .int .i64 0, .int .u64 0, .int .u64 0, .int .u64 0, .int .i64 0, .int .i64 0, .int .i64 0] 48) := ⟨_, rfl⟩
  obtain ⟨W, hW⟩ : ∃ W, W = W2.alloc (.cells #[.int .i64 pol, .int .i64 tur, .slice none 0 0, .slice none 0 0, .slice none 0 0, .int .i64 0, .int .u64 0, .int .u64 0, .int .u64 0, .int .i64 0, .int .i64 0, .int .i64 0] 48) := ⟨_, rfl⟩
  have s1 : W1.heap.size = w.heap.size + 1 := by rw [hW1]; simp
  have s2 : W2.heap.size = w.heap.size + 2 := by rw [hW2]; simp [s1]
  have sW : W.heap.size = w.heap.size + 3 := by rw [hW]; simp [s2]
  have hbW : Below w.heap.size w W := by rw [hW, hW2, hW1]; exact (((Below.refl _ _).alloc (Nat.le_refl _) _).alloc (by simp) _).alloc (by simp; omega) _
  have k0 : W.cell? ⟨w.heap.size, 0, none⟩ = some (.int .i64 pol) := by rw [hW]; refine cell_old _ ?_; rw [hW2]; refine cell_old _ ?_; rw [hW1]; exact cell_new w _ _ _ _ _ rfl rfl
  have k1 : W.cell? ⟨w.heap.size, 1, none⟩ = some (.int .i64 tur) := by rw [hW]; refine cell_old _ ?_; rw [hW2]; refine cell_old _ ?_; rw [hW1]; exact cell_new w _ _ _ _ _ rfl rfl
  have k2 : W.cell? ⟨w.heap.size, 2, none⟩ = some (.slice pa pk.length pc) := by rw [hW]; refine cell_old _ ?_; rw [hW2]; refine cell_old _ ?_; rw [hW1]; exact cell_new w _ _ _ _ _ rfl rfl
  have k3 : W.cell? ⟨w.heap.size, 3, none⟩ = some (.slice va V.length vc) := by rw [hW]; refine cell_old _ ?_; rw [hW2]; refine cell_old _ ?_; rw [hW1]; exact cell_new w _ _ _ _ _ rfl rfl
  have k4 : W.cell? ⟨w.heap.size, 4, none⟩ = some (.slice ma S.length mc) := by rw [hW]; refine cell_old _ ?_; rw [hW2]; refine cell_old _ ?_; rw [hW1]; exact cell_new w _ _ _ _ _ rfl rfl
  have k5 : W.cell? ⟨w.heap.size, 5, none⟩ = some (.int .i64 mx) := by rw [hW]; refine cell_old _ ?_; rw [hW2]; refine cell_old _ ?_; rw [hW1]; exact cell_new w _ _ _ _ _ rfl rfl
  have k6 : W.cell? ⟨w.heap.size, 6, none⟩ = some (.int .u64 mp) := by rw [hW]; refine cell_old _ ?_; rw [hW2]; refine cell_old _ ?_; rw [hW1]; exact cell_new w _ _ _ _ _ rfl rfl
  have k7 : W.cell? ⟨w.heap.size, 7, none⟩ = some (.int .u64 wt) := by rw [hW]; refine cell_old _ ?_; rw [hW2]; refine cell_old _ ?_; rw [hW1]; exact cell_new w _ _ _ _ _ rfl rfl
  have k8 : W.cell? ⟨w.heap.size, 8, none⟩ = some (.int .u64 ed) := by rw [hW]; refine cell_old _ ?_; rw [hW2]; refine cell_old _ ?_; rw [hW1]; exact cell_new w _ _ _ _ _ rfl rfl
  have k9 : W.cell? ⟨w.heap.size, 9, none⟩ = some (.int .i64 cl) := by rw [hW]; refine cell_old _ ?_; rw [hW2]; refine cell_old _ ?_; rw [hW1]; exact cell_new w _ _ _ _ _ rfl rfl
  have k10 : W.cell? ⟨w.heap.size, 10, none⟩ = some (.int .i64 fm) := by rw [hW]; refine cell_old _ ?_; rw [hW2]; refine cell_old _ ?_; rw [hW1]; exact cell_new w _ _ _ _ _ rfl rfl
  have k11 : W.cell? ⟨w.heap.size, 11, none⟩ = some (.int .i64 pl) := by rw [hW]; refine cell_old _ ?_; rw [hW2]; refine cell_old _ ?_; rw [hW1]; exact cell_new w _ _ _ _ _ rfl rfl
  have y0 : W.cell? ⟨w.heap.size + 1, 0, none⟩ = some (.int .i64 0) := by rw [hW]; refine cell_old _ ?_; rw [hW2]; exact cell_new W1 _ _ _ _ _ (by omega) rfl
  have y1 : W.cell? ⟨w.heap.size + 1, 1, none⟩ = some (.int .i64 0) := by rw [hW]; refine cell_old _ ?_; rw [hW2]; exact cell_new W1 _ _ _ _ _ (by omega) rfl
  have y2 : W.cell? ⟨w.heap.size + 1, 2, none⟩ = some (.slice none 0 0) := by rw [hW]; refine cell_old _ ?_; rw [hW2]; exact cell_new W1 _ _ _ _ _ (by omega) rfl
  have y3 : W.cell? ⟨w.heap.size + 1, 3, none⟩ = some (.slice none 0 0) := by rw [hW]; refine cell_old _ ?_; rw [hW2]; exact cell_new W1 _ _ _ _ _ (by omega) rfl
  have y4 : W.cell? ⟨w.heap.size + 1, 4, none⟩ = some (.slice none 0 0) := by rw [hW]; refine cell_old _ ?_; rw [hW2]; exact cell_new W1 _ _ _ _ _ (by omega) rfl
  have y5 : W.cell? ⟨w.heap.size + 1, 5, none⟩ = some (.int .i64 0) := by rw [hW]; refine cell_old _ ?_; rw [hW2]; exact cell_new W1 _ _ _ _ _ (by omega) rfl
  have y6 : W.cell? ⟨w.heap.size + 1, 6, none⟩ = some (.int .u64 0) := by rw [hW]; refine cell_old _ ?_; rw [hW2]; exact cell_new W1 _ _ _ _ _ (by omega) rfl
  have y7 : W.cell? ⟨w.heap.size + 1, 7, none⟩ = some (.int .u64 0) := by rw [hW]; refine cell_old _ ?_; rw [hW2]; exact cell_new W1 _ _ _ _ _ (by omega) rfl
  have y8 : W.cell? ⟨w.heap.size + 1, 8, none⟩ = some (.int .u64 0) := by rw [hW]; refine cell_old _ ?_; rw [hW2]; exact cell_new W1 _ _ _ _ _ (by omega) rfl
  have y9 : W.cell? ⟨w.heap.size + 1, 9, none⟩ = some (.int .i64 0) := by rw [hW]; refine cell_old _ ?_; rw [hW2]; exact cell_new W1 _ _ _ _ _ (by omega) rfl
  have y10 : W.cell? ⟨w.heap.size + 1, 10, none⟩ = some (.int .i64 0) := by rw [hW]; refine cell_old _ ?_; rw [hW2]; exact cell_new W1 _ _ _ _ _ (by omega) rfl
  have y11 : W.cell? ⟨w.heap.size + 1, 11, none⟩ = some (.int .i64 0) := by rw [hW]; refine cell_old _ ?_; rw [hW2]; exact cell_new W1 _ _ _ _ _ (by omega) rfl
  have z0 : W.cell? ⟨w.heap.size + 2, 0, none⟩ = some (.int .i64 pol) := by rw [hW]; exact cell_new W2 _ _ _ _ _ (by omega) rfl
  have z1 : W.cell? ⟨w.heap.size + 2, 1, none⟩ = some (.int .i64 tur) := by rw [hW]; exact cell_new W2 _ _ _ _ _ (by omega) rfl
  have z2 : W.cell? ⟨w.heap.size + 2, 2, none⟩ = some (.slice none 0 0) := by rw [hW]; exact cell_new W2 _ _ _ _ _ (by omega) rfl
  have z3 : W.cell? ⟨w.heap.size + 2, 3, none⟩ = some (.slice none 0 0) := by rw [hW]; exact cell_new W2 _ _ _ _ _ (by omega) rfl
  have z4 : W.cell? ⟨w.heap.size + 2, 4, none⟩ = some (.slice none 0 0) := by rw [hW]; exact cell_new W2 _ _ _ _ _ (by omega) rfl
  have z5 : W.cell? ⟨w.heap.size + 2, 5, none⟩ = some (.int .i64 0) := by rw [hW]; exact cell_new W2 _ _ _ _ _ (by omega) rfl
  have z6 : W.cell? ⟨w.heap.size + 2, 6, none⟩ = some (.int .u64 0) := by rw [hW]; exact cell_new W2 _ _ _ _ _ (by omega) rfl
  have z7 : W.cell? ⟨w.heap.size + 2, 7, none⟩ = some (.int .u64 0) := by rw [hW]; exact cell_new W2 _ _ _ _ _ (by omega) rfl
  have z8 : W.cell? ⟨w.heap.size + 2, 8, none⟩ = some (.int .u64 0) := by rw [hW]; exact cell_new W2 _ _ _ _ _ (by omega) rfl
  have z9 : W.cell? ⟨w.heap.size + 2, 9, none⟩ = some (.int .i64 0) := by rw [hW]; exact cell_new W2 _ _ _ _ _ (by omega) rfl
  have z10 : W.cell? ⟨w.heap.size + 2, 10, none⟩ = some (.int .i64 0) := by rw [hW]; exact cell_new W2 _ _ _ _ _ (by omega) rfl
  have z11 : W.cell? ⟨w.heap.size + 2, 11, none⟩ = some (.int .i64 0) := by rw [hW]; exact cell_new W2 _ _ _ _ _ (by omega) rfl
  have yf0 : W.frozen? ⟨w.heap.size + 1, 0, none⟩ = false := by rw [hW, World.frozen?_alloc_past _ _ _ (by omega), hW2, World.frozen?_alloc_at _ _ _ _ (by omega)]
  have zf0 : W.frozen? ⟨w.heap.size + 2, 0, none⟩ = false := by rw [hW, World.frozen?_alloc_at _ _ _ _ (by omega)]
  have yf1 : W.frozen? ⟨w.heap.size + 1, 1, none⟩ = false := by rw [hW, World.frozen?_alloc_past _ _ _ (by omega), hW2, World.frozen?_alloc_at _ _ _ _ (by omega)]
  have zf1 : W.frozen? ⟨w.heap.size + 2, 1, none⟩ = false := by rw [hW, World.frozen?_alloc_at _ _ _ _ (by omega)]
  have yf2 : W.frozen? ⟨w.heap.size + 1, 2, none⟩ = false := by rw [hW, World.frozen?_alloc_past _ _ _ (by omega), hW2, World.frozen?_alloc_at _ _ _ _ (by omega)]
  have zf2 : W.frozen? ⟨w.heap.size + 2, 2, none⟩ = false := by rw [hW, World.frozen?_alloc_at _ _ _ _ (by omega)]
  have yf3 : W.frozen? ⟨w.heap.size + 1, 3, none⟩ = false := by rw [hW, World.frozen?_alloc_past _ _ _ (by omega), hW2, World.frozen?_alloc_at _ _ _ _ (by omega)]
  have zf3 : W.frozen? ⟨w.heap.size + 2, 3, none⟩ = false := by rw [hW, World.frozen?_alloc_at _ _ _ _ (by omega)]
  have yf4 : W.frozen? ⟨w.heap.size + 1, 4, none⟩ = false := by rw [hW, World.frozen?_alloc_past _ _ _ (by omega), hW2, World.frozen?_alloc_at _ _ _ _ (by omega)]
  have zf4 : W.frozen? ⟨w.heap.size + 2, 4, none⟩ = false := by rw [hW, World.frozen?_alloc_at _ _ _ _ (by omega)]
  have yf5 : W.frozen? ⟨w.heap.size + 1, 5, none⟩ = false := by rw [hW, World.frozen?_alloc_past _ _ _ (by omega), hW2, World.frozen?_alloc_at _ _ _ _ (by omega)]
  have zf5 : W.frozen? ⟨w.heap.size + 2, 5, none⟩ = false := by rw [hW, World.frozen?_alloc_at _ _ _ _ (by omega)]
  have yf6 : W.frozen? ⟨w.heap.size + 1, 6, none⟩ = false := by rw [hW, World.frozen?_alloc_past _ _ _ (by omega), hW2, World.frozen?_alloc_at _ _ _ _ (by omega)]
  have zf6 : W.frozen? ⟨w.heap.size + 2, 6, none⟩ = false := by rw [hW, World.frozen?_alloc_at _ _ _ _ (by omega)]
  have yf7 : W.frozen? ⟨w.heap.size + 1, 7, none⟩ = false := by rw [hW, World.frozen?_alloc_past _ _ _ (by omega), hW2, World.frozen?_alloc_at _ _ _ _ (by omega)]
  have zf7 : W.frozen? ⟨w.heap.size + 2, 7, none⟩ = false := by rw [hW, World.frozen?_alloc_at _ _ _ _ (by omega)]
  have yf8 : W.frozen? ⟨w.heap.size + 1, 8, none⟩ = false := by rw [hW, World.frozen?_alloc_past _ _ _ (by omega), hW2, World.frozen?_alloc_at _ _ _ _ (by omega)]
  have zf8 : W.frozen? ⟨w.heap.size + 2, 8, none⟩ = false := by rw [hW, World.frozen?_alloc_at _ _ _ _ (by omega)]
  have yf9 : W.frozen? ⟨w.heap.size + 1, 9, none⟩ = false := by rw [hW, World.frozen?_alloc_past _ _ _ (by omega), hW2, World.frozen?_alloc_at _ _ _ _ (by omega)]
  have zf9 : W.frozen? ⟨w.heap.size + 2, 9, none⟩ = false := by rw [hW, World.frozen?_alloc_at _ _ _ _ (by omega)]
  have yf10 : W.frozen? ⟨w.heap.size + 1, 10, none⟩ = false := by rw [hW, World.frozen?_alloc_past _ _ _ (by omega), hW2, World.frozen?_alloc_at _ _ _ _ (by omega)]
  have zf10 : W.frozen? ⟨w.heap.size + 2, 10, none⟩ = false := by rw [hW, World.frozen?_alloc_at _ _ _ _ (by omega)]
  have yf11 : W.frozen? ⟨w.heap.size + 1, 11, none⟩ = false := by rw [hW, World.frozen?_alloc_past _ _ _ (by omega), hW2, World.frozen?_alloc_at _ _ _ _ (by omega)]
  have zf11 : W.frozen? ⟨w.heap.size + 2, 11, none⟩ = false := by rw [hW, World.frozen?_alloc_at _ _ _ _ (by omega)]
  go_enter Try.func31, Try.ntmps31
  go_wp2_with fail
  rw [← hW1, ← hW2, ← hW]
  refine Calls.mono (toInt64S_any pa pk pc _ (hP.moved hbW) lp) ?_
  rintro e u1 ⟨rfl, r0, hb1⟩
  have ka3 := (hb1.cell (World.block_lt_of_cell? _ _ k3)).trans k3
  have ka4 := (hb1.cell (World.block_lt_of_cell? _ _ k4)).trans k4
  have ka5 := (hb1.cell (World.block_lt_of_cell? _ _ k5)).trans k5
  have ka6 := (hb1.cell (World.block_lt_of_cell? _ _ k6)).trans k6
  have ka7 := (hb1.cell (World.block_lt_of_cell? _ _ k7)).trans k7
  have ka8 := (hb1.cell (World.block_lt_of_cell? _ _ k8)).trans k8
  have ka9 := (hb1.cell (World.block_lt_of_cell? _ _ k9)).trans k9
  have ka10 := (hb1.cell (World.block_lt_of_cell? _ _ k10)).trans k10
  have ka11 := (hb1.cell (World.block_lt_of_cell? _ _ k11)).trans k11
  have ya0 := (hb1.cell (World.block_lt_of_cell? _ _ y0)).trans y0
  have yfa0 := (hb1.frozen (p := ⟨w.heap.size + 1, 0, none⟩) (World.block_lt_of_cell? _ _ y0)).trans yf0
  have za0 := (hb1.cell (World.block_lt_of_cell? _ _ z0)).trans z0
  have zfa0 := (hb1.frozen (p := ⟨w.heap.size + 2, 0, none⟩) (World.block_lt_of_cell? _ _ z0)).trans zf0
  have ya1 := (hb1.cell (World.block_lt_of_cell? _ _ y1)).trans y1
  have yfa1 := (hb1.frozen (p := ⟨w.heap.size + 1, 1, none⟩) (World.block_lt_of_cell? _ _ y1)).trans yf1
  have za1 := (hb1.cell (World.block_lt_of_cell? _ _ z1)).trans z1
  have zfa1 := (hb1.frozen (p := ⟨w.heap.size + 2, 1, none⟩) (World.block_lt_of_cell? _ _ z1)).trans zf1
  have ya2 := (hb1.cell (World.block_lt_of_cell? _ _ y2)).trans y2
  have yfa2 := (hb1.frozen (p := ⟨w.heap.size + 1, 2, none⟩) (World.block_lt_of_cell? _ _ y2)).trans yf2
  have za2 := (hb1.cell (World.block_lt_of_cell? _ _ z2)).trans z2
  have zfa2 := (hb1.frozen (p := ⟨w.heap.size + 2, 2, none⟩) (World.block_lt_of_cell? _ _ z2)).trans zf2
  have ya3 := (hb1.cell (World.block_lt_of_cell? _ _ y3)).trans y3
  have yfa3 := (hb1.frozen (p := ⟨w.heap.size + 1, 3, none⟩) (World.block_lt_of_cell? _ _ y3)).trans yf3
  have za3 := (hb1.cell (World.block_lt_of_cell? _ _ z3)).trans z3
  have zfa3 := (hb1.frozen (p := ⟨w.heap.size + 2, 3, none⟩) (World.block_lt_of_cell? _ _ z3)).trans zf3
  have ya4 := (hb1.cell (World.block_lt_of_cell? _ _ y4)).trans y4
  have yfa4 := (hb1.frozen (p := ⟨w.heap.size + 1, 4, none⟩) (World.block_lt_of_cell? _ _ y4)).trans yf4
  have za4 := (hb1.cell (World.block_lt_of_cell? _ _ z4)).trans z4
  have zfa4 := (hb1.frozen (p := ⟨w.heap.size + 2, 4, none⟩) (World.block_lt_of_cell? _ _ z4)).trans zf4
  have ya5 := (hb1.cell (World.block_lt_of_cell? _ _ y5)).trans y5
  have yfa5 := (hb1.frozen (p := ⟨w.heap.size + 1, 5, none⟩) (World.block_lt_of_cell? _ _ y5)).trans yf5
  have za5 := (hb1.cell (World.block_lt_of_cell? _ _ z5)).trans z5
  have zfa5 := (hb1.frozen (p := ⟨w.heap.size + 2, 5, none⟩) (World.block_lt_of_cell? _ _ z5)).trans zf5
  have ya6 := (hb1.cell (World.block_lt_of_cell? _ _ y6)).trans y6
  have yfa6 := (hb1.frozen (p := ⟨w.heap.size + 1, 6, none⟩) (World.block_lt_of_cell? _ _ y6)).trans yf6
  have za6 := (hb1.cell (World.block_lt_of_cell? _ _ z6)).trans z6
  have zfa6 := (hb1.frozen (p := ⟨w.heap.size + 2, 6, none⟩) (World.block_lt_of_cell? _ _ z6)).trans zf6
  have ya7 := (hb1.cell (World.block_lt_of_cell? _ _ y7)).trans y7
  have yfa7 := (hb1.frozen (p := ⟨w.heap.size + 1, 7, none⟩) (World.block_lt_of_cell? _ _ y7)).trans yf7
  have za7 := (hb1.cell (World.block_lt_of_cell? _ _ z7)).trans z7
  have zfa7 := (hb1.frozen (p := ⟨w.heap.size + 2, 7, none⟩) (World.block_lt_of_cell? _ _ z7)).trans zf7
  have ya8 := (hb1.cell (World.block_lt_of_cell? _ _ y8)).trans y8
  have yfa8 := (hb1.frozen (p := ⟨w.heap.size + 1, 8, none⟩) (World.block_lt_of_cell? _ _ y8)).trans yf8
  have za8 := (hb1.cell (World.block_lt_of_cell? _ _ z8)).trans z8
  have zfa8 := (hb1.frozen (p := ⟨w.heap.size + 2, 8, none⟩) (World.block_lt_of_cell? _ _ z8)).trans zf8
  have ya9 := (hb1.cell (World.block_lt_of_cell? _ _ y9)).trans y9
  have yfa9 := (hb1.frozen (p := ⟨w.heap.size + 1, 9, none⟩) (World.block_lt_of_cell? _ _ y9)).trans yf9
  have za9 := (hb1.cell (World.block_lt_of_cell? _ _ z9)).trans z9
  have zfa9 := (hb1.frozen (p := ⟨w.heap.size + 2, 9, none⟩) (World.block_lt_of_cell? _ _ z9)).trans zf9
  have ya10 := (hb1.cell (World.block_lt_of_cell? _ _ y10)).trans y10
  have yfa10 := (hb1.frozen (p := ⟨w.heap.size + 1, 10, none⟩) (World.block_lt_of_cell? _ _ y10)).trans yf10
  have za10 := (hb1.cell (World.block_lt_of_cell? _ _ z10)).trans z10
  have zfa10 := (hb1.frozen (p := ⟨w.heap.size + 2, 10, none⟩) (World.block_lt_of_cell? _ _ z10)).trans zf10
  have ya11 := (hb1.cell (World.block_lt_of_cell? _ _ y11)).trans y11
  have yfa11 := (hb1.frozen (p := ⟨w.heap.size + 1, 11, none⟩) (World.block_lt_of_cell? _ _ y11)).trans yf11
  have za11 := (hb1.cell (World.block_lt_of_cell? _ _ z11)).trans z11
  have zfa11 := (hb1.frozen (p := ⟨w.heap.size + 2, 11, none⟩) (World.block_lt_of_cell? _ _ z11)).trans zf11
  have hbu1 := hbW.trans (hb1.mono hbW.size)
  have su1 : W.heap.size < u1.heap.size := (r0.lt _ rfl).2
  rw [sW] at r0 su1
  clear hW hW1 hW2 s1 s2 hb1
  clear k0 k1 k2 k3 k4 k5 k6 k7 k8 k9 k10 k11 y0 y1 y2 y3 y4 y5 y6 y7 y8 y9 y10 y11 yf0 yf1 yf2 yf3 yf4 yf5 yf6 yf7 yf8 yf9 yf10 yf11 z0 z1 z2 z3 z4 z5 z6 z7 z8 z9 z10 z11 zf0 zf1 zf2 zf3 zf4 zf5 zf6 zf7 zf8 zf9 zf10 zf11
  have nb1 : ¬ w.heap.size = w.heap.size + 2 := by omega
  have nb2 : ¬ w.heap.size + 1 = w.heap.size + 2 := by omega
  go_wp2_with fail
  obtain ⟨A2, hA2⟩ : ∃ X, X = u1.setCell ⟨w.heap.size + 2, 2, none⟩ (.slice (some ⟨w.heap.size + 3, 0, none⟩) pk.length pk.length) := ⟨_, rfl⟩
  change Calls _ _ _ (u1.setCell ⟨w.heap.size + 2, 2, none⟩ (.slice (some ⟨w.heap.size + 3, 0, none⟩) pk.length pk.length)) _
  rw [← hA2]
  have hbA2 : Below w.heap.size w A2 := by rw [hA2]; exact hbu1.setCell (p := ⟨w.heap.size + 2, 2, none⟩) (by simp) _
  have sA2 : A2.heap.size = u1.heap.size := by rw [hA2]; simp
  have kb3 : A2.cell? ⟨w.heap.size, 3, none⟩ = some (.slice va V.length vc) := by rw [hA2, World.cell?_setCell_far _ _ _ _ (by simp)]; exact ka3
  have kb4 : A2.cell? ⟨w.heap.size, 4, none⟩ = some (.slice ma S.length mc) := by rw [hA2, World.cell?_setCell_far _ _ _ _ (by simp)]; exact ka4
  have kb5 : A2.cell? ⟨w.heap.size, 5, none⟩ = some (.int .i64 mx) := by rw [hA2, World.cell?_setCell_far _ _ _ _ (by simp)]; exact ka5
  have kb6 : A2.cell? ⟨w.heap.size, 6, none⟩ = some (.int .u64 mp) := by rw [hA2, World.cell?_setCell_far _ _ _ _ (by simp)]; exact ka6
  have kb7 : A2.cell? ⟨w.heap.size, 7, none⟩ = some (.int .u64 wt) := by rw [hA2, World.cell?_setCell_far _ _ _ _ (by simp)]; exact ka7
  have kb8 : A2.cell? ⟨w.heap.size, 8, none⟩ = some (.int .u64 ed) := by rw [hA2, World.cell?_setCell_far _ _ _ _ (by simp)]; exact ka8
  have kb9 : A2.cell? ⟨w.heap.size, 9, none⟩ = some (.int .i64 cl) := by rw [hA2, World.cell?_setCell_far _ _ _ _ (by simp)]; exact ka9
  have kb10 : A2.cell? ⟨w.heap.size, 10, none⟩ = some (.int .i64 fm) := by rw [hA2, World.cell?_setCell_far _ _ _ _ (by simp)]; exact ka10
  have kb11 : A2.cell? ⟨w.heap.size, 11, none⟩ = some (.int .i64 pl) := by rw [hA2, World.cell?_setCell_far _ _ _ _ (by simp)]; exact ka11
  have yb0 : A2.cell? ⟨w.heap.size + 1, 0, none⟩ = some (.int .i64 0) := by rw [hA2, World.cell?_setCell_far _ _ _ _ (by simp)]; exact ya0
  have yfb0 : A2.frozen? ⟨w.heap.size + 1, 0, none⟩ = false := by rw [hA2, World.frozen?_setCell]; exact yfa0
  have zb0 : A2.cell? ⟨w.heap.size + 2, 0, none⟩ = some (.int .i64 pol) := by rw [hA2]; exact (World.cell?_setCell_other _ ⟨w.heap.size + 2, 2, none⟩ ⟨w.heap.size + 2, 0, none⟩ _ (by simp)).trans za0
  have zfb0 : A2.frozen? ⟨w.heap.size + 2, 0, none⟩ = false := by rw [hA2, World.frozen?_setCell]; exact zfa0
  have yb1 : A2.cell? ⟨w.heap.size + 1, 1, none⟩ = some (.int .i64 0) := by rw [hA2, World.cell?_setCell_far _ _ _ _ (by simp)]; exact ya1
  have yfb1 : A2.frozen? ⟨w.heap.size + 1, 1, none⟩ = false := by rw [hA2, World.frozen?_setCell]; exact yfa1
  have zb1 : A2.cell? ⟨w.heap.size + 2, 1, none⟩ = some (.int .i64 tur) := by rw [hA2]; exact (World.cell?_setCell_other _ ⟨w.heap.size + 2, 2, none⟩ ⟨w.heap.size + 2, 1, none⟩ _ (by simp)).trans za1
  have zfb1 : A2.frozen? ⟨w.heap.size + 2, 1, none⟩ = false := by rw [hA2, World.frozen?_setCell]; exact zfa1
  have yb2 : A2.cell? ⟨w.heap.size + 1, 2, none⟩ = some (.slice none 0 0) := by rw [hA2, World.cell?_setCell_far _ _ _ _ (by simp)]; exact ya2
  have yfb2 : A2.frozen? ⟨w.heap.size + 1, 2, none⟩ = false := by rw [hA2, World.frozen?_setCell]; exact yfa2
  have zb2 : A2.cell? ⟨w.heap.size + 2, 2, none⟩ = some (.slice (some ⟨w.heap.size + 3, 0, none⟩) pk.length pk.length) := by rw [hA2]; exact World.cell?_setCell_same _ _ _ za2
  have zfb2 : A2.frozen? ⟨w.heap.size + 2, 2, none⟩ = false := by rw [hA2, World.frozen?_setCell]; exact zfa2
  have yb3 : A2.cell? ⟨w.heap.size + 1, 3, none⟩ = some (.slice none 0 0) := by rw [hA2, World.cell?_setCell_far _ _ _ _ (by simp)]; exact ya3
  have yfb3 : A2.frozen? ⟨w.heap.size + 1, 3, none⟩ = false := by rw [hA2, World.frozen?_setCell]; exact yfa3
  have zb3 : A2.cell? ⟨w.heap.size + 2, 3, none⟩ = some (.slice none 0 0) := by rw [hA2]; exact (World.cell?_setCell_other _ ⟨w.heap.size + 2, 2, none⟩ ⟨w.heap.size + 2, 3, none⟩ _ (by simp)).trans za3
  have zfb3 : A2.frozen? ⟨w.heap.size + 2, 3, none⟩ = false := by rw [hA2, World.frozen?_setCell]; exact zfa3
  have yb4 : A2.cell? ⟨w.heap.size + 1, 4, none⟩ = some (.slice none 0 0) := by rw [hA2, World.cell?_setCell_far _ _ _ _ (by simp)]; exact ya4
  have yfb4 : A2.frozen? ⟨w.heap.size + 1, 4, none⟩ = false := by rw [hA2, World.frozen?_setCell]; exact yfa4
  have zb4 : A2.cell? ⟨w.heap.size + 2, 4, none⟩ = some (.slice none 0 0) := by rw [hA2]; exact (World.cell?_setCell_other _ ⟨w.heap.size + 2, 2, none⟩ ⟨w.heap.size + 2, 4, none⟩ _ (by simp)).trans za4
  have zfb4 : A2.frozen? ⟨w.heap.size + 2, 4, none⟩ = false := by rw [hA2, World.frozen?_setCell]; exact zfa4
  have yb5 : A2.cell? ⟨w.heap.size + 1, 5, none⟩ = some (.int .i64 0) := by rw [hA2, World.cell?_setCell_far _ _ _ _ (by simp)]; exact ya5
  have yfb5 : A2.frozen? ⟨w.heap.size + 1, 5, none⟩ = false := by rw [hA2, World.frozen?_setCell]; exact yfa5
  have zb5 : A2.cell? ⟨w.heap.size + 2, 5, none⟩ = some (.int .i64 0) := by rw [hA2]; exact (World.cell?_setCell_other _ ⟨w.heap.size + 2, 2, none⟩ ⟨w.heap.size + 2, 5, none⟩ _ (by simp)).trans za5
  have zfb5 : A2.frozen? ⟨w.heap.size + 2, 5, none⟩ = false := by rw [hA2, World.frozen?_setCell]; exact zfa5
  have yb6 : A2.cell? ⟨w.heap.size + 1, 6, none⟩ = some (.int .u64 0) := by rw [hA2, World.cell?_setCell_far _ _ _ _ (by simp)]; exact ya6
  have yfb6 : A2.frozen? ⟨w.heap.size + 1, 6, none⟩ = false := by rw [hA2, World.frozen?_setCell]; exact yfa6
  have zb6 : A2.cell? ⟨w.heap.size + 2, 6, none⟩ = some (.int .u64 0) := by rw [hA2]; exact (World.cell?_setCell_other _ ⟨w.heap.size + 2, 2, none⟩ ⟨w.heap.size + 2, 6, none⟩ _ (by simp)).trans za6
  have zfb6 : A2.frozen? ⟨w.heap.size + 2, 6, none⟩ = false := by rw [hA2, World.frozen?_setCell]; exact zfa6
  have yb7 : A2.cell? ⟨w.heap.size + 1, 7, none⟩ = some (.int .u64 0) := by rw [hA2, World.cell?_setCell_far _ _ _ _ (by simp)]; exact ya7
  have yfb7 : A2.frozen? ⟨w.heap.size + 1, 7, none⟩ = false := by rw [hA2, World.frozen?_setCell]; exact yfa7
  have zb7 : A2.cell? ⟨w.heap.size + 2, 7, none⟩ = some (.int .u64 0) := by rw [hA2]; exact (World.cell?_setCell_other _ ⟨w.heap.size + 2, 2, none⟩ ⟨w.heap.size + 2, 7, none⟩ _ (by simp)).trans za7
  have zfb7 : A2.frozen? ⟨w.heap.size + 2, 7, none⟩ = false := by rw [hA2, World.frozen?_setCell]; exact zfa7
  have yb8 : A2.cell? ⟨w.heap.size + 1, 8, none⟩ = some (.int .u64 0) := by rw [hA2, World.cell?_setCell_far _ _ _ _ (by simp)]; exact ya8
  have yfb8 : A2.frozen? ⟨w.heap.size + 1, 8, none⟩ = false := by rw [hA2, World.frozen?_setCell]; exact yfa8
  have zb8 : A2.cell? ⟨w.heap.size + 2, 8, none⟩ = some (.int .u64 0) := by rw [hA2]; exact (World.cell?_setCell_other _ ⟨w.heap.size + 2, 2, none⟩ ⟨w.heap.size + 2, 8, none⟩ _ (by simp)).trans za8
  have zfb8 : A2.frozen? ⟨w.heap.size + 2, 8, none⟩ = false := by rw [hA2, World.frozen?_setCell]; exact zfa8
  have yb9 : A2.cell? ⟨w.heap.size + 1, 9, none⟩ = some (.int .i64 0) := by rw [hA2, World.cell?_setCell_far _ _ _ _ (by simp)]; exact ya9
  have yfb9 : A2.frozen? ⟨w.heap.size + 1, 9, none⟩ = false := by rw [hA2, World.frozen?_setCell]; exact yfa9
  have zb9 : A2.cell? ⟨w.heap.size + 2, 9, none⟩ = some (.int .i64 0) := by rw [hA2]; exact (World.cell?_setCell_other _ ⟨w.heap.size + 2, 2, none⟩ ⟨w.heap.size + 2, 9, none⟩ _ (by simp)).trans za9
  have zfb9 : A2.frozen? ⟨w.heap.size + 2, 9, none⟩ = false := by rw [hA2, World.frozen?_setCell]; exact zfa9
  have yb10 : A2.cell? ⟨w.heap.size + 1, 10, none⟩ = some (.int .i64 0) := by rw [hA2, World.cell?_setCell_far _ _ _ _ (by simp)]; exact ya10
  have yfb10 : A2.frozen? ⟨w.heap.size + 1, 10, none⟩ = false := by rw [hA2, World.frozen?_setCell]; exact yfa10
  have zb10 : A2.cell? ⟨w.heap.size + 2, 10, none⟩ = some (.int .i64 0) := by rw [hA2]; exact (World.cell?_setCell_other _ ⟨w.heap.size + 2, 2, none⟩ ⟨w.heap.size + 2, 10, none⟩ _ (by simp)).trans za10
  have zfb10 : A2.frozen? ⟨w.heap.size + 2, 10, none⟩ = false := by rw [hA2, World.frozen?_setCell]; exact zfa10
  have yb11 : A2.cell? ⟨w.heap.size + 1, 11, none⟩ = some (.int .i64 0) := by rw [hA2, World.cell?_setCell_far _ _ _ _ (by simp)]; exact ya11
  have yfb11 : A2.frozen? ⟨w.heap.size + 1, 11, none⟩ = false := by rw [hA2, World.frozen?_setCell]; exact yfa11
  have zb11 : A2.cell? ⟨w.heap.size + 2, 11, none⟩ = some (.int .i64 0) := by rw [hA2]; exact (World.cell?_setCell_other _ ⟨w.heap.size + 2, 2, none⟩ ⟨w.heap.size + 2, 11, none⟩ _ (by simp)).trans za11
  have zfb11 : A2.frozen? ⟨w.heap.size + 2, 11, none⟩ = false := by rw [hA2, World.frozen?_setCell]; exact zfa11
  have r0A : A2.ownsRow w.heap.size 2 1 (.slice (some ⟨w.heap.size + 3, 0, none⟩) pk.length pk.length) pk.length (pk.map (.int .i64)) := by rw [hA2]; exact row_set (owned_base r0 (Nat.le_add_right _ _)) _ _ _ (Nat.lt_succ_self _)
  refine Calls.mono (toVS_any va V vc _ (hV.moved hbA2) hfV lv) ?_
  rintro e u2 ⟨rfl, r1, hb2⟩
  have kc4 := (hb2.cell (World.block_lt_of_cell? _ _ kb4)).trans kb4
  have kc5 := (hb2.cell (World.block_lt_of_cell? _ _ kb5)).trans kb5
  have kc6 := (hb2.cell (World.block_lt_of_cell? _ _ kb6)).trans kb6
  have kc7 := (hb2.cell (World.block_lt_of_cell? _ _ kb7)).trans kb7
  have kc8 := (hb2.cell (World.block_lt_of_cell? _ _ kb8)).trans kb8
  have kc9 := (hb2.cell (World.block_lt_of_cell? _ _ kb9)).trans kb9
  have kc10 := (hb2.cell (World.block_lt_of_cell? _ _ kb10)).trans kb10
  have kc11 := (hb2.cell (World.block_lt_of_cell? _ _ kb11)).trans kb11
  have yc0 := (hb2.cell (World.block_lt_of_cell? _ _ yb0)).trans yb0
  have yfc0 := (hb2.frozen (p := ⟨w.heap.size + 1, 0, none⟩) (World.block_lt_of_cell? _ _ yb0)).trans yfb0
  have zc0 := (hb2.cell (World.block_lt_of_cell? _ _ zb0)).trans zb0
  have zfc0 := (hb2.frozen (p := ⟨w.heap.size + 2, 0, none⟩) (World.block_lt_of_cell? _ _ zb0)).trans zfb0
  have yc1 := (hb2.cell (World.block_lt_of_cell? _ _ yb1)).trans yb1
  have yfc1 := (hb2.frozen (p := ⟨w.heap.size + 1, 1, none⟩) (World.block_lt_of_cell? _ _ yb1)).trans yfb1
  have zc1 := (hb2.cell (World.block_lt_of_cell? _ _ zb1)).trans zb1
  have zfc1 := (hb2.frozen (p := ⟨w.heap.size + 2, 1, none⟩) (World.block_lt_of_cell? _ _ zb1)).trans zfb1
  have yc2 := (hb2.cell (World.block_lt_of_cell? _ _ yb2)).trans yb2
  have yfc2 := (hb2.frozen (p := ⟨w.heap.size + 1, 2, none⟩) (World.block_lt_of_cell? _ _ yb2)).trans yfb2
  have zc2 := (hb2.cell (World.block_lt_of_cell? _ _ zb2)).trans zb2
  have zfc2 := (hb2.frozen (p := ⟨w.heap.size + 2, 2, none⟩) (World.block_lt_of_cell? _ _ zb2)).trans zfb2
  have yc3 := (hb2.cell (World.block_lt_of_cell? _ _ yb3)).trans yb3
  have yfc3 := (hb2.frozen (p := ⟨w.heap.size + 1, 3, none⟩) (World.block_lt_of_cell? _ _ yb3)).trans yfb3
  have zc3 := (hb2.cell (World.block_lt_of_cell? _ _ zb3)).trans zb3
  have zfc3 := (hb2.frozen (p := ⟨w.heap.size + 2, 3, none⟩) (World.block_lt_of_cell? _ _ zb3)).trans zfb3
  have yc4 := (hb2.cell (World.block_lt_of_cell? _ _ yb4)).trans yb4
  have yfc4 := (hb2.frozen (p := ⟨w.heap.size + 1, 4, none⟩) (World.block_lt_of_cell? _ _ yb4)).trans yfb4
  have zc4 := (hb2.cell (World.block_lt_of_cell? _ _ zb4)).trans zb4
  have zfc4 := (hb2.frozen (p := ⟨w.heap.size + 2, 4, none⟩) (World.block_lt_of_cell? _ _ zb4)).trans zfb4
  have yc5 := (hb2.cell (World.block_lt_of_cell? _ _ yb5)).trans yb5
  have yfc5 := (hb2.frozen (p := ⟨w.heap.size + 1, 5, none⟩) (World.block_lt_of_cell? _ _ yb5)).trans yfb5
  have zc5 := (hb2.cell (World.block_lt_of_cell? _ _ zb5)).trans zb5
  have zfc5 := (hb2.frozen (p := ⟨w.heap.size + 2, 5, none⟩) (World.block_lt_of_cell? _ _ zb5)).trans zfb5
  have yc6 := (hb2.cell (World.block_lt_of_cell? _ _ yb6)).trans yb6
  have yfc6 := (hb2.frozen (p := ⟨w.heap.size + 1, 6, none⟩) (World.block_lt_of_cell? _ _ yb6)).trans yfb6
  have zc6 := (hb2.cell (World.block_lt_of_cell? _ _ zb6)).trans zb6
  have zfc6 := (hb2.frozen (p := ⟨w.heap.size + 2, 6, none⟩) (World.block_lt_of_cell? _ _ zb6)).trans zfb6
  have yc7 := (hb2.cell (World.block_lt_of_cell? _ _ yb7)).trans yb7
  have yfc7 := (hb2.frozen (p := ⟨w.heap.size + 1, 7, none⟩) (World.block_lt_of_cell? _ _ yb7)).trans yfb7
  have zc7 := (hb2.cell (World.block_lt_of_cell? _ _ zb7)).trans zb7
  have zfc7 := (hb2.frozen (p := ⟨w.heap.size + 2, 7, none⟩) (World.block_lt_of_cell? _ _ zb7)).trans zfb7
  have yc8 := (hb2.cell (World.block_lt_of_cell? _ _ yb8)).trans yb8
  have yfc8 := (hb2.frozen (p := ⟨w.heap.size + 1, 8, none⟩) (World.block_lt_of_cell? _ _ yb8)).trans yfb8
  have zc8 := (hb2.cell (World.block_lt_of_cell? _ _ zb8)).trans zb8
  have zfc8 := (hb2.frozen (p := ⟨w.heap.size + 2, 8, none⟩) (World.block_lt_of_cell? _ _ zb8)).trans zfb8
  have yc9 := (hb2.cell (World.block_lt_of_cell? _ _ yb9)).trans yb9
  have yfc9 := (hb2.frozen (p := ⟨w.heap.size + 1, 9, none⟩) (World.block_lt_of_cell? _ _ yb9)).trans yfb9
  have zc9 := (hb2.cell (World.block_lt_of_cell? _ _ zb9)).trans zb9
  have zfc9 := (hb2.frozen (p := ⟨w.heap.size + 2, 9, none⟩) (World.block_lt_of_cell? _ _ zb9)).trans zfb9
  have yc10 := (hb2.cell (World.block_lt_of_cell? _ _ yb10)).trans yb10
  have yfc10 := (hb2.frozen (p := ⟨w.heap.size + 1, 10, none⟩) (World.block_lt_of_cell? _ _ yb10)).trans yfb10
  have zc10 := (hb2.cell (World.block_lt_of_cell? _ _ zb10)).trans zb10
  have zfc10 := (hb2.frozen (p := ⟨w.heap.size + 2, 10, none⟩) (World.block_lt_of_cell? _ _ zb10)).trans zfb10
  have yc11 := (hb2.cell (World.block_lt_of_cell? _ _ yb11)).trans yb11
  have yfc11 := (hb2.frozen (p := ⟨w.heap.size + 1, 11, none⟩) (World.block_lt_of_cell? _ _ yb11)).trans yfb11
  have zc11 := (hb2.cell (World.block_lt_of_cell? _ _ zb11)).trans zb11
  have zfc11 := (hb2.frozen (p := ⟨w.heap.size + 2, 11, none⟩) (World.block_lt_of_cell? _ _ zb11)).trans zfb11
  have r0B := owned_kept r0A hb2
  have hbu2 := hbA2.trans (hb2.mono hbA2.size)
  have su2 : A2.heap.size < u2.heap.size := (r1.lt _ rfl).2
  clear hA2 hb2
  clear ka3 ka4 ka5 ka6 ka7 ka8 ka9 ka10 ka11 ya0 ya1 ya2 ya3 ya4 ya5 ya6 ya7 ya8 ya9 ya10 ya11 yfa0 yfa1 yfa2 yfa3 yfa4 yfa5 yfa6 yfa7 yfa8 yfa9 yfa10 yfa11 za0 za1 za2 za3 za4 za5 za6 za7 za8 za9 za10 za11 zfa0 zfa1 zfa2 zfa3 zfa4 zfa5 zfa6 zfa7 zfa8 zfa9 zfa10 zfa11
  clear kb3 kb4 kb5 kb6 kb7 kb8 kb9 kb10 kb11 yb0 yb1 yb2 yb3 yb4 yb5 yb6 yb7 yb8 yb9 yb10 yb11 yfb0 yfb1 yfb2 yfb3 yfb4 yfb5 yfb6 yfb7 yfb8 yfb9 yfb10 yfb11 zb0 zb1 zb2 zb3 zb4 zb5 zb6 zb7 zb8 zb9 zb10 zb11 zfb0 zfb1 zfb2 zfb3 zfb4 zfb5 zfb6 zfb7 zfb8 zfb9 zfb10 zfb11
  go_wp2_with fail
  rw [← sA2]
  obtain ⟨A3, hA3⟩ : ∃ X, X = u2.setCell ⟨w.heap.size + 2, 3, none⟩ (.slice (some ⟨A2.heap.size, 0, none⟩) V.length V.length) := ⟨_, rfl⟩
  change Calls _ _ _ (u2.setCell ⟨w.heap.size + 2, 3, none⟩ (.slice (some ⟨A2.heap.size, 0, none⟩) V.length V.length)) _
  rw [← hA3]
  have hbA3 : Below w.heap.size w A3 := by rw [hA3]; exact hbu2.setCell (p := ⟨w.heap.size + 2, 3, none⟩) (by simp) _
  have sA3 : A3.heap.size = u2.heap.size := by rw [hA3]; simp
  have kd4 : A3.cell? ⟨w.heap.size, 4, none⟩ = some (.slice ma S.length mc) := by rw [hA3, World.cell?_setCell_far _ _ _ _ (by simp)]; exact kc4
  have kd5 : A3.cell? ⟨w.heap.size, 5, none⟩ = some (.int .i64 mx) := by rw [hA3, World.cell?_setCell_far _ _ _ _ (by simp)]; exact kc5
  have kd6 : A3.cell? ⟨w.heap.size, 6, none⟩ = some (.int .u64 mp) := by rw [hA3, World.cell?_setCell_far _ _ _ _ (by simp)]; exact kc6
  have kd7 : A3.cell? ⟨w.heap.size, 7, none⟩ = some (.int .u64 wt) := by rw [hA3, World.cell?_setCell_far _ _ _ _ (by simp)]; exact kc7
  have kd8 : A3.cell? ⟨w.heap.size, 8, none⟩ = some (.int .u64 ed) := by rw [hA3, World.cell?_setCell_far _ _ _ _ (by simp)]; exact kc8
  have kd9 : A3.cell? ⟨w.heap.size, 9, none⟩ = some (.int .i64 cl) := by rw [hA3, World.cell?_setCell_far _ _ _ _ (by simp)]; exact kc9
  have kd10 : A3.cell? ⟨w.heap.size, 10, none⟩ = some (.int .i64 fm) := by rw [hA3, World.cell?_setCell_far _ _ _ _ (by simp)]; exact kc10
  have kd11 : A3.cell? ⟨w.heap.size, 11, none⟩ = some (.int .i64 pl) := by rw [hA3, World.cell?_setCell_far _ _ _ _ (by simp)]; exact kc11
  have yd0 : A3.cell? ⟨w.heap.size + 1, 0, none⟩ = some (.int .i64 0) := by rw [hA3, World.cell?_setCell_far _ _ _ _ (by simp)]; exact yc0
  have yfd0 : A3.frozen? ⟨w.heap.size + 1, 0, none⟩ = false := by rw [hA3, World.frozen?_setCell]; exact yfc0
  have zd0 : A3.cell? ⟨w.heap.size + 2, 0, none⟩ = some (.int .i64 pol) := by rw [hA3]; exact (World.cell?_setCell_other _ ⟨w.heap.size + 2, 3, none⟩ ⟨w.heap.size + 2, 0, none⟩ _ (by simp)).trans zc0
  have zfd0 : A3.frozen? ⟨w.heap.size + 2, 0, none⟩ = false := by rw [hA3, World.frozen?_setCell]; exact zfc0
  have yd1 : A3.cell? ⟨w.heap.size + 1, 1, none⟩ = some (.int .i64 0) := by rw [hA3, World.cell?_setCell_far _ _ _ _ (by simp)]; exact yc1
  have yfd1 : A3.frozen? ⟨w.heap.size + 1, 1, none⟩ = false := by rw [hA3, World.frozen?_setCell]; exact yfc1
  have zd1 : A3.cell? ⟨w.heap.size + 2, 1, none⟩ = some (.int .i64 tur) := by rw [hA3]; exact (World.cell?_setCell_other _ ⟨w.heap.size + 2, 3, none⟩ ⟨w.heap.size + 2, 1, none⟩ _ (by simp)).trans zc1
  have zfd1 : A3.frozen? ⟨w.heap.size + 2, 1, none⟩ = false := by rw [hA3, World.frozen?_setCell]; exact zfc1
  have yd2 : A3.cell? ⟨w.heap.size + 1, 2, none⟩ = some (.slice none 0 0) := by rw [hA3, World.cell?_setCell_far _ _ _ _ (by simp)]; exact yc2
  have yfd2 : A3.frozen? ⟨w.heap.size + 1, 2, none⟩ = false := by rw [hA3, World.frozen?_setCell]; exact yfc2
  have zd2 : A3.cell? ⟨w.heap.size + 2, 2, none⟩ = some (.slice (some ⟨w.heap.size + 3, 0, none⟩) pk.length pk.length) := by rw [hA3]; exact (World.cell?_setCell_other _ ⟨w.heap.size + 2, 3, none⟩ ⟨w.heap.size + 2, 2, none⟩ _ (by simp)).trans zc2
  have zfd2 : A3.frozen? ⟨w.heap.size + 2, 2, none⟩ = false := by rw [hA3, World.frozen?_setCell]; exact zfc2
  have yd3 : A3.cell? ⟨w.heap.size + 1, 3, none⟩ = some (.slice none 0 0) := by rw [hA3, World.cell?_setCell_far _ _ _ _ (by simp)]; exact yc3
  have yfd3 : A3.frozen? ⟨w.heap.size + 1, 3, none⟩ = false := by rw [hA3, World.frozen?_setCell]; exact yfc3
  have zd3 : A3.cell? ⟨w.heap.size + 2, 3, none⟩ = some (.slice (some ⟨A2.heap.size, 0, none⟩) V.length V.length) := by rw [hA3]; exact World.cell?_setCell_same _ _ _ zc3
  have zfd3 : A3.frozen? ⟨w.heap.size + 2, 3, none⟩ = false := by rw [hA3, World.frozen?_setCell]; exact zfc3
  have yd4 : A3.cell? ⟨w.heap.size + 1, 4, none⟩ = some (.slice none 0 0) := by rw [hA3, World.cell?_setCell_far _ _ _ _ (by simp)]; exact yc4
  have yfd4 : A3.frozen? ⟨w.heap.size + 1, 4, none⟩ = false := by rw [hA3, World.frozen?_setCell]; exact yfc4
  have zd4 : A3.cell? ⟨w.heap.size + 2, 4, none⟩ = some (.slice none 0 0) := by rw [hA3]; exact (World.cell?_setCell_other _ ⟨w.heap.size + 2, 3, none⟩ ⟨w.heap.size + 2, 4, none⟩ _ (by simp)).trans zc4
  have zfd4 : A3.frozen? ⟨w.heap.size + 2, 4, none⟩ = false := by rw [hA3, World.frozen?_setCell]; exact zfc4
  have yd5 : A3.cell? ⟨w.heap.size + 1, 5, none⟩ = some (.int .i64 0) := by rw [hA3, World.cell?_setCell_far _ _ _ _ (by simp)]; exact yc5
  have yfd5 : A3.frozen? ⟨w.heap.size + 1, 5, none⟩ = false := by rw [hA3, World.frozen?_setCell]; exact yfc5
  have zd5 : A3.cell? ⟨w.heap.size + 2, 5, none⟩ = some (.int .i64 0) := by rw [hA3]; exact (World.cell?_setCell_other _ ⟨w.heap.size + 2, 3, none⟩ ⟨w.heap.size + 2, 5, none⟩ _ (by simp)).trans zc5
  have zfd5 : A3.frozen? ⟨w.heap.size + 2, 5, none⟩ = false := by rw [hA3, World.frozen?_setCell]; exact zfc5
  have yd6 : A3.cell? ⟨w.heap.size + 1, 6, none⟩ = some (.int .u64 0) := by rw [hA3, World.cell?_setCell_far _ _ _ _ (by simp)]; exact yc6
  have yfd6 : A3.frozen? ⟨w.heap.size + 1, 6, none⟩ = false := by rw [hA3, World.frozen?_setCell]; exact yfc6
  have zd6 : A3.cell? ⟨w.heap.size + 2, 6, none⟩ = some (.int .u64 0) := by rw [hA3]; exact (World.cell?_setCell_other _ ⟨w.heap.size + 2, 3, none⟩ ⟨w.heap.size + 2, 6, none⟩ _ (by simp)).trans zc6
  have zfd6 : A3.frozen? ⟨w.heap.size + 2, 6, none⟩ = false := by rw [hA3, World.frozen?_setCell]; exact zfc6
  have yd7 : A3.cell? ⟨w.heap.size + 1, 7, none⟩ = some (.int .u64 0) := by rw [hA3, World.cell?_setCell_far _ _ _ _ (by simp)]; exact yc7
  have yfd7 : A3.frozen? ⟨w.heap.size + 1, 7, none⟩ = false := by rw [hA3, World.frozen?_setCell]; exact yfc7
  have zd7 : A3.cell? ⟨w.heap.size + 2, 7, none⟩ = some (.int .u64 0) := by rw [hA3]; exact (World.cell?_setCell_other _ ⟨w.heap.size + 2, 3, none⟩ ⟨w.heap.size + 2, 7, none⟩ _ (by simp)).trans zc7
  have zfd7 : A3.frozen? ⟨w.heap.size + 2, 7, none⟩ = false := by rw [hA3, World.frozen?_setCell]; exact zfc7
  have yd8 : A3.cell? ⟨w.heap.size + 1, 8, none⟩ = some (.int .u64 0) := by rw [hA3, World.cell?_setCell_far _ _ _ _ (by simp)]; exact yc8
  have yfd8 : A3.frozen? ⟨w.heap.size + 1, 8, none⟩ = false := by rw [hA3, World.frozen?_setCell]; exact yfc8
  have zd8 : A3.cell? ⟨w.heap.size + 2, 8, none⟩ = some (.int .u64 0) := by rw [hA3]; exact (World.cell?_setCell_other _ ⟨w.heap.size + 2, 3, none⟩ ⟨w.heap.size + 2, 8, none⟩ _ (by simp)).trans zc8
  have zfd8 : A3.frozen? ⟨w.heap.size + 2, 8, none⟩ = false := by rw [hA3, World.frozen?_setCell]; exact zfc8
  have yd9 : A3.cell? ⟨w.heap.size + 1, 9, none⟩ = some (.int .i64 0) := by rw [hA3, World.cell?_setCell_far _ _ _ _ (by simp)]; exact yc9
  have yfd9 : A3.frozen? ⟨w.heap.size + 1, 9, none⟩ = false := by rw [hA3, World.frozen?_setCell]; exact yfc9
  have zd9 : A3.cell? ⟨w.heap.size + 2, 9, none⟩ = some (.int .i64 0) := by rw [hA3]; exact (World.cell?_setCell_other _ ⟨w.heap.size + 2, 3, none⟩ ⟨w.heap.size + 2, 9, none⟩ _ (by simp)).trans zc9
  have zfd9 : A3.frozen? ⟨w.heap.size + 2, 9, none⟩ = false := by rw [hA3, World.frozen?_setCell]; exact zfc9
  have yd10 : A3.cell? ⟨w.heap.size + 1, 10, none⟩ = some (.int .i64 0) := by rw [hA3, World.cell?_setCell_far _ _ _ _ (by simp)]; exact yc10
  have yfd10 : A3.frozen? ⟨w.heap.size + 1, 10, none⟩ = false := by rw [hA3, World.frozen?_setCell]; exact yfc10
  have zd10 : A3.cell? ⟨w.heap.size + 2, 10, none⟩ = some (.int .i64 0) := by rw [hA3]; exact (World.cell?_setCell_other _ ⟨w.heap.size + 2, 3, none⟩ ⟨w.heap.size + 2, 10, none⟩ _ (by simp)).trans zc10
  have zfd10 : A3.frozen? ⟨w.heap.size + 2, 10, none⟩ = false := by rw [hA3, World.frozen?_setCell]; exact zfc10
  have yd11 : A3.cell? ⟨w.heap.size + 1, 11, none⟩ = some (.int .i64 0) := by rw [hA3, World.cell?_setCell_far _ _ _ _ (by simp)]; exact yc11
  have yfd11 : A3.frozen? ⟨w.heap.size + 1, 11, none⟩ = false := by rw [hA3, World.frozen?_setCell]; exact yfc11
  have zd11 : A3.cell? ⟨w.heap.size + 2, 11, none⟩ = some (.int .i64 0) := by rw [hA3]; exact (World.cell?_setCell_other _ ⟨w.heap.size + 2, 3, none⟩ ⟨w.heap.size + 2, 11, none⟩ _ (by simp)).trans zc11
  have zfd11 : A3.frozen? ⟨w.heap.size + 2, 11, none⟩ = false := by rw [hA3, World.frozen?_setCell]; exact zfc11
  have gA2 : w.heap.size + 3 < A2.heap.size := by omega
  have r0C : A3.ownsRow w.heap.size 2 1 (.slice (some ⟨w.heap.size + 3, 0, none⟩) pk.length pk.length) pk.length (pk.map (.int .i64)) := by rw [hA3]; exact row_set r0B _ _ _ (Nat.lt_succ_self _)
  have r1C : A3.ownsRow w.heap.size 57 3 (.slice (some ⟨A2.heap.size, 0, none⟩) V.length V.length) V.length (flatV V) := by rw [hA3]; exact row_set (owned_base r1 hbA2.size) _ _ _ (by omega)
  refine Calls.mono (toMS_any ma S mc _ (hS.moved hbA3) hfS ls) ?_
  rintro e u3 ⟨rfl, r2, hb3⟩
  have ke5 := (hb3.cell (World.block_lt_of_cell? _ _ kd5)).trans kd5
  have ke6 := (hb3.cell (World.block_lt_of_cell? _ _ kd6)).trans kd6
  have ke7 := (hb3.cell (World.block_lt_of_cell? _ _ kd7)).trans kd7
  have ke8 := (hb3.cell (World.block_lt_of_cell? _ _ kd8)).trans kd8
  have ke9 := (hb3.cell (World.block_lt_of_cell? _ _ kd9)).trans kd9
  have ke10 := (hb3.cell (World.block_lt_of_cell? _ _ kd10)).trans kd10
  have ke11 := (hb3.cell (World.block_lt_of_cell? _ _ kd11)).trans kd11
  have ye0 := (hb3.cell (World.block_lt_of_cell? _ _ yd0)).trans yd0
  have yfe0 := (hb3.frozen (p := ⟨w.heap.size + 1, 0, none⟩) (World.block_lt_of_cell? _ _ yd0)).trans yfd0
  have ze0 := (hb3.cell (World.block_lt_of_cell? _ _ zd0)).trans zd0
  have zfe0 := (hb3.frozen (p := ⟨w.heap.size + 2, 0, none⟩) (World.block_lt_of_cell? _ _ zd0)).trans zfd0
  have ye1 := (hb3.cell (World.block_lt_of_cell? _ _ yd1)).trans yd1
  have yfe1 := (hb3.frozen (p := ⟨w.heap.size + 1, 1, none⟩) (World.block_lt_of_cell? _ _ yd1)).trans yfd1
  have ze1 := (hb3.cell (World.block_lt_of_cell? _ _ zd1)).trans zd1
  have zfe1 := (hb3.frozen (p := ⟨w.heap.size + 2, 1, none⟩) (World.block_lt_of_cell? _ _ zd1)).trans zfd1
  have ye2 := (hb3.cell (World.block_lt_of_cell? _ _ yd2)).trans yd2
  have yfe2 := (hb3.frozen (p := ⟨w.heap.size + 1, 2, none⟩) (World.block_lt_of_cell? _ _ yd2)).trans yfd2
  have ze2 := (hb3.cell (World.block_lt_of_cell? _ _ zd2)).trans zd2
  have zfe2 := (hb3.frozen (p := ⟨w.heap.size + 2, 2, none⟩) (World.block_lt_of_cell? _ _ zd2)).trans zfd2
  have ye3 := (hb3.cell (World.block_lt_of_cell? _ _ yd3)).trans yd3
  have yfe3 := (hb3.frozen (p := ⟨w.heap.size + 1, 3, none⟩) (World.block_lt_of_cell? _ _ yd3)).trans yfd3
  have ze3 := (hb3.cell (World.block_lt_of_cell? _ _ zd3)).trans zd3
  have zfe3 := (hb3.frozen (p := ⟨w.heap.size + 2, 3, none⟩) (World.block_lt_of_cell? _ _ zd3)).trans zfd3
  have ye4 := (hb3.cell (World.block_lt_of_cell? _ _ yd4)).trans yd4
  have yfe4 := (hb3.frozen (p := ⟨w.heap.size + 1, 4, none⟩) (World.block_lt_of_cell? _ _ yd4)).trans yfd4
  have ze4 := (hb3.cell (World.block_lt_of_cell? _ _ zd4)).trans zd4
  have zfe4 := (hb3.frozen (p := ⟨w.heap.size + 2, 4, none⟩) (World.block_lt_of_cell? _ _ zd4)).trans zfd4
  have ye5 := (hb3.cell (World.block_lt_of_cell? _ _ yd5)).trans yd5
  have yfe5 := (hb3.frozen (p := ⟨w.heap.size + 1, 5, none⟩) (World.block_lt_of_cell? _ _ yd5)).trans yfd5
  have ze5 := (hb3.cell (World.block_lt_of_cell? _ _ zd5)).trans zd5
  have zfe5 := (hb3.frozen (p := ⟨w.heap.size + 2, 5, none⟩) (World.block_lt_of_cell? _ _ zd5)).trans zfd5
  have ye6 := (hb3.cell (World.block_lt_of_cell? _ _ yd6)).trans yd6
  have yfe6 := (hb3.frozen (p := ⟨w.heap.size + 1, 6, none⟩) (World.block_lt_of_cell? _ _ yd6)).trans yfd6
  have ze6 := (hb3.cell (World.block_lt_of_cell? _ _ zd6)).trans zd6
  have zfe6 := (hb3.frozen (p := ⟨w.heap.size + 2, 6, none⟩) (World.block_lt_of_cell? _ _ zd6)).trans zfd6
  have ye7 := (hb3.cell (World.block_lt_of_cell? _ _ yd7)).trans yd7
  have yfe7 := (hb3.frozen (p := ⟨w.heap.size + 1, 7, none⟩) (World.block_lt_of_cell? _ _ yd7)).trans yfd7
  have ze7 := (hb3.cell (World.block_lt_of_cell? _ _ zd7)).trans zd7
  have zfe7 := (hb3.frozen (p := ⟨w.heap.size + 2, 7, none⟩) (World.block_lt_of_cell? _ _ zd7)).trans zfd7
  have ye8 := (hb3.cell (World.block_lt_of_cell? _ _ yd8)).trans yd8
  have yfe8 := (hb3.frozen (p := ⟨w.heap.size + 1, 8, none⟩) (World.block_lt_of_cell? _ _ yd8)).trans yfd8
  have ze8 := (hb3.cell (World.block_lt_of_cell? _ _ zd8)).trans zd8
  have zfe8 := (hb3.frozen (p := ⟨w.heap.size + 2, 8, none⟩) (World.block_lt_of_cell? _ _ zd8)).trans zfd8
  have ye9 := (hb3.cell (World.block_lt_of_cell? _ _ yd9)).trans yd9
  have yfe9 := (hb3.frozen (p := ⟨w.heap.size + 1, 9, none⟩) (World.block_lt_of_cell? _ _ yd9)).trans yfd9
  have ze9 := (hb3.cell (World.block_lt_of_cell? _ _ zd9)).trans zd9
  have zfe9 := (hb3.frozen (p := ⟨w.heap.size + 2, 9, none⟩) (World.block_lt_of_cell? _ _ zd9)).trans zfd9
  have ye10 := (hb3.cell (World.block_lt_of_cell? _ _ yd10)).trans yd10
  have yfe10 := (hb3.frozen (p := ⟨w.heap.size + 1, 10, none⟩) (World.block_lt_of_cell? _ _ yd10)).trans yfd10
  have ze10 := (hb3.cell (World.block_lt_of_cell? _ _ zd10)).trans zd10
  have zfe10 := (hb3.frozen (p := ⟨w.heap.size + 2, 10, none⟩) (World.block_lt_of_cell? _ _ zd10)).trans zfd10
  have ye11 := (hb3.cell (World.block_lt_of_cell? _ _ yd11)).trans yd11
  have yfe11 := (hb3.frozen (p := ⟨w.heap.size + 1, 11, none⟩) (World.block_lt_of_cell? _ _ yd11)).trans yfd11
  have ze11 := (hb3.cell (World.block_lt_of_cell? _ _ zd11)).trans zd11
  have zfe11 := (hb3.frozen (p := ⟨w.heap.size + 2, 11, none⟩) (World.block_lt_of_cell? _ _ zd11)).trans zfd11
  have r0D := owned_kept r0C hb3
  have r1D := owned_kept r1C hb3
  have r2D := owned_base r2 hbA3.size
  have hbu3 := hbA3.trans (hb3.mono hbA3.size)
  have su3 : A3.heap.size < u3.heap.size := (r2.lt _ rfl).2
  have gA3 : A2.heap.size < A3.heap.size := by omega
  clear hA3 hb3 r0 r0A r0B r1 r0C r1C r2
  clear kc4 kc5 kc6 kc7 kc8 kc9 kc10 kc11 yc0 yc1 yc2 yc3 yc4 yc5 yc6 yc7 yc8 yc9 yc10 yc11 yfc0 yfc1 yfc2 yfc3 yfc4 yfc5 yfc6 yfc7 yfc8 yfc9 yfc10 yfc11 zc0 zc1 zc2 zc3 zc4 zc5 zc6 zc7 zc8 zc9 zc10 zc11 zfc0 zfc1 zfc2 zfc3 zfc4 zfc5 zfc6 zfc7 zfc8 zfc9 zfc10 zfc11
  clear kd4 kd5 kd6 kd7 kd8 kd9 kd10 kd11 yd0 yd1 yd2 yd3 yd4 yd5 yd6 yd7 yd8 yd9 yd10 yd11 yfd0 yfd1 yfd2 yfd3 yfd4 yfd5 yfd6 yfd7 yfd8 yfd9 yfd10 yfd11 zd0 zd1 zd2 zd3 zd4 zd5 zd6 zd7 zd8 zd9 zd10 zd11 zfd0 zfd1 zfd2 zfd3 zfd4 zfd5 zfd6 zfd7 zfd8 zfd9 zfd10 zfd11
  rw [sA2] at r1D gA2
  rw [sA3] at r2D
  go_wp2
  refine bodyPost_ret (v := .agg #[.int .i64 pol, .int .i64 tur, .slice (some ⟨w.heap.size + 3, 0, none⟩) pk.length pk.length, .slice (some ⟨u1.heap.size, 0, none⟩) V.length V.length, .slice (some ⟨u2.heap.size, 0, none⟩) S.length S.length, .int .i64 mx, .int .u64 mp, .int .u64 wt, .int .u64 ed, .int .i64 cl, .int .i64 fm, .int .i64 pl]) (by simp [results, Try.results31, go_sem, ye0, ye1, ye2, ye3, ye4, ye5, ye6, ye7, ye8, ye9, ye10, ye11]) rfl ⟨w.heap.size + 3, u1.heap.size, u2.heap.size, rfl, ⟨by omega, by omega, by omega, by simp; omega, ?_, ?_, ?_, ?_⟩⟩
  · iterate 20 refine row_set ?_ _ _ _ (by omega)
    exact r0D
  · iterate 20 refine row_set ?_ _ _ _ (by omega)
    exact r1D
  · iterate 20 refine row_set ?_ _ _ _ (by omega)
    exact r2D
  · iterate 20 refine Below.setCell ?_ (by first | omega | (simp; done) | (simp; omega)) _
    exact hbu3
end Go.Proofs.Ytlagaiekoahjnaa
