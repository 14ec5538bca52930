import Derived.Test.YtjiaiaclmceeeaaSpecParse
import Derived.Deep.RegionHeld3
namespace Go.Proofs.Ytjiaiaclmceeeaa
open Go.ChangeShapes Go.WideShapes Go.ChangeAt Go.RowKit
set_option linter.unusedVariables false

set_option maxRecDepth 100000 in
set_option maxHeartbeats 1000000 in
theorem configOf_is (n0 n1 n2 n3 n4 n5 n6 n7 n8 n9 n10 n11 : Int) (w : World) : Calls Try.prog 18 #[.agg #[.int .i64 n0, .int .i64 n1, .int .i64 n2, .int .i64 n3, .int .i64 n4, .int .i64 n5, .int .i64 n6, .int .i64 n7, .int .i64 n8, .int .i64 n9, .int .i64 n10, .int .i64 n11]] w fun e w' => e = .returned (.agg #[.int .i64 n0, .int .i64 n1, .int .i64 n2, .int .i64 n3, .int .i64 n4, .int .i64 n5, .int .i64 n6, .int .i64 n7, .int .i64 n8, .int .i64 n9, .int .i64 n10, .int .u32 (n11 % 4294967296)]) ∧ Below w.heap.size w w' := by
  have hbW := fun o : Obj => (Below.refl w.heap.size w).alloc (Nat.le_refl _) o
  have hbX := fun o o1 : Obj => (hbW o).alloc (by simp) o1
  go_enter Try.func18, Try.ntmps18
  go_wp2
  exact bodyPost_ret (v := .agg #[.int .i64 n0, .int .i64 n1, .int .i64 n2, .int .i64 n3, .int .i64 n4, .int .i64 n5, .int .i64 n6, .int .i64 n7, .int .i64 n8, .int .i64 n9, .int .i64 n10, .int .u32 (n11 % 4294967296)]) (by simp [results, Try.results18, go_sem]) rfl ⟨rfl, hbX _ _⟩

set_option maxRecDepth 100000 in
set_option maxHeartbeats 1000000 in
theorem impl_cut (s : ByteArray) (hn : s.size ≤ 1048576) (hg : ¬ Good s) : Cfgs 9 s #[.int .i64 0, .int .i64 0, .int .i64 0, .int .i64 0, .int .i64 0, .int .i64 0, .int .i64 0, .int .i64 0, .int .i64 0, .int .i64 0, .int .i64 0, .int .u32 0] 16 := by
  intro w
  obtain ⟨W, hW⟩ : ∃ W, W = w.alloc (.cells #[.int .i64 0, .int .i64 0, .int .i64 0, .int .i64 0, .int .i64 0, .int .i64 0, .int .i64 0, .int .i64 0, .int .i64 0, .int .i64 0, .int .i64 0, .int .u32 0] 26) := ⟨_, rfl⟩
  have hbW : Below w.heap.size w W := by rw [hW]; exact (Below.refl _ _).alloc (Nat.le_refl _) _
  have z0 : W.cell? ⟨w.heap.size, 0, none⟩ = some (.int .i64 0) := by rw [hW]; simp
  have zf0 : W.frozen? ⟨w.heap.size, 0, none⟩ = false := by rw [hW]; simp
  have z1 : W.cell? ⟨w.heap.size, 1, none⟩ = some (.int .i64 0) := by rw [hW]; simp
  have zf1 : W.frozen? ⟨w.heap.size, 1, none⟩ = false := by rw [hW]; simp
  have z2 : W.cell? ⟨w.heap.size, 2, none⟩ = some (.int .i64 0) := by rw [hW]; simp
  have zf2 : W.frozen? ⟨w.heap.size, 2, none⟩ = false := by rw [hW]; simp
  have z3 : W.cell? ⟨w.heap.size, 3, none⟩ = some (.int .i64 0) := by rw [hW]; simp
  have zf3 : W.frozen? ⟨w.heap.size, 3, none⟩ = false := by rw [hW]; simp
  have z4 : W.cell? ⟨w.heap.size, 4, none⟩ = some (.int .i64 0) := by rw [hW]; simp
  have zf4 : W.frozen? ⟨w.heap.size, 4, none⟩ = false := by rw [hW]; simp
  have z5 : W.cell? ⟨w.heap.size, 5, none⟩ = some (.int .i64 0) := by rw [hW]; simp
  have zf5 : W.frozen? ⟨w.heap.size, 5, none⟩ = false := by rw [hW]; simp
  have z6 : W.cell? ⟨w.heap.size, 6, none⟩ = some (.int .i64 0) := by rw [hW]; simp
  have zf6 : W.frozen? ⟨w.heap.size, 6, none⟩ = false := by rw [hW]; simp
  have z7 : W.cell? ⟨w.heap.size, 7, none⟩ = some (.int .i64 0) := by rw [hW]; simp
  have zf7 : W.frozen? ⟨w.heap.size, 7, none⟩ = false := by rw [hW]; simp
  have z8 : W.cell? ⟨w.heap.size, 8, none⟩ = some (.int .i64 0) := by rw [hW]; simp
  have zf8 : W.frozen? ⟨w.heap.size, 8, none⟩ = false := by rw [hW]; simp
  have z9 : W.cell? ⟨w.heap.size, 9, none⟩ = some (.int .i64 0) := by rw [hW]; simp
  have zf9 : W.frozen? ⟨w.heap.size, 9, none⟩ = false := by rw [hW]; simp
  have z10 : W.cell? ⟨w.heap.size, 10, none⟩ = some (.int .i64 0) := by rw [hW]; simp
  have zf10 : W.frozen? ⟨w.heap.size, 10, none⟩ = false := by rw [hW]; simp
  have z11 : W.cell? ⟨w.heap.size, 11, none⟩ = some (.int .u32 0) := by rw [hW]; simp
  have zf11 : W.frozen? ⟨w.heap.size, 11, none⟩ = false := by rw [hW]; simp
  go_enter Try.func9, Try.ntmps9
  go_wp2_with fail
  rw [← hW]
  refine Calls.mono (implCut s _ hn) ?_
  rintro e w1 ⟨⟨h, _⟩ | ⟨_, rfl⟩, hb1⟩
  · exact absurd h hg
  clear hW
  have y0 := (hb1.cell (World.block_lt_of_cell? _ _ z0)).trans z0
  have yf0 := (hb1.frozen (p := ⟨w.heap.size, 0, none⟩) (World.block_lt_of_cell? _ _ z0)).trans zf0
  have y1 := (hb1.cell (World.block_lt_of_cell? _ _ z1)).trans z1
  have yf1 := (hb1.frozen (p := ⟨w.heap.size, 1, none⟩) (World.block_lt_of_cell? _ _ z1)).trans zf1
  have y2 := (hb1.cell (World.block_lt_of_cell? _ _ z2)).trans z2
  have yf2 := (hb1.frozen (p := ⟨w.heap.size, 2, none⟩) (World.block_lt_of_cell? _ _ z2)).trans zf2
  have y3 := (hb1.cell (World.block_lt_of_cell? _ _ z3)).trans z3
  have yf3 := (hb1.frozen (p := ⟨w.heap.size, 3, none⟩) (World.block_lt_of_cell? _ _ z3)).trans zf3
  have y4 := (hb1.cell (World.block_lt_of_cell? _ _ z4)).trans z4
  have yf4 := (hb1.frozen (p := ⟨w.heap.size, 4, none⟩) (World.block_lt_of_cell? _ _ z4)).trans zf4
  have y5 := (hb1.cell (World.block_lt_of_cell? _ _ z5)).trans z5
  have yf5 := (hb1.frozen (p := ⟨w.heap.size, 5, none⟩) (World.block_lt_of_cell? _ _ z5)).trans zf5
  have y6 := (hb1.cell (World.block_lt_of_cell? _ _ z6)).trans z6
  have yf6 := (hb1.frozen (p := ⟨w.heap.size, 6, none⟩) (World.block_lt_of_cell? _ _ z6)).trans zf6
  have y7 := (hb1.cell (World.block_lt_of_cell? _ _ z7)).trans z7
  have yf7 := (hb1.frozen (p := ⟨w.heap.size, 7, none⟩) (World.block_lt_of_cell? _ _ z7)).trans zf7
  have y8 := (hb1.cell (World.block_lt_of_cell? _ _ z8)).trans z8
  have yf8 := (hb1.frozen (p := ⟨w.heap.size, 8, none⟩) (World.block_lt_of_cell? _ _ z8)).trans zf8
  have y9 := (hb1.cell (World.block_lt_of_cell? _ _ z9)).trans z9
  have yf9 := (hb1.frozen (p := ⟨w.heap.size, 9, none⟩) (World.block_lt_of_cell? _ _ z9)).trans zf9
  have y10 := (hb1.cell (World.block_lt_of_cell? _ _ z10)).trans z10
  have yf10 := (hb1.frozen (p := ⟨w.heap.size, 10, none⟩) (World.block_lt_of_cell? _ _ z10)).trans zf10
  have y11 := (hb1.cell (World.block_lt_of_cell? _ _ z11)).trans z11
  have yf11 := (hb1.frozen (p := ⟨w.heap.size, 11, none⟩) (World.block_lt_of_cell? _ _ z11)).trans zf11
  clear z0 z1 z2 z3 z4 z5 z6 z7 z8 z9 z10 z11 zf0 zf1 zf2 zf3 zf4 zf5 zf6 zf7 zf8 zf9 zf10 zf11
  have hbw1 := hbW.trans (hb1.mono hbW.size)
  clear hb1
  go_wp2
  exact bodyPost_ret (v := .tuple #[.agg #[.int .i64 0, .int .i64 0, .int .i64 0, .int .i64 0, .int .i64 0, .int .i64 0, .int .i64 0, .int .i64 0, .int .i64 0, .int .i64 0, .int .i64 0, .int .u32 0], .int .i64 16]) (by simp [results, Try.results9, go_sem, y0, y1, y2, y3, y4, y5, y6, y7, y8, y9, y10, y11]) rfl ⟨rfl, below_set12 hbw1 w.heap.size (Nat.le_refl _) _ _ _ _ _ _ _ _ _ _ _ _⟩

set_option maxRecDepth 100000 in
set_option maxHeartbeats 1000000 in
theorem impl_len (s : ByteArray) (hn : s.size ≤ 1048576) (hg : Good s) (h : ¬ (wordsOf s).length = 13) : Cfgs 9 s #[.int .i64 0, .int .i64 0, .int .i64 0, .int .i64 0, .int .i64 0, .int .i64 0, .int .i64 0, .int .i64 0, .int .i64 0, .int .i64 0, .int .i64 0, .int .u32 0] 16 := by
  intro w
  obtain ⟨W, hW⟩ : ∃ W, W = w.alloc (.cells #[.int .i64 0, .int .i64 0, .int .i64 0, .int .i64 0, .int .i64 0, .int .i64 0, .int .i64 0, .int .i64 0, .int .i64 0, .int .i64 0, .int .i64 0, .int .u32 0] 26) := ⟨_, rfl⟩
  have hbW : Below w.heap.size w W := by rw [hW]; exact (Below.refl _ _).alloc (Nat.le_refl _) _
  have z0 : W.cell? ⟨w.heap.size, 0, none⟩ = some (.int .i64 0) := by rw [hW]; simp
  have zf0 : W.frozen? ⟨w.heap.size, 0, none⟩ = false := by rw [hW]; simp
  have z1 : W.cell? ⟨w.heap.size, 1, none⟩ = some (.int .i64 0) := by rw [hW]; simp
  have zf1 : W.frozen? ⟨w.heap.size, 1, none⟩ = false := by rw [hW]; simp
  have z2 : W.cell? ⟨w.heap.size, 2, none⟩ = some (.int .i64 0) := by rw [hW]; simp
  have zf2 : W.frozen? ⟨w.heap.size, 2, none⟩ = false := by rw [hW]; simp
  have z3 : W.cell? ⟨w.heap.size, 3, none⟩ = some (.int .i64 0) := by rw [hW]; simp
  have zf3 : W.frozen? ⟨w.heap.size, 3, none⟩ = false := by rw [hW]; simp
  have z4 : W.cell? ⟨w.heap.size, 4, none⟩ = some (.int .i64 0) := by rw [hW]; simp
  have zf4 : W.frozen? ⟨w.heap.size, 4, none⟩ = false := by rw [hW]; simp
  have z5 : W.cell? ⟨w.heap.size, 5, none⟩ = some (.int .i64 0) := by rw [hW]; simp
  have zf5 : W.frozen? ⟨w.heap.size, 5, none⟩ = false := by rw [hW]; simp
  have z6 : W.cell? ⟨w.heap.size, 6, none⟩ = some (.int .i64 0) := by rw [hW]; simp
  have zf6 : W.frozen? ⟨w.heap.size, 6, none⟩ = false := by rw [hW]; simp
  have z7 : W.cell? ⟨w.heap.size, 7, none⟩ = some (.int .i64 0) := by rw [hW]; simp
  have zf7 : W.frozen? ⟨w.heap.size, 7, none⟩ = false := by rw [hW]; simp
  have z8 : W.cell? ⟨w.heap.size, 8, none⟩ = some (.int .i64 0) := by rw [hW]; simp
  have zf8 : W.frozen? ⟨w.heap.size, 8, none⟩ = false := by rw [hW]; simp
  have z9 : W.cell? ⟨w.heap.size, 9, none⟩ = some (.int .i64 0) := by rw [hW]; simp
  have zf9 : W.frozen? ⟨w.heap.size, 9, none⟩ = false := by rw [hW]; simp
  have z10 : W.cell? ⟨w.heap.size, 10, none⟩ = some (.int .i64 0) := by rw [hW]; simp
  have zf10 : W.frozen? ⟨w.heap.size, 10, none⟩ = false := by rw [hW]; simp
  have z11 : W.cell? ⟨w.heap.size, 11, none⟩ = some (.int .u32 0) := by rw [hW]; simp
  have zf11 : W.frozen? ⟨w.heap.size, 11, none⟩ = false := by rw [hW]; simp
  go_enter Try.func9, Try.ntmps9
  go_wp2_with fail
  rw [← hW]
  refine Calls.mono (implCut s _ hn) ?_
  rintro e w1 ⟨⟨_, av, cp, rfl, ho⟩ | ⟨h, _⟩, hb1⟩
  rotate_left
  · exact absurd hg h
  clear hW
  have y0 := (hb1.cell (World.block_lt_of_cell? _ _ z0)).trans z0
  have yf0 := (hb1.frozen (p := ⟨w.heap.size, 0, none⟩) (World.block_lt_of_cell? _ _ z0)).trans zf0
  have y1 := (hb1.cell (World.block_lt_of_cell? _ _ z1)).trans z1
  have yf1 := (hb1.frozen (p := ⟨w.heap.size, 1, none⟩) (World.block_lt_of_cell? _ _ z1)).trans zf1
  have y2 := (hb1.cell (World.block_lt_of_cell? _ _ z2)).trans z2
  have yf2 := (hb1.frozen (p := ⟨w.heap.size, 2, none⟩) (World.block_lt_of_cell? _ _ z2)).trans zf2
  have y3 := (hb1.cell (World.block_lt_of_cell? _ _ z3)).trans z3
  have yf3 := (hb1.frozen (p := ⟨w.heap.size, 3, none⟩) (World.block_lt_of_cell? _ _ z3)).trans zf3
  have y4 := (hb1.cell (World.block_lt_of_cell? _ _ z4)).trans z4
  have yf4 := (hb1.frozen (p := ⟨w.heap.size, 4, none⟩) (World.block_lt_of_cell? _ _ z4)).trans zf4
  have y5 := (hb1.cell (World.block_lt_of_cell? _ _ z5)).trans z5
  have yf5 := (hb1.frozen (p := ⟨w.heap.size, 5, none⟩) (World.block_lt_of_cell? _ _ z5)).trans zf5
  have y6 := (hb1.cell (World.block_lt_of_cell? _ _ z6)).trans z6
  have yf6 := (hb1.frozen (p := ⟨w.heap.size, 6, none⟩) (World.block_lt_of_cell? _ _ z6)).trans zf6
  have y7 := (hb1.cell (World.block_lt_of_cell? _ _ z7)).trans z7
  have yf7 := (hb1.frozen (p := ⟨w.heap.size, 7, none⟩) (World.block_lt_of_cell? _ _ z7)).trans zf7
  have y8 := (hb1.cell (World.block_lt_of_cell? _ _ z8)).trans z8
  have yf8 := (hb1.frozen (p := ⟨w.heap.size, 8, none⟩) (World.block_lt_of_cell? _ _ z8)).trans zf8
  have y9 := (hb1.cell (World.block_lt_of_cell? _ _ z9)).trans z9
  have yf9 := (hb1.frozen (p := ⟨w.heap.size, 9, none⟩) (World.block_lt_of_cell? _ _ z9)).trans zf9
  have y10 := (hb1.cell (World.block_lt_of_cell? _ _ z10)).trans z10
  have yf10 := (hb1.frozen (p := ⟨w.heap.size, 10, none⟩) (World.block_lt_of_cell? _ _ z10)).trans zf10
  have y11 := (hb1.cell (World.block_lt_of_cell? _ _ z11)).trans z11
  have yf11 := (hb1.frozen (p := ⟨w.heap.size, 11, none⟩) (World.block_lt_of_cell? _ _ z11)).trans zf11
  clear z0 z1 z2 z3 z4 z5 z6 z7 z8 z9 z10 z11 zf0 zf1 zf2 zf3 zf4 zf5 zf6 zf7 zf8 zf9 zf10 zf11
  have hbw1 := hbW.trans (hb1.mono hbW.size)
  have bl : w.heap.size < w1.heap.size := World.block_lt_of_cell? _ _ y0
  obtain ⟨N, hN⟩ : ∃ N, N = (wordsOf s).length := ⟨_, rfl⟩
  rw [← hN] at h
  rw [← hN]
  have h' : ¬ (N : Int) = 13 := by omega
  clear hN ho
  go_wp2
  exact bodyPost_ret (v := .tuple #[.agg #[.int .i64 0, .int .i64 0, .int .i64 0, .int .i64 0, .int .i64 0, .int .i64 0, .int .i64 0, .int .i64 0, .int .i64 0, .int .i64 0, .int .i64 0, .int .u32 0], .int .i64 16]) (by simp [results, Try.results9, go_sem, y0, y1, y2, y3, y4, y5, y6, y7, y8, y9, y10, y11]) rfl ⟨rfl, below_set12 hbw1 w.heap.size (Nat.le_refl _) _ _ _ _ _ _ _ _ _ _ _ _⟩

set_option maxRecDepth 100000 in
set_option maxHeartbeats 1000000 in
theorem impl_word (s : ByteArray) (hn : s.size ≤ 1048576) (hg : Good s) (h : (wordsOf s).length = 13) (h0 : ¬ word s 0 = conf) : Cfgs 9 s #[.int .i64 0, .int .i64 0, .int .i64 0, .int .i64 0, .int .i64 0, .int .i64 0, .int .i64 0, .int .i64 0, .int .i64 0, .int .i64 0, .int .i64 0, .int .u32 0] 16 := by
  intro w
  obtain ⟨W, hW⟩ : ∃ W, W = w.alloc (.cells #[.int .i64 0, .int .i64 0, .int .i64 0, .int .i64 0, .int .i64 0, .int .i64 0, .int .i64 0, .int .i64 0, .int .i64 0, .int .i64 0, .int .i64 0, .int .u32 0] 26) := ⟨_, rfl⟩
  have hbW : Below w.heap.size w W := by rw [hW]; exact (Below.refl _ _).alloc (Nat.le_refl _) _
  have z0 : W.cell? ⟨w.heap.size, 0, none⟩ = some (.int .i64 0) := by rw [hW]; simp
  have zf0 : W.frozen? ⟨w.heap.size, 0, none⟩ = false := by rw [hW]; simp
  have z1 : W.cell? ⟨w.heap.size, 1, none⟩ = some (.int .i64 0) := by rw [hW]; simp
  have zf1 : W.frozen? ⟨w.heap.size, 1, none⟩ = false := by rw [hW]; simp
  have z2 : W.cell? ⟨w.heap.size, 2, none⟩ = some (.int .i64 0) := by rw [hW]; simp
  have zf2 : W.frozen? ⟨w.heap.size, 2, none⟩ = false := by rw [hW]; simp
  have z3 : W.cell? ⟨w.heap.size, 3, none⟩ = some (.int .i64 0) := by rw [hW]; simp
  have zf3 : W.frozen? ⟨w.heap.size, 3, none⟩ = false := by rw [hW]; simp
  have z4 : W.cell? ⟨w.heap.size, 4, none⟩ = some (.int .i64 0) := by rw [hW]; simp
  have zf4 : W.frozen? ⟨w.heap.size, 4, none⟩ = false := by rw [hW]; simp
  have z5 : W.cell? ⟨w.heap.size, 5, none⟩ = some (.int .i64 0) := by rw [hW]; simp
  have zf5 : W.frozen? ⟨w.heap.size, 5, none⟩ = false := by rw [hW]; simp
  have z6 : W.cell? ⟨w.heap.size, 6, none⟩ = some (.int .i64 0) := by rw [hW]; simp
  have zf6 : W.frozen? ⟨w.heap.size, 6, none⟩ = false := by rw [hW]; simp
  have z7 : W.cell? ⟨w.heap.size, 7, none⟩ = some (.int .i64 0) := by rw [hW]; simp
  have zf7 : W.frozen? ⟨w.heap.size, 7, none⟩ = false := by rw [hW]; simp
  have z8 : W.cell? ⟨w.heap.size, 8, none⟩ = some (.int .i64 0) := by rw [hW]; simp
  have zf8 : W.frozen? ⟨w.heap.size, 8, none⟩ = false := by rw [hW]; simp
  have z9 : W.cell? ⟨w.heap.size, 9, none⟩ = some (.int .i64 0) := by rw [hW]; simp
  have zf9 : W.frozen? ⟨w.heap.size, 9, none⟩ = false := by rw [hW]; simp
  have z10 : W.cell? ⟨w.heap.size, 10, none⟩ = some (.int .i64 0) := by rw [hW]; simp
  have zf10 : W.frozen? ⟨w.heap.size, 10, none⟩ = false := by rw [hW]; simp
  have z11 : W.cell? ⟨w.heap.size, 11, none⟩ = some (.int .u32 0) := by rw [hW]; simp
  have zf11 : W.frozen? ⟨w.heap.size, 11, none⟩ = false := by rw [hW]; simp
  go_enter Try.func9, Try.ntmps9
  go_wp2_with fail
  rw [← hW]
  refine Calls.mono (implCut s _ hn) ?_
  rintro e w1 ⟨⟨_, av, cp, rfl, ho⟩ | ⟨h, _⟩, hb1⟩
  rotate_left
  · exact absurd hg h
  clear hW
  have y0 := (hb1.cell (World.block_lt_of_cell? _ _ z0)).trans z0
  have yf0 := (hb1.frozen (p := ⟨w.heap.size, 0, none⟩) (World.block_lt_of_cell? _ _ z0)).trans zf0
  have y1 := (hb1.cell (World.block_lt_of_cell? _ _ z1)).trans z1
  have yf1 := (hb1.frozen (p := ⟨w.heap.size, 1, none⟩) (World.block_lt_of_cell? _ _ z1)).trans zf1
  have y2 := (hb1.cell (World.block_lt_of_cell? _ _ z2)).trans z2
  have yf2 := (hb1.frozen (p := ⟨w.heap.size, 2, none⟩) (World.block_lt_of_cell? _ _ z2)).trans zf2
  have y3 := (hb1.cell (World.block_lt_of_cell? _ _ z3)).trans z3
  have yf3 := (hb1.frozen (p := ⟨w.heap.size, 3, none⟩) (World.block_lt_of_cell? _ _ z3)).trans zf3
  have y4 := (hb1.cell (World.block_lt_of_cell? _ _ z4)).trans z4
  have yf4 := (hb1.frozen (p := ⟨w.heap.size, 4, none⟩) (World.block_lt_of_cell? _ _ z4)).trans zf4
  have y5 := (hb1.cell (World.block_lt_of_cell? _ _ z5)).trans z5
  have yf5 := (hb1.frozen (p := ⟨w.heap.size, 5, none⟩) (World.block_lt_of_cell? _ _ z5)).trans zf5
  have y6 := (hb1.cell (World.block_lt_of_cell? _ _ z6)).trans z6
  have yf6 := (hb1.frozen (p := ⟨w.heap.size, 6, none⟩) (World.block_lt_of_cell? _ _ z6)).trans zf6
  have y7 := (hb1.cell (World.block_lt_of_cell? _ _ z7)).trans z7
  have yf7 := (hb1.frozen (p := ⟨w.heap.size, 7, none⟩) (World.block_lt_of_cell? _ _ z7)).trans zf7
  have y8 := (hb1.cell (World.block_lt_of_cell? _ _ z8)).trans z8
  have yf8 := (hb1.frozen (p := ⟨w.heap.size, 8, none⟩) (World.block_lt_of_cell? _ _ z8)).trans zf8
  have y9 := (hb1.cell (World.block_lt_of_cell? _ _ z9)).trans z9
  have yf9 := (hb1.frozen (p := ⟨w.heap.size, 9, none⟩) (World.block_lt_of_cell? _ _ z9)).trans zf9
  have y10 := (hb1.cell (World.block_lt_of_cell? _ _ z10)).trans z10
  have yf10 := (hb1.frozen (p := ⟨w.heap.size, 10, none⟩) (World.block_lt_of_cell? _ _ z10)).trans zf10
  have y11 := (hb1.cell (World.block_lt_of_cell? _ _ z11)).trans z11
  have yf11 := (hb1.frozen (p := ⟨w.heap.size, 11, none⟩) (World.block_lt_of_cell? _ _ z11)).trans zf11
  clear z0 z1 z2 z3 z4 z5 z6 z7 z8 z9 z10 z11 zf0 zf1 zf2 zf3 zf4 zf5 zf6 zf7 zf8 zf9 zf10 zf11
  have hbw1 := hbW.trans (hb1.mono hbW.size)
  have bl : w.heap.size < w1.heap.size := World.block_lt_of_cell? _ _ y0
  have hS := LieS.ofRow ho
  rcases hS with hS | ⟨b, off, rfl, hc⟩
  · simp [hS] at h
  have q0 := hc 0 (by omega)
  simp only [Nat.add_zero] at q0
  obtain ⟨u, hu⟩ : ∃ u, u = word s 0 := ⟨_, rfl⟩
  rw [show (wordsOf s).getD 0 ⟨#[]⟩ = u from hu.symm] at q0
  rw [← hu] at h0
  have h1 : (u.toList == [99, 111, 110, 102, 105, 103]) = false := by
    cases e : u.toList == [99, 111, 110, 102, 105, 103] with
    | false => rfl
    | true => exact absurd (conf_of ((eq_of_beq e).trans conf_list.symm)) h0
  rw [h]
  clear hu hc ho h0
  go_wp2
  exact bodyPost_ret (v := .tuple #[.agg #[.int .i64 0, .int .i64 0, .int .i64 0, .int .i64 0, .int .i64 0, .int .i64 0, .int .i64 0, .int .i64 0, .int .i64 0, .int .i64 0, .int .i64 0, .int .u32 0], .int .i64 16]) (by simp [results, Try.results9, go_sem, y0, y1, y2, y3, y4, y5, y6, y7, y8, y9, y10, y11]) rfl ⟨rfl, below_set12 hbw1 w.heap.size (Nat.le_refl _) _ _ _ _ _ _ _ _ _ _ _ _⟩
end Go.Proofs.Ytjiaiaclmceeeaa
