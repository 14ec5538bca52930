import Derived.Test.YtjiaiaclmceeeaaStrMath
import Derived.Test.YtjiaiaclmceeeaaFair2
namespace Go.Proofs.Ytjiaiaclmceeeaa
open Go.ChangeShapes Go.WideShapes Go.ChangeAt Go.RowKit
set_option linter.unusedVariables false

theorem info_i64 : (Try.prog.info? 2).map (fun i => (i.zero, i.size, i.bytes)) = some (some (.int .i64 0), 1, 8) := by kernel_rfl
theorem below_set12 {B : Nat} {v w : World} (h : Below B v w) (g : Nat) (hg : B ≤ g) (u0 u1 u2 u3 u4 u5 u6 u7 u8 u9 u10 u11 : Value) :
    Below B v ((((((((((((w.setCell ⟨g, 0, none⟩ u0).setCell ⟨g, 1, none⟩ u1).setCell ⟨g, 2, none⟩ u2).setCell ⟨g, 3, none⟩ u3).setCell ⟨g, 4, none⟩ u4).setCell ⟨g, 5, none⟩ u5).setCell ⟨g, 6, none⟩ u6).setCell ⟨g, 7, none⟩ u7).setCell ⟨g, 8, none⟩ u8).setCell ⟨g, 9, none⟩ u9).setCell ⟨g, 10, none⟩ u10).setCell ⟨g, 11, none⟩ u11) :=
  ((((((((((((h.setCell (p := ⟨g, 0, none⟩) hg u0).setCell (p := ⟨g, 1, none⟩) hg u1).setCell (p := ⟨g, 2, none⟩) hg u2).setCell (p := ⟨g, 3, none⟩) hg u3).setCell (p := ⟨g, 4, none⟩) hg u4).setCell (p := ⟨g, 5, none⟩) hg u5).setCell (p := ⟨g, 6, none⟩) hg u6).setCell (p := ⟨g, 7, none⟩) hg u7).setCell (p := ⟨g, 8, none⟩) hg u8).setCell (p := ⟨g, 9, none⟩) hg u9).setCell (p := ⟨g, 10, none⟩) hg u10).setCell (p := ⟨g, 11, none⟩) hg u11)
theorem conf_list : conf.toList = [99, 111, 110, 102, 105, 103] := by unfold conf; exact ByteArray.toList_mk _
/-- What ParseConfig answers. -/
def Cfgs (fn : Nat) (s : ByteArray) (c : Array Value) (code : Int) : Prop := ∀ w : World, Calls Try.prog fn #[.string s] w fun e w' => e = .returned (.tuple #[.agg c, .int .i64 code]) ∧ Below w.heap.size w w'
/-- Word i of a line, and its number. -/
def word (s : ByteArray) (i : Nat) : ByteArray := (wordsOf s).getD i ⟨#[]⟩
def val (s : ByteArray) (i : Nat) : Int := (dig (word s i) (word s i).size : Nat)
def valsTo (s : ByteArray) (k : Nat) : List Int := (List.range k).map fun j => val s (j + 1)
theorem valsTo_succ (s : ByteArray) (k : Nat) : valsTo s (k + 1) = valsTo s k ++ [val s (k + 1)] := by simp [valsTo, List.range_succ]
theorem valsTo_length (s : ByteArray) (k : Nat) : (valsTo s k).length = k := by simp [valsTo]
/-- What numbers give. -/
def cfgOf (s : ByteArray) : Array Value := #[.int .i64 (val s 1), .int .i64 (val s 2), .int .i64 (val s 3), .int .i64 (val s 4), .int .i64 (val s 5), .int .i64 (val s 6), .int .i64 (val s 7), .int .i64 (val s 8), .int .i64 (val s 9), .int .i64 (val s 10), .int .i64 (val s 11), .int .u32 (val s 12 % 4294967296)]
def Out (s : ByteArray) (r : Bool) (c : Array Value) (code : Int) : Prop := ((4294967296 ≤ val s 12 ∨ r = false) ∧ c = #[.int .i64 0, .int .i64 0, .int .i64 0, .int .i64 0, .int .i64 0, .int .i64 0, .int .i64 0, .int .i64 0, .int .i64 0, .int .i64 0, .int .i64 0, .int .u32 0] ∧ code = 17) ∨ (val s 12 < 4294967296 ∧ r = true ∧ c = cfgOf s ∧ code = 0)
theorem bounds_of {s : ByteArray} (h : ∀ j, 1 ≤ j → j ≤ 12 → NumOK (word s j)) : ∀ j, 1 ≤ j → j ≤ 12 → 0 ≤ val s j ∧ val s j < 10000000000 := by
  intro j h1 h2
  have hj := h j h1 h2
  have := dig_top hj.2.2 hj.1.2
  unfold val
  omega

set_option maxRecDepth 100000 in
set_option maxHeartbeats 1000000 in
theorem spec_len (s : ByteArray) (hn : s.size ≤ 1048576) (h : ¬ (wordsOf s).length = 13) : Cfgs 8 s #[.int .i64 0, .int .i64 0, .int .i64 0, .int .i64 0, .int .i64 0, .int .i64 0, .int .i64 0, .int .i64 0, .int .i64 0, .int .i64 0, .int .i64 0, .int .u32 0] 16 := by
  intro w
  obtain ⟨W, hW⟩ : ∃ W, W = w.alloc (.cells #[.int .i64 0, .int .i64 0, .int .i64 0, .int .i64 0, .int .i64 0, .int .i64 0, .int .i64 0, .int .i64 0, .int .i64 0, .int .i64 0, .int .i64 0, .int .u32 0] 26) := ⟨_, rfl⟩
  have hbW : Below w.heap.size w W := by rw [hW]; exact (Below.refl _ _).alloc (Nat.le_refl _) _
  have z0 : W.cell? ⟨w.heap.size, 0, none⟩ = some (.int .i64 0) := by rw [hW]; simp
  have zf0 : W.frozen? ⟨w.heap.size, 0, none⟩ = false := by rw [hW]; simp
  have z1 : W.cell? ⟨w.heap.size, 1, none⟩ = some (.int .i64 0) := by rw [hW]; simp
  have zf1 : W.frozen? ⟨w.heap.size, 1, none⟩ = false := by rw [hW]; simp
  have z2 : W.cell? ⟨w.heap.size, 2, none⟩ = some (.int .i64 0) := by rw [hW]; simp
  have zf2 : W.frozen? ⟨w.heap.size, 2, none⟩ = false := by rw [hW]; simp
  have z3 : W.cell? ⟨w.heap.size, 3, none⟩ = some (.int .i64 0) := by rw [hW]; simp
  have zf3 : W.frozen? ⟨w.heap.size, 3, none⟩ = false := by rw [hW]; simp
  have z4 : W.cell? ⟨w.heap.size, 4, none⟩ = some (.int .i64 0) := by rw [hW]; simp
  have zf4 : W.frozen? ⟨w.heap.size, 4, none⟩ = false := by rw [hW]; simp
  have z5 : W.cell? ⟨w.heap.size, 5, none⟩ = some (.int .i64 0) := by rw [hW]; simp
  have zf5 : W.frozen? ⟨w.heap.size, 5, none⟩ = false := by rw [hW]; simp
  have z6 : W.cell? ⟨w.heap.size, 6, none⟩ = some (.int .i64 0) := by rw [hW]; simp
  have zf6 : W.frozen? ⟨w.heap.size, 6, none⟩ = false := by rw [hW]; simp
  have z7 : W.cell? ⟨w.heap.size, 7, none⟩ = some (.int .i64 0) := by rw [hW]; simp
  have zf7 : W.frozen? ⟨w.heap.size, 7, none⟩ = false := by rw [hW]; simp
  have z8 : W.cell? ⟨w.heap.size, 8, none⟩ = some (.int .i64 0) := by rw [hW]; simp
  have zf8 : W.frozen? ⟨w.heap.size, 8, none⟩ = false := by rw [hW]; simp
  have z9 : W.cell? ⟨w.heap.size, 9, none⟩ = some (.int .i64 0) := by rw [hW]; simp
  have zf9 : W.frozen? ⟨w.heap.size, 9, none⟩ = false := by rw [hW]; simp
  have z10 : W.cell? ⟨w.heap.size, 10, none⟩ = some (.int .i64 0) := by rw [hW]; simp
  have zf10 : W.frozen? ⟨w.heap.size, 10, none⟩ = false := by rw [hW]; simp
  have z11 : W.cell? ⟨w.heap.size, 11, none⟩ = some (.int .u32 0) := by rw [hW]; simp
  have zf11 : W.frozen? ⟨w.heap.size, 11, none⟩ = false := by rw [hW]; simp
  go_enter Try.func8, Try.ntmps8
  go_wp2_with fail
  rw [← hW]
  refine Calls.mono (specCut s _ hn) ?_
  rintro e w1 ⟨av, cp, rfl, ho, hb1⟩
  clear hW
  have y0 := (hb1.cell (World.block_lt_of_cell? _ _ z0)).trans z0
  have yf0 := (hb1.frozen (p := ⟨w.heap.size, 0, none⟩) (World.block_lt_of_cell? _ _ z0)).trans zf0
  have y1 := (hb1.cell (World.block_lt_of_cell? _ _ z1)).trans z1
  have yf1 := (hb1.frozen (p := ⟨w.heap.size, 1, none⟩) (World.block_lt_of_cell? _ _ z1)).trans zf1
  have y2 := (hb1.cell (World.block_lt_of_cell? _ _ z2)).trans z2
  have yf2 := (hb1.frozen (p := ⟨w.heap.size, 2, none⟩) (World.block_lt_of_cell? _ _ z2)).trans zf2
  have y3 := (hb1.cell (World.block_lt_of_cell? _ _ z3)).trans z3
  have yf3 := (hb1.frozen (p := ⟨w.heap.size, 3, none⟩) (World.block_lt_of_cell? _ _ z3)).trans zf3
  have y4 := (hb1.cell (World.block_lt_of_cell? _ _ z4)).trans z4
  have yf4 := (hb1.frozen (p := ⟨w.heap.size, 4, none⟩) (World.block_lt_of_cell? _ _ z4)).trans zf4
  have y5 := (hb1.cell (World.block_lt_of_cell? _ _ z5)).trans z5
  have yf5 := (hb1.frozen (p := ⟨w.heap.size, 5, none⟩) (World.block_lt_of_cell? _ _ z5)).trans zf5
  have y6 := (hb1.cell (World.block_lt_of_cell? _ _ z6)).trans z6
  have yf6 := (hb1.frozen (p := ⟨w.heap.size, 6, none⟩) (World.block_lt_of_cell? _ _ z6)).trans zf6
  have y7 := (hb1.cell (World.block_lt_of_cell? _ _ z7)).trans z7
  have yf7 := (hb1.frozen (p := ⟨w.heap.size, 7, none⟩) (World.block_lt_of_cell? _ _ z7)).trans zf7
  have y8 := (hb1.cell (World.block_lt_of_cell? _ _ z8)).trans z8
  have yf8 := (hb1.frozen (p := ⟨w.heap.size, 8, none⟩) (World.block_lt_of_cell? _ _ z8)).trans zf8
  have y9 := (hb1.cell (World.block_lt_of_cell? _ _ z9)).trans z9
  have yf9 := (hb1.frozen (p := ⟨w.heap.size, 9, none⟩) (World.block_lt_of_cell? _ _ z9)).trans zf9
  have y10 := (hb1.cell (World.block_lt_of_cell? _ _ z10)).trans z10
  have yf10 := (hb1.frozen (p := ⟨w.heap.size, 10, none⟩) (World.block_lt_of_cell? _ _ z10)).trans zf10
  have y11 := (hb1.cell (World.block_lt_of_cell? _ _ z11)).trans z11
  have yf11 := (hb1.frozen (p := ⟨w.heap.size, 11, none⟩) (World.block_lt_of_cell? _ _ z11)).trans zf11
  clear z0 z1 z2 z3 z4 z5 z6 z7 z8 z9 z10 z11 zf0 zf1 zf2 zf3 zf4 zf5 zf6 zf7 zf8 zf9 zf10 zf11
  have hbw1 := hbW.trans (hb1.mono hbW.size)
  have bl : w.heap.size < w1.heap.size := World.block_lt_of_cell? _ _ y0
  obtain ⟨N, hN⟩ : ∃ N, N = (wordsOf s).length := ⟨_, rfl⟩
  rw [← hN] at h
  rw [← hN]
  have h' : ¬ (N : Int) = 13 := by omega
  clear hN ho
  go_wp2
  exact bodyPost_ret (v := .tuple #[.agg #[.int .i64 0, .int .i64 0, .int .i64 0, .int .i64 0, .int .i64 0, .int .i64 0, .int .i64 0, .int .i64 0, .int .i64 0, .int .i64 0, .int .i64 0, .int .u32 0], .int .i64 16]) (by simp [results, Try.results8, go_sem, y0, y1, y2, y3, y4, y5, y6, y7, y8, y9, y10, y11]) rfl ⟨rfl, below_set12 hbw1 w.heap.size (Nat.le_refl _) _ _ _ _ _ _ _ _ _ _ _ _⟩

set_option maxRecDepth 100000 in
set_option maxHeartbeats 1000000 in
theorem spec_word (s : ByteArray) (hn : s.size ≤ 1048576) (h : (wordsOf s).length = 13) (h0 : ¬ word s 0 = conf) : Cfgs 8 s #[.int .i64 0, .int .i64 0, .int .i64 0, .int .i64 0, .int .i64 0, .int .i64 0, .int .i64 0, .int .i64 0, .int .i64 0, .int .i64 0, .int .i64 0, .int .u32 0] 16 := by
  intro w
  obtain ⟨W, hW⟩ : ∃ W, W = w.alloc (.cells #[.int .i64 0, .int .i64 0, .int .i64 0, .int .i64 0, .int .i64 0, .int .i64 0, .int .i64 0, .int .i64 0, .int .i64 0, .int .i64 0, .int .i64 0, .int .u32 0] 26) := ⟨_, rfl⟩
  have hbW : Below w.heap.size w W := by rw [hW]; exact (Below.refl _ _).alloc (Nat.le_refl _) _
  have z0 : W.cell? ⟨w.heap.size, 0, none⟩ = some (.int .i64 0) := by rw [hW]; simp
  have zf0 : W.frozen? ⟨w.heap.size, 0, none⟩ = false := by rw [hW]; simp
  have z1 : W.cell? ⟨w.heap.size, 1, none⟩ = some (.int .i64 0) := by rw [hW]; simp
  have zf1 : W.frozen? ⟨w.heap.size, 1, none⟩ = false := by rw [hW]; simp
  have z2 : W.cell? ⟨w.heap.size, 2, none⟩ = some (.int .i64 0) := by rw [hW]; simp
  have zf2 : W.frozen? ⟨w.heap.size, 2, none⟩ = false := by rw [hW]; simp
  have z3 : W.cell? ⟨w.heap.size, 3, none⟩ = some (.int .i64 0) := by rw [hW]; simp
  have zf3 : W.frozen? ⟨w.heap.size, 3, none⟩ = false := by rw [hW]; simp
  have z4 : W.cell? ⟨w.heap.size, 4, none⟩ = some (.int .i64 0) := by rw [hW]; simp
  have zf4 : W.frozen? ⟨w.heap.size, 4, none⟩ = false := by rw [hW]; simp
  have z5 : W.cell? ⟨w.heap.size, 5, none⟩ = some (.int .i64 0) := by rw [hW]; simp
  have zf5 : W.frozen? ⟨w.heap.size, 5, none⟩ = false := by rw [hW]; simp
  have z6 : W.cell? ⟨w.heap.size, 6, none⟩ = some (.int .i64 0) := by rw [hW]; simp
  have zf6 : W.frozen? ⟨w.heap.size, 6, none⟩ = false := by rw [hW]; simp
  have z7 : W.cell? ⟨w.heap.size, 7, none⟩ = some (.int .i64 0) := by rw [hW]; simp
  have zf7 : W.frozen? ⟨w.heap.size, 7, none⟩ = false := by rw [hW]; simp
  have z8 : W.cell? ⟨w.heap.size, 8, none⟩ = some (.int .i64 0) := by rw [hW]; simp
  have zf8 : W.frozen? ⟨w.heap.size, 8, none⟩ = false := by rw [hW]; simp
  have z9 : W.cell? ⟨w.heap.size, 9, none⟩ = some (.int .i64 0) := by rw [hW]; simp
  have zf9 : W.frozen? ⟨w.heap.size, 9, none⟩ = false := by rw [hW]; simp
  have z10 : W.cell? ⟨w.heap.size, 10, none⟩ = some (.int .i64 0) := by rw [hW]; simp
  have zf10 : W.frozen? ⟨w.heap.size, 10, none⟩ = false := by rw [hW]; simp
  have z11 : W.cell? ⟨w.heap.size, 11, none⟩ = some (.int .u32 0) := by rw [hW]; simp
  have zf11 : W.frozen? ⟨w.heap.size, 11, none⟩ = false := by rw [hW]; simp
  go_enter Try.func8, Try.ntmps8
  go_wp2_with fail
  rw [← hW]
  refine Calls.mono (specCut s _ hn) ?_
  rintro e w1 ⟨av, cp, rfl, ho, hb1⟩
  clear hW
  have y0 := (hb1.cell (World.block_lt_of_cell? _ _ z0)).trans z0
  have yf0 := (hb1.frozen (p := ⟨w.heap.size, 0, none⟩) (World.block_lt_of_cell? _ _ z0)).trans zf0
  have y1 := (hb1.cell (World.block_lt_of_cell? _ _ z1)).trans z1
  have yf1 := (hb1.frozen (p := ⟨w.heap.size, 1, none⟩) (World.block_lt_of_cell? _ _ z1)).trans zf1
  have y2 := (hb1.cell (World.block_lt_of_cell? _ _ z2)).trans z2
  have yf2 := (hb1.frozen (p := ⟨w.heap.size, 2, none⟩) (World.block_lt_of_cell? _ _ z2)).trans zf2
  have y3 := (hb1.cell (World.block_lt_of_cell? _ _ z3)).trans z3
  have yf3 := (hb1.frozen (p := ⟨w.heap.size, 3, none⟩) (World.block_lt_of_cell? _ _ z3)).trans zf3
  have y4 := (hb1.cell (World.block_lt_of_cell? _ _ z4)).trans z4
  have yf4 := (hb1.frozen (p := ⟨w.heap.size, 4, none⟩) (World.block_lt_of_cell? _ _ z4)).trans zf4
  have y5 := (hb1.cell (World.block_lt_of_cell? _ _ z5)).trans z5
  have yf5 := (hb1.frozen (p := ⟨w.heap.size, 5, none⟩) (World.block_lt_of_cell? _ _ z5)).trans zf5
  have y6 := (hb1.cell (World.block_lt_of_cell? _ _ z6)).trans z6
  have yf6 := (hb1.frozen (p := ⟨w.heap.size, 6, none⟩) (World.block_lt_of_cell? _ _ z6)).trans zf6
  have y7 := (hb1.cell (World.block_lt_of_cell? _ _ z7)).trans z7
  have yf7 := (hb1.frozen (p := ⟨w.heap.size, 7, none⟩) (World.block_lt_of_cell? _ _ z7)).trans zf7
  have y8 := (hb1.cell (World.block_lt_of_cell? _ _ z8)).trans z8
  have yf8 := (hb1.frozen (p := ⟨w.heap.size, 8, none⟩) (World.block_lt_of_cell? _ _ z8)).trans zf8
  have y9 := (hb1.cell (World.block_lt_of_cell? _ _ z9)).trans z9
  have yf9 := (hb1.frozen (p := ⟨w.heap.size, 9, none⟩) (World.block_lt_of_cell? _ _ z9)).trans zf9
  have y10 := (hb1.cell (World.block_lt_of_cell? _ _ z10)).trans z10
  have yf10 := (hb1.frozen (p := ⟨w.heap.size, 10, none⟩) (World.block_lt_of_cell? _ _ z10)).trans zf10
  have y11 := (hb1.cell (World.block_lt_of_cell? _ _ z11)).trans z11
  have yf11 := (hb1.frozen (p := ⟨w.heap.size, 11, none⟩) (World.block_lt_of_cell? _ _ z11)).trans zf11
  clear z0 z1 z2 z3 z4 z5 z6 z7 z8 z9 z10 z11 zf0 zf1 zf2 zf3 zf4 zf5 zf6 zf7 zf8 zf9 zf10 zf11
  have hbw1 := hbW.trans (hb1.mono hbW.size)
  have bl : w.heap.size < w1.heap.size := World.block_lt_of_cell? _ _ y0
  have hS := LieS.ofRow ho
  rcases hS with hS | ⟨b, off, rfl, hc⟩
  · simp [hS] at h
  have q0 := hc 0 (by omega)
  simp only [Nat.add_zero] at q0
  obtain ⟨u, hu⟩ : ∃ u, u = word s 0 := ⟨_, rfl⟩
  rw [show (wordsOf s).getD 0 ⟨#[]⟩ = u from hu.symm] at q0
  rw [← hu] at h0
  have h1 : (u.toList == [99, 111, 110, 102, 105, 103]) = false := by
    cases e : u.toList == [99, 111, 110, 102, 105, 103] with
    | false => rfl
    | true => exact absurd (conf_of ((eq_of_beq e).trans conf_list.symm)) h0
  rw [h]
  clear hu hc ho h0
  go_wp2
  exact bodyPost_ret (v := .tuple #[.agg #[.int .i64 0, .int .i64 0, .int .i64 0, .int .i64 0, .int .i64 0, .int .i64 0, .int .i64 0, .int .i64 0, .int .i64 0, .int .i64 0, .int .i64 0, .int .u32 0], .int .i64 16]) (by simp [results, Try.results8, go_sem, y0, y1, y2, y3, y4, y5, y6, y7, y8, y9, y10, y11]) rfl ⟨rfl, below_set12 hbw1 w.heap.size (Nat.le_refl _) _ _ _ _ _ _ _ _ _ _ _ _⟩
end Go.Proofs.Ytjiaiaclmceeeaa
