import Derived.Test.YtlagaiekoahjnaaPlanTop
namespace Go.Proofs.Ytlagaiekoahjnaa
open Go.ChangeShapes Go.WideShapes Go.ChangeAt Go.RowKit
set_option linter.unusedVariables false

theorem own_set {w : World} {base : Nat} {e : TypeId} {size : Nat} {v : Value} {n : Nat} {xs : List Value} (h : w.ownsRow base e size v n xs) (b i : Nat) (u : Value) (hb : b < base) : (w.setCell ⟨b, i, none⟩ u).ownsRow base e size v n xs := by
  refine h.kept (grown_set w b i u) ?_
  cases hv : v.ownBlock with
  | none => exact .inl rfl
  | some q =>
    refine .inr fun e => ?_
    have := (h.lt q hv).1
    simp only [Option.some.injEq] at e
    omega
theorem own_set7 {w : World} {base : Nat} {e : TypeId} {size : Nat} {v : Value} {n : Nat} {xs : List Value} (h : w.ownsRow base e size v n xs) (g : Nat) (hg : g < base) (u0 u1 u2 u3 u4 u5 u6 : Value) :
    (((((((w.setCell ⟨g, 0, none⟩ u0).setCell ⟨g, 1, none⟩ u1).setCell ⟨g, 2, none⟩ u2).setCell ⟨g, 3, none⟩ u3).setCell ⟨g, 4, none⟩ u4).setCell ⟨g, 5, none⟩ u5).setCell ⟨g, 6, none⟩ u6).ownsRow base e size v n xs :=
  own_set (own_set (own_set (own_set (own_set (own_set (own_set h g 0 u0 hg) g 1 u1 hg) g 2 u2 hg) g 3 u3 hg) g 4 u4 hg) g 5 u5 hg) g 6 u6 hg

set_option maxRecDepth 100000 in
set_option maxHeartbeats 600000 in
theorem top_some (pol tur : Int) (pa : Option Addr) (pk : List Int) (pc : Nat) (va : Option Addr) (V : Vws) (vc : Nat) (ma : Option Addr) (S : Mps) (mc : Nat) (mx mp wt ed cl fm pl : Int) (hvc : V.length ≤ vc) (hvm : vc ≤ 9223372036854775807) (hvn : va = none → vc = 0) (hpm : pk.length ≤ 9223372036854775807) (T0 : List Int) (tn0 : Int) (hG : GivesP 20 pol tur (pk.getD 0 0) V 0 T0 tn0 0) (hfV : FitsV V) (hl : V.length ≤ 8) (hfS : FitsM S) (hms : S.length ≤ 9223372036854775807) (m0 : 0 ≤ mp) (w0 : 0 ≤ wt) (e0 : 0 ≤ ed) (hr : OkR tur V.length pk.length mx mp wt ed cl fm pl) (hM : (S.length ≤ 256 ∧ Valid S) ∧ (S.length : Int) ≤ mx) (kd pcx of ln : Int) (br : Nat) (hkd : ¬ kd = 0) (hN : NextIs S V mx mp wt ed cl fm pl kd pcx of ln br) (T : List Int) (tn us : Int) (hG2 : GivesP 20 pol tur (pk.getD 0 0) V (br : Int) T tn 0) (hus : us = if pol = 4 ∧ pk ≠ [] then 1 else 0) : GivesS 28 pol tur pa pk pc va V vc ma S mc mx mp wt ed cl fm pl kd pcx of ln T tn us 0 := by
  intro w hP hV hS
  have HG : Hid _ := hG
  clear hG
  obtain ⟨W, hW⟩ : ∃ W, W = (w.alloc (.cells #[.int .i64 pol, .int .i64 tur, .slice pa pk.length pc, .slice va V.length vc, .slice ma S.length mc, .int .i64 mx, .int .u64 mp, .int .u64 wt, .int .u64 ed, .int .i64 cl, .int .i64 fm, .int .i64 pl] 48)).alloc (.cells #[.int .i64 0, .int .i64 0, .int .u64 0, .int .i64 0, .slice none 0 0, .int .i64 0, .int .i64 0] 51) := ⟨_, rfl⟩
  have hbW : Below w.heap.size w W := by rw [hW]; exact ((Below.refl _ _).alloc (Nat.le_refl _) _).alloc (by simp) _
  have k0 : W.cell? ⟨w.heap.size, 0, none⟩ = some (.int .i64 pol) := by rw [hW]; simp
  have k1 : W.cell? ⟨w.heap.size, 1, none⟩ = some (.int .i64 tur) := by rw [hW]; simp
  have k2 : W.cell? ⟨w.heap.size, 2, none⟩ = some (.slice pa pk.length pc) := by rw [hW]; simp
  have k3 : W.cell? ⟨w.heap.size, 3, none⟩ = some (.slice va V.length vc) := by rw [hW]; simp
  have k4 : W.cell? ⟨w.heap.size, 4, none⟩ = some (.slice ma S.length mc) := by rw [hW]; simp
  have k5 : W.cell? ⟨w.heap.size, 5, none⟩ = some (.int .i64 mx) := by rw [hW]; simp
  have k6 : W.cell? ⟨w.heap.size, 6, none⟩ = some (.int .u64 mp) := by rw [hW]; simp
  have k7 : W.cell? ⟨w.heap.size, 7, none⟩ = some (.int .u64 wt) := by rw [hW]; simp
  have k8 : W.cell? ⟨w.heap.size, 8, none⟩ = some (.int .u64 ed) := by rw [hW]; simp
  have k9 : W.cell? ⟨w.heap.size, 9, none⟩ = some (.int .i64 cl) := by rw [hW]; simp
  have k10 : W.cell? ⟨w.heap.size, 10, none⟩ = some (.int .i64 fm) := by rw [hW]; simp
  have k11 : W.cell? ⟨w.heap.size, 11, none⟩ = some (.int .i64 pl) := by rw [hW]; simp
  have z0 : W.cell? ⟨w.heap.size + 1, 0, none⟩ = some (.int .i64 0) := by rw [hW]; simp
  have zf0 : W.frozen? ⟨w.heap.size + 1, 0, none⟩ = false := by rw [hW]; simp
  have z1 : W.cell? ⟨w.heap.size + 1, 1, none⟩ = some (.int .i64 0) := by rw [hW]; simp
  have zf1 : W.frozen? ⟨w.heap.size + 1, 1, none⟩ = false := by rw [hW]; simp
  have z2 : W.cell? ⟨w.heap.size + 1, 2, none⟩ = some (.int .u64 0) := by rw [hW]; simp
  have zf2 : W.frozen? ⟨w.heap.size + 1, 2, none⟩ = false := by rw [hW]; simp
  have z3 : W.cell? ⟨w.heap.size + 1, 3, none⟩ = some (.int .i64 0) := by rw [hW]; simp
  have zf3 : W.frozen? ⟨w.heap.size + 1, 3, none⟩ = false := by rw [hW]; simp
  have z4 : W.cell? ⟨w.heap.size + 1, 4, none⟩ = some (.slice none 0 0) := by rw [hW]; simp
  have zf4 : W.frozen? ⟨w.heap.size + 1, 4, none⟩ = false := by rw [hW]; simp
  have z5 : W.cell? ⟨w.heap.size + 1, 5, none⟩ = some (.int .i64 0) := by rw [hW]; simp
  have zf5 : W.frozen? ⟨w.heap.size + 1, 5, none⟩ = false := by rw [hW]; simp
  have z6 : W.cell? ⟨w.heap.size + 1, 6, none⟩ = some (.int .i64 0) := by rw [hW]; simp
  have zf6 : W.frozen? ⟨w.heap.size + 1, 6, none⟩ = false := by rw [hW]; simp
  have hPW := hP.moved hbW
  have hVW := hV.moved hbW
  have sW := hbW.size
  obtain ⟨kk, hkk⟩ : ∃ kk, kk = pk.getD 0 0 := ⟨_, rfl⟩
  rw [← hkk] at HG
  rw [← hkk] at hG2
  have HKK : Hid _ := hkk
  clear hkk
  by_cases hpe : pk = []
  · have hl0 : ¬ (0 : Int) < (pk.length : Int) := by rw [hpe]; simp
    have hl1 : (pk.length : Int) ≤ 0 := by omega
    obtain rfl : kk = 0 := by rw [HKK.out, hpe]; rfl
    have HPE : Hid (pk = []) := hpe
    clear HKK hpe
    go_enter Try.func28, Try.ntmps28
    go_wp2_with fail
    rw [← hW]
    refine Calls.mono (HG.out va vc _ hVW hvc hvm hvn) ?_
    rintro e w1 ⟨av0, cp0, rfl, ho0, hb1⟩
    have j0 := (hb1.cell (World.block_lt_of_cell? _ _ k0)).trans k0
    have j1 := (hb1.cell (World.block_lt_of_cell? _ _ k1)).trans k1
    have j2 := (hb1.cell (World.block_lt_of_cell? _ _ k2)).trans k2
    have j3 := (hb1.cell (World.block_lt_of_cell? _ _ k3)).trans k3
    have j4 := (hb1.cell (World.block_lt_of_cell? _ _ k4)).trans k4
    have j5 := (hb1.cell (World.block_lt_of_cell? _ _ k5)).trans k5
    have j6 := (hb1.cell (World.block_lt_of_cell? _ _ k6)).trans k6
    have j7 := (hb1.cell (World.block_lt_of_cell? _ _ k7)).trans k7
    have j8 := (hb1.cell (World.block_lt_of_cell? _ _ k8)).trans k8
    have j9 := (hb1.cell (World.block_lt_of_cell? _ _ k9)).trans k9
    have j10 := (hb1.cell (World.block_lt_of_cell? _ _ k10)).trans k10
    have j11 := (hb1.cell (World.block_lt_of_cell? _ _ k11)).trans k11
    have y0 := (hb1.cell (World.block_lt_of_cell? _ _ z0)).trans z0
    have yf0 := (hb1.frozen (p := ⟨w.heap.size + 1, 0, none⟩) (World.block_lt_of_cell? _ _ z0)).trans zf0
    have y1 := (hb1.cell (World.block_lt_of_cell? _ _ z1)).trans z1
    have yf1 := (hb1.frozen (p := ⟨w.heap.size + 1, 1, none⟩) (World.block_lt_of_cell? _ _ z1)).trans zf1
    have y2 := (hb1.cell (World.block_lt_of_cell? _ _ z2)).trans z2
    have yf2 := (hb1.frozen (p := ⟨w.heap.size + 1, 2, none⟩) (World.block_lt_of_cell? _ _ z2)).trans zf2
    have y3 := (hb1.cell (World.block_lt_of_cell? _ _ z3)).trans z3
    have yf3 := (hb1.frozen (p := ⟨w.heap.size + 1, 3, none⟩) (World.block_lt_of_cell? _ _ z3)).trans zf3
    have y4 := (hb1.cell (World.block_lt_of_cell? _ _ z4)).trans z4
    have yf4 := (hb1.frozen (p := ⟨w.heap.size + 1, 4, none⟩) (World.block_lt_of_cell? _ _ z4)).trans zf4
    have y5 := (hb1.cell (World.block_lt_of_cell? _ _ z5)).trans z5
    have yf5 := (hb1.frozen (p := ⟨w.heap.size + 1, 5, none⟩) (World.block_lt_of_cell? _ _ z5)).trans zf5
    have y6 := (hb1.cell (World.block_lt_of_cell? _ _ z6)).trans z6
    have yf6 := (hb1.frozen (p := ⟨w.heap.size + 1, 6, none⟩) (World.block_lt_of_cell? _ _ z6)).trans zf6
    have hbw1 := hbW.trans (hb1.mono sW)
    clear hW HG hVW ho0 hb1
    clear k0 k1 k2 k3 k4 k5 k6 k7 k8 k9 k10 k11 z0 zf0 z1 zf1 z2 zf2 z3 zf3 z4 zf4 z5 zf5 z6 zf6
    go_wp2_with fail
    have HNX : Hid _ := hN
    have HG2 : Hid _ := hG2
    have HUS0 : Hid _ := hus
    clear hN hG2 hus
    refine Calls.mono (ranges_yes pol tur pa pk pc va V vc ma S mc mx mp wt ed cl fm pl _ hr) ?_
    rintro e w2 ⟨rfl, hb2⟩
    have i0 := (hb2.cell (World.block_lt_of_cell? _ _ j0)).trans j0
    have i1 := (hb2.cell (World.block_lt_of_cell? _ _ j1)).trans j1
    have i2 := (hb2.cell (World.block_lt_of_cell? _ _ j2)).trans j2
    have i3 := (hb2.cell (World.block_lt_of_cell? _ _ j3)).trans j3
    have i4 := (hb2.cell (World.block_lt_of_cell? _ _ j4)).trans j4
    have i5 := (hb2.cell (World.block_lt_of_cell? _ _ j5)).trans j5
    have i6 := (hb2.cell (World.block_lt_of_cell? _ _ j6)).trans j6
    have i7 := (hb2.cell (World.block_lt_of_cell? _ _ j7)).trans j7
    have i8 := (hb2.cell (World.block_lt_of_cell? _ _ j8)).trans j8
    have i9 := (hb2.cell (World.block_lt_of_cell? _ _ j9)).trans j9
    have i10 := (hb2.cell (World.block_lt_of_cell? _ _ j10)).trans j10
    have i11 := (hb2.cell (World.block_lt_of_cell? _ _ j11)).trans j11
    have x0 := (hb2.cell (World.block_lt_of_cell? _ _ y0)).trans y0
    have xf0 := (hb2.frozen (p := ⟨w.heap.size + 1, 0, none⟩) (World.block_lt_of_cell? _ _ y0)).trans yf0
    have x1 := (hb2.cell (World.block_lt_of_cell? _ _ y1)).trans y1
    have xf1 := (hb2.frozen (p := ⟨w.heap.size + 1, 1, none⟩) (World.block_lt_of_cell? _ _ y1)).trans yf1
    have x2 := (hb2.cell (World.block_lt_of_cell? _ _ y2)).trans y2
    have xf2 := (hb2.frozen (p := ⟨w.heap.size + 1, 2, none⟩) (World.block_lt_of_cell? _ _ y2)).trans yf2
    have x3 := (hb2.cell (World.block_lt_of_cell? _ _ y3)).trans y3
    have xf3 := (hb2.frozen (p := ⟨w.heap.size + 1, 3, none⟩) (World.block_lt_of_cell? _ _ y3)).trans yf3
    have x4 := (hb2.cell (World.block_lt_of_cell? _ _ y4)).trans y4
    have xf4 := (hb2.frozen (p := ⟨w.heap.size + 1, 4, none⟩) (World.block_lt_of_cell? _ _ y4)).trans yf4
    have x5 := (hb2.cell (World.block_lt_of_cell? _ _ y5)).trans y5
    have xf5 := (hb2.frozen (p := ⟨w.heap.size + 1, 5, none⟩) (World.block_lt_of_cell? _ _ y5)).trans yf5
    have x6 := (hb2.cell (World.block_lt_of_cell? _ _ y6)).trans y6
    have xf6 := (hb2.frozen (p := ⟨w.heap.size + 1, 6, none⟩) (World.block_lt_of_cell? _ _ y6)).trans yf6
    have hbw2 := hbw1.trans (hb2.mono hbw1.size)
    clear j0 j1 j2 j3 j4 j5 j6 j7 j8 j9 j10 j11 y0 yf0 y1 yf1 y2 yf2 y3 yf3 y4 yf4 y5 yf5 y6 yf6
    clear hb2 hbw1
    go_wp2_with fail
    refine Calls.mono (implMapsOK ma S mc _ (hS.moved hbw2) hfS hms) ?_
    rintro e w3 ⟨b, rfl, hiff, hb3⟩
    have g0 := (hb3.cell (World.block_lt_of_cell? _ _ i0)).trans i0
    have g1 := (hb3.cell (World.block_lt_of_cell? _ _ i1)).trans i1
    have g2 := (hb3.cell (World.block_lt_of_cell? _ _ i2)).trans i2
    have g3 := (hb3.cell (World.block_lt_of_cell? _ _ i3)).trans i3
    have g4 := (hb3.cell (World.block_lt_of_cell? _ _ i4)).trans i4
    have g5 := (hb3.cell (World.block_lt_of_cell? _ _ i5)).trans i5
    have g6 := (hb3.cell (World.block_lt_of_cell? _ _ i6)).trans i6
    have g7 := (hb3.cell (World.block_lt_of_cell? _ _ i7)).trans i7
    have g8 := (hb3.cell (World.block_lt_of_cell? _ _ i8)).trans i8
    have g9 := (hb3.cell (World.block_lt_of_cell? _ _ i9)).trans i9
    have g10 := (hb3.cell (World.block_lt_of_cell? _ _ i10)).trans i10
    have g11 := (hb3.cell (World.block_lt_of_cell? _ _ i11)).trans i11
    have v0 := (hb3.cell (World.block_lt_of_cell? _ _ x0)).trans x0
    have vf0 := (hb3.frozen (p := ⟨w.heap.size + 1, 0, none⟩) (World.block_lt_of_cell? _ _ x0)).trans xf0
    have v1 := (hb3.cell (World.block_lt_of_cell? _ _ x1)).trans x1
    have vf1 := (hb3.frozen (p := ⟨w.heap.size + 1, 1, none⟩) (World.block_lt_of_cell? _ _ x1)).trans xf1
    have v2 := (hb3.cell (World.block_lt_of_cell? _ _ x2)).trans x2
    have vf2 := (hb3.frozen (p := ⟨w.heap.size + 1, 2, none⟩) (World.block_lt_of_cell? _ _ x2)).trans xf2
    have v3 := (hb3.cell (World.block_lt_of_cell? _ _ x3)).trans x3
    have vf3 := (hb3.frozen (p := ⟨w.heap.size + 1, 3, none⟩) (World.block_lt_of_cell? _ _ x3)).trans xf3
    have v4 := (hb3.cell (World.block_lt_of_cell? _ _ x4)).trans x4
    have vf4 := (hb3.frozen (p := ⟨w.heap.size + 1, 4, none⟩) (World.block_lt_of_cell? _ _ x4)).trans xf4
    have v5 := (hb3.cell (World.block_lt_of_cell? _ _ x5)).trans x5
    have vf5 := (hb3.frozen (p := ⟨w.heap.size + 1, 5, none⟩) (World.block_lt_of_cell? _ _ x5)).trans xf5
    have v6 := (hb3.cell (World.block_lt_of_cell? _ _ x6)).trans x6
    have vf6 := (hb3.frozen (p := ⟨w.heap.size + 1, 6, none⟩) (World.block_lt_of_cell? _ _ x6)).trans xf6
    have hbw3 := hbw2.trans (hb3.mono hbw2.size)
    clear i0 i1 i2 i3 i4 i5 i6 i7 i8 i9 i10 i11 x0 xf0 x1 xf1 x2 xf2 x3 xf3 x4 xf4 x5 xf5 x6 xf6
    clear hb3 hbw2
    obtain rfl : b = true := hiff.2 hM.1
    have hle := hM.2
    have hS256 : (S.length : Int) ≤ 256 := by have := hM.1.1; omega
    clear hiff
    go_wp2_with fail
    refine Calls.mono (nextFrame_is pol tur pa pk pc va V vc ma S mc mx mp wt ed cl fm pl _ (hV.moved hbw3) hfV hl (hS.moved hbw3) hfS hM.1.1 hM.1.2 m0 (by have := hr.2.2.2.2; omega) w0 (by have := hr.2.2.2.2; omega) e0 (by have := hr.2.2.2.2; omega) (by have := hr.2.2.1; omega) (by have := hr.2.2.1; omega) _ _ _ _ _ HNX.out) ?_
    rintro e w4 ⟨rfl, hb4⟩
    have i0 := (hb4.cell (World.block_lt_of_cell? _ _ g0)).trans g0
    have i1 := (hb4.cell (World.block_lt_of_cell? _ _ g1)).trans g1
    have i2 := (hb4.cell (World.block_lt_of_cell? _ _ g2)).trans g2
    have i3 := (hb4.cell (World.block_lt_of_cell? _ _ g3)).trans g3
    have i4 := (hb4.cell (World.block_lt_of_cell? _ _ g4)).trans g4
    have i5 := (hb4.cell (World.block_lt_of_cell? _ _ g5)).trans g5
    have i6 := (hb4.cell (World.block_lt_of_cell? _ _ g6)).trans g6
    have i7 := (hb4.cell (World.block_lt_of_cell? _ _ g7)).trans g7
    have i8 := (hb4.cell (World.block_lt_of_cell? _ _ g8)).trans g8
    have i9 := (hb4.cell (World.block_lt_of_cell? _ _ g9)).trans g9
    have i10 := (hb4.cell (World.block_lt_of_cell? _ _ g10)).trans g10
    have i11 := (hb4.cell (World.block_lt_of_cell? _ _ g11)).trans g11
    have x0 := (hb4.cell (World.block_lt_of_cell? _ _ v0)).trans v0
    have xf0 := (hb4.frozen (p := ⟨w.heap.size + 1, 0, none⟩) (World.block_lt_of_cell? _ _ v0)).trans vf0
    have x1 := (hb4.cell (World.block_lt_of_cell? _ _ v1)).trans v1
    have xf1 := (hb4.frozen (p := ⟨w.heap.size + 1, 1, none⟩) (World.block_lt_of_cell? _ _ v1)).trans vf1
    have x2 := (hb4.cell (World.block_lt_of_cell? _ _ v2)).trans v2
    have xf2 := (hb4.frozen (p := ⟨w.heap.size + 1, 2, none⟩) (World.block_lt_of_cell? _ _ v2)).trans vf2
    have x3 := (hb4.cell (World.block_lt_of_cell? _ _ v3)).trans v3
    have xf3 := (hb4.frozen (p := ⟨w.heap.size + 1, 3, none⟩) (World.block_lt_of_cell? _ _ v3)).trans vf3
    have x4 := (hb4.cell (World.block_lt_of_cell? _ _ v4)).trans v4
    have xf4 := (hb4.frozen (p := ⟨w.heap.size + 1, 4, none⟩) (World.block_lt_of_cell? _ _ v4)).trans vf4
    have x5 := (hb4.cell (World.block_lt_of_cell? _ _ v5)).trans v5
    have xf5 := (hb4.frozen (p := ⟨w.heap.size + 1, 5, none⟩) (World.block_lt_of_cell? _ _ v5)).trans vf5
    have x6 := (hb4.cell (World.block_lt_of_cell? _ _ v6)).trans v6
    have xf6 := (hb4.frozen (p := ⟨w.heap.size + 1, 6, none⟩) (World.block_lt_of_cell? _ _ v6)).trans vf6
    have hbw4 := hbw3.trans (hb4.mono hbw3.size)
    clear g0 g1 g2 g3 g4 g5 g6 g7 g8 g9 g10 g11 v0 vf0 v1 vf1 v2 vf2 v3 vf3 v4 vf4 v5 vf5 v6 vf6
    clear hb4 hbw3 hr hM HNX
    have bl : w.heap.size + 1 < w4.heap.size := World.block_lt_of_cell? _ _ x0
    have bl2 : ¬ w.heap.size + 1 = w4.heap.size := by omega
    have bl3 : ¬ w4.heap.size = w.heap.size + 1 := by omega
    have bl4 : ¬ w.heap.size = w4.heap.size := by omega
    have bl5 : ¬ w4.heap.size = w.heap.size := by omega
    have bl6 : w.heap.size < w4.heap.size := by omega
    have hkd' : (kd == 0) = false := by simpa using hkd
    have hkd2 : ¬ kd = 0 := hkd
    clear hkd
    go_wp2_with fail
    obtain ⟨X, hX⟩ : ∃ X, X = w4.alloc (.cells #[.int .i64 kd, .int .i64 pcx, .int .u64 of, .int .i64 ln, .slice none 0 0, .int .i64 0, .int .i64 0] 51) := ⟨_, rfl⟩
    rw [← hX]
    have hbX : Below w4.heap.size w4 X := by rw [hX]; exact (Below.refl _ _).alloc (Nat.le_refl _) _
    have hbwX := hbw4.trans (hbX.mono hbw4.size)
    refine Calls.mono (HG2.out va vc _ (hV.moved hbwX) hvc hvm hvn) ?_
    rintro e w5 ⟨av5, cp5, rfl, ho5, hb5⟩
    have sX : w4.heap.size < X.heap.size := by rw [hX]; simp
    have p0 : w5.cell? ⟨w4.heap.size, 0, none⟩ = some (.int .i64 kd) := by rw [hb5.cell sX, hX]; simp
    have pf0 : w5.frozen? ⟨w4.heap.size, 0, none⟩ = false := by rw [hb5.frozen (p := ⟨w4.heap.size, 0, none⟩) sX, hX]; simp
    have p1 : w5.cell? ⟨w4.heap.size, 1, none⟩ = some (.int .i64 pcx) := by rw [hb5.cell sX, hX]; simp
    have pf1 : w5.frozen? ⟨w4.heap.size, 1, none⟩ = false := by rw [hb5.frozen (p := ⟨w4.heap.size, 1, none⟩) sX, hX]; simp
    have p2 : w5.cell? ⟨w4.heap.size, 2, none⟩ = some (.int .u64 of) := by rw [hb5.cell sX, hX]; simp
    have pf2 : w5.frozen? ⟨w4.heap.size, 2, none⟩ = false := by rw [hb5.frozen (p := ⟨w4.heap.size, 2, none⟩) sX, hX]; simp
    have p3 : w5.cell? ⟨w4.heap.size, 3, none⟩ = some (.int .i64 ln) := by rw [hb5.cell sX, hX]; simp
    have pf3 : w5.frozen? ⟨w4.heap.size, 3, none⟩ = false := by rw [hb5.frozen (p := ⟨w4.heap.size, 3, none⟩) sX, hX]; simp
    have p4 : w5.cell? ⟨w4.heap.size, 4, none⟩ = some (.slice none 0 0) := by rw [hb5.cell sX, hX]; simp
    have pf4 : w5.frozen? ⟨w4.heap.size, 4, none⟩ = false := by rw [hb5.frozen (p := ⟨w4.heap.size, 4, none⟩) sX, hX]; simp
    have p5 : w5.cell? ⟨w4.heap.size, 5, none⟩ = some (.int .i64 0) := by rw [hb5.cell sX, hX]; simp
    have pf5 : w5.frozen? ⟨w4.heap.size, 5, none⟩ = false := by rw [hb5.frozen (p := ⟨w4.heap.size, 5, none⟩) sX, hX]; simp
    have p6 : w5.cell? ⟨w4.heap.size, 6, none⟩ = some (.int .i64 0) := by rw [hb5.cell sX, hX]; simp
    have pf6 : w5.frozen? ⟨w4.heap.size, 6, none⟩ = false := by rw [hb5.frozen (p := ⟨w4.heap.size, 6, none⟩) sX, hX]; simp
    have hb45 := hbX.trans (hb5.mono (Nat.le_of_lt sX))
    have g0 := (hb45.cell (World.block_lt_of_cell? _ _ i0)).trans i0
    have g2 := (hb45.cell (World.block_lt_of_cell? _ _ i2)).trans i2
    have v0 := (hb45.cell (World.block_lt_of_cell? _ _ x0)).trans x0
    have vf0 := (hb45.frozen (p := ⟨w.heap.size + 1, 0, none⟩) (World.block_lt_of_cell? _ _ x0)).trans xf0
    have v1 := (hb45.cell (World.block_lt_of_cell? _ _ x1)).trans x1
    have vf1 := (hb45.frozen (p := ⟨w.heap.size + 1, 1, none⟩) (World.block_lt_of_cell? _ _ x1)).trans xf1
    have v2 := (hb45.cell (World.block_lt_of_cell? _ _ x2)).trans x2
    have vf2 := (hb45.frozen (p := ⟨w.heap.size + 1, 2, none⟩) (World.block_lt_of_cell? _ _ x2)).trans xf2
    have v3 := (hb45.cell (World.block_lt_of_cell? _ _ x3)).trans x3
    have vf3 := (hb45.frozen (p := ⟨w.heap.size + 1, 3, none⟩) (World.block_lt_of_cell? _ _ x3)).trans xf3
    have v4 := (hb45.cell (World.block_lt_of_cell? _ _ x4)).trans x4
    have vf4 := (hb45.frozen (p := ⟨w.heap.size + 1, 4, none⟩) (World.block_lt_of_cell? _ _ x4)).trans xf4
    have v5 := (hb45.cell (World.block_lt_of_cell? _ _ x5)).trans x5
    have vf5 := (hb45.frozen (p := ⟨w.heap.size + 1, 5, none⟩) (World.block_lt_of_cell? _ _ x5)).trans xf5
    have v6 := (hb45.cell (World.block_lt_of_cell? _ _ x6)).trans x6
    have vf6 := (hb45.frozen (p := ⟨w.heap.size + 1, 6, none⟩) (World.block_lt_of_cell? _ _ x6)).trans xf6
    have hbw5 := hbw4.trans (hb45.mono hbw4.size)
    have bX : w.heap.size + 1 < X.heap.size := by omega
    clear hX hbX HG2 hb5 hb45
    clear i0 i1 i2 i3 i4 i5 i6 i7 i8 i9 i10 i11 x0 xf0 x1 xf1 x2 xf2 x3 xf3 x4 xf4 x5 xf5 x6 xf6
    have HROW := own_set7 (own_set (own_set ho5 w4.heap.size 4 (.slice av5 T.length cp5) sX) w4.heap.size 5 (.int .i64 tn) sX) (w.heap.size + 1) bX
    have HBEL := below_set7 ((hbw5.setCell (p := ⟨w4.heap.size, 4, none⟩) (Nat.le_of_lt bl6) (.slice av5 T.length cp5)).setCell (p := ⟨w4.heap.size, 5, none⟩) (Nat.le_of_lt bl6) (.int .i64 tn)) (w.heap.size + 1) (by omega)
    have HROW6 := own_set7 (own_set (own_set (own_set ho5 w4.heap.size 4 (.slice av5 T.length cp5) sX) w4.heap.size 5 (.int .i64 tn) sX) w4.heap.size 6 (.int .i64 1) sX) (w.heap.size + 1) bX
    have HBEL6 := below_set7 (((hbw5.setCell (p := ⟨w4.heap.size, 4, none⟩) (Nat.le_of_lt bl6) (.slice av5 T.length cp5)).setCell (p := ⟨w4.heap.size, 5, none⟩) (Nat.le_of_lt bl6) (.int .i64 tn)).setCell (p := ⟨w4.heap.size, 6, none⟩) (Nat.le_of_lt bl6) (.int .i64 1)) (w.heap.size + 1) (by omega)
    by_cases hp4 : pol = 4
    · have HUS : Hid (us = 0) := by unfold Hid; rw [HUS0.out]; simp [hp4, HPE.out]
      subst hp4
      go_wp2
      exact bodyPost_ret (v := .tuple #[.agg #[.int .i64 kd, .int .i64 pcx, .int .u64 of, .int .i64 ln, .slice av5 T.length cp5, .int .i64 tn, .int .i64 0], .int .i64 0]) (by simp [results, Try.results28, go_sem, v0, v1, v2, v3, v4, v5, v6]) rfl ⟨av5, cp5, by rw [HUS.out], owned_base (HROW _ _ _ _ _ _ _) hbwX.size, HBEL _ _ _ _ _ _ _⟩
    · have HUS : Hid (us = 0) := by unfold Hid; rw [HUS0.out]; simp [hp4]
      have hp4' : (pol == 4) = false := by simpa using hp4
      go_wp2
      exact bodyPost_ret (v := .tuple #[.agg #[.int .i64 kd, .int .i64 pcx, .int .u64 of, .int .i64 ln, .slice av5 T.length cp5, .int .i64 tn, .int .i64 0], .int .i64 0]) (by simp [results, Try.results28, go_sem, v0, v1, v2, v3, v4, v5, v6]) rfl ⟨av5, cp5, by rw [HUS.out], owned_base (HROW _ _ _ _ _ _ _) hbwX.size, HBEL _ _ _ _ _ _ _⟩
  · have hl0 : 0 < pk.length := List.length_pos_iff.2 hpe
    have hl1 : (0 : Int) < (pk.length : Int) := by omega
    have hPW' := hPW
    rcases hPW' with h | ⟨bp, op, hpa, hcp⟩
    · exact absurd h hpe
    subst hpa
    have q0 := hcp 0 hl0
    rw [← HKK.out] at q0
    simp only [Nat.add_zero] at q0
    have HPE : Hid (¬ pk = []) := hpe
    clear HKK hcp hpe
    go_enter Try.func28, Try.ntmps28
    rw [hW] at q0
    go_wp2_with fail
    rw [← hW] at q0 ⊢
    refine Calls.mono (HG.out va vc _ hVW hvc hvm hvn) ?_
    rintro e w1 ⟨av0, cp0, rfl, ho0, hb1⟩
    have j0 := (hb1.cell (World.block_lt_of_cell? _ _ k0)).trans k0
    have j1 := (hb1.cell (World.block_lt_of_cell? _ _ k1)).trans k1
    have j2 := (hb1.cell (World.block_lt_of_cell? _ _ k2)).trans k2
    have j3 := (hb1.cell (World.block_lt_of_cell? _ _ k3)).trans k3
    have j4 := (hb1.cell (World.block_lt_of_cell? _ _ k4)).trans k4
    have j5 := (hb1.cell (World.block_lt_of_cell? _ _ k5)).trans k5
    have j6 := (hb1.cell (World.block_lt_of_cell? _ _ k6)).trans k6
    have j7 := (hb1.cell (World.block_lt_of_cell? _ _ k7)).trans k7
    have j8 := (hb1.cell (World.block_lt_of_cell? _ _ k8)).trans k8
    have j9 := (hb1.cell (World.block_lt_of_cell? _ _ k9)).trans k9
    have j10 := (hb1.cell (World.block_lt_of_cell? _ _ k10)).trans k10
    have j11 := (hb1.cell (World.block_lt_of_cell? _ _ k11)).trans k11
    have y0 := (hb1.cell (World.block_lt_of_cell? _ _ z0)).trans z0
    have yf0 := (hb1.frozen (p := ⟨w.heap.size + 1, 0, none⟩) (World.block_lt_of_cell? _ _ z0)).trans zf0
    have y1 := (hb1.cell (World.block_lt_of_cell? _ _ z1)).trans z1
    have yf1 := (hb1.frozen (p := ⟨w.heap.size + 1, 1, none⟩) (World.block_lt_of_cell? _ _ z1)).trans zf1
    have y2 := (hb1.cell (World.block_lt_of_cell? _ _ z2)).trans z2
    have yf2 := (hb1.frozen (p := ⟨w.heap.size + 1, 2, none⟩) (World.block_lt_of_cell? _ _ z2)).trans zf2
    have y3 := (hb1.cell (World.block_lt_of_cell? _ _ z3)).trans z3
    have yf3 := (hb1.frozen (p := ⟨w.heap.size + 1, 3, none⟩) (World.block_lt_of_cell? _ _ z3)).trans zf3
    have y4 := (hb1.cell (World.block_lt_of_cell? _ _ z4)).trans z4
    have yf4 := (hb1.frozen (p := ⟨w.heap.size + 1, 4, none⟩) (World.block_lt_of_cell? _ _ z4)).trans zf4
    have y5 := (hb1.cell (World.block_lt_of_cell? _ _ z5)).trans z5
    have yf5 := (hb1.frozen (p := ⟨w.heap.size + 1, 5, none⟩) (World.block_lt_of_cell? _ _ z5)).trans zf5
    have y6 := (hb1.cell (World.block_lt_of_cell? _ _ z6)).trans z6
    have yf6 := (hb1.frozen (p := ⟨w.heap.size + 1, 6, none⟩) (World.block_lt_of_cell? _ _ z6)).trans zf6
    have hbw1 := hbW.trans (hb1.mono sW)
    clear hW HG hVW ho0 hb1
    clear k0 k1 k2 k3 k4 k5 k6 k7 k8 k9 k10 k11 z0 zf0 z1 zf1 z2 zf2 z3 zf3 z4 zf4 z5 zf5 z6 zf6
    go_wp2_with fail
    have HNX : Hid _ := hN
    have HG2 : Hid _ := hG2
    have HUS0 : Hid _ := hus
    clear hN hG2 hus
    refine Calls.mono (ranges_yes pol tur (some ⟨bp, op, none⟩) pk pc va V vc ma S mc mx mp wt ed cl fm pl _ hr) ?_
    rintro e w2 ⟨rfl, hb2⟩
    have i0 := (hb2.cell (World.block_lt_of_cell? _ _ j0)).trans j0
    have i1 := (hb2.cell (World.block_lt_of_cell? _ _ j1)).trans j1
    have i2 := (hb2.cell (World.block_lt_of_cell? _ _ j2)).trans j2
    have i3 := (hb2.cell (World.block_lt_of_cell? _ _ j3)).trans j3
    have i4 := (hb2.cell (World.block_lt_of_cell? _ _ j4)).trans j4
    have i5 := (hb2.cell (World.block_lt_of_cell? _ _ j5)).trans j5
    have i6 := (hb2.cell (World.block_lt_of_cell? _ _ j6)).trans j6
    have i7 := (hb2.cell (World.block_lt_of_cell? _ _ j7)).trans j7
    have i8 := (hb2.cell (World.block_lt_of_cell? _ _ j8)).trans j8
    have i9 := (hb2.cell (World.block_lt_of_cell? _ _ j9)).trans j9
    have i10 := (hb2.cell (World.block_lt_of_cell? _ _ j10)).trans j10
    have i11 := (hb2.cell (World.block_lt_of_cell? _ _ j11)).trans j11
    have x0 := (hb2.cell (World.block_lt_of_cell? _ _ y0)).trans y0
    have xf0 := (hb2.frozen (p := ⟨w.heap.size + 1, 0, none⟩) (World.block_lt_of_cell? _ _ y0)).trans yf0
    have x1 := (hb2.cell (World.block_lt_of_cell? _ _ y1)).trans y1
    have xf1 := (hb2.frozen (p := ⟨w.heap.size + 1, 1, none⟩) (World.block_lt_of_cell? _ _ y1)).trans yf1
    have x2 := (hb2.cell (World.block_lt_of_cell? _ _ y2)).trans y2
    have xf2 := (hb2.frozen (p := ⟨w.heap.size + 1, 2, none⟩) (World.block_lt_of_cell? _ _ y2)).trans yf2
    have x3 := (hb2.cell (World.block_lt_of_cell? _ _ y3)).trans y3
    have xf3 := (hb2.frozen (p := ⟨w.heap.size + 1, 3, none⟩) (World.block_lt_of_cell? _ _ y3)).trans yf3
    have x4 := (hb2.cell (World.block_lt_of_cell? _ _ y4)).trans y4
    have xf4 := (hb2.frozen (p := ⟨w.heap.size + 1, 4, none⟩) (World.block_lt_of_cell? _ _ y4)).trans yf4
    have x5 := (hb2.cell (World.block_lt_of_cell? _ _ y5)).trans y5
    have xf5 := (hb2.frozen (p := ⟨w.heap.size + 1, 5, none⟩) (World.block_lt_of_cell? _ _ y5)).trans yf5
    have x6 := (hb2.cell (World.block_lt_of_cell? _ _ y6)).trans y6
    have xf6 := (hb2.frozen (p := ⟨w.heap.size + 1, 6, none⟩) (World.block_lt_of_cell? _ _ y6)).trans yf6
    have hbw2 := hbw1.trans (hb2.mono hbw1.size)
    clear j0 j1 j2 j3 j4 j5 j6 j7 j8 j9 j10 j11 y0 yf0 y1 yf1 y2 yf2 y3 yf3 y4 yf4 y5 yf5 y6 yf6
    clear hb2 hbw1
    go_wp2_with fail
    refine Calls.mono (implMapsOK ma S mc _ (hS.moved hbw2) hfS hms) ?_
    rintro e w3 ⟨b, rfl, hiff, hb3⟩
    have g0 := (hb3.cell (World.block_lt_of_cell? _ _ i0)).trans i0
    have g1 := (hb3.cell (World.block_lt_of_cell? _ _ i1)).trans i1
    have g2 := (hb3.cell (World.block_lt_of_cell? _ _ i2)).trans i2
    have g3 := (hb3.cell (World.block_lt_of_cell? _ _ i3)).trans i3
    have g4 := (hb3.cell (World.block_lt_of_cell? _ _ i4)).trans i4
    have g5 := (hb3.cell (World.block_lt_of_cell? _ _ i5)).trans i5
    have g6 := (hb3.cell (World.block_lt_of_cell? _ _ i6)).trans i6
    have g7 := (hb3.cell (World.block_lt_of_cell? _ _ i7)).trans i7
    have g8 := (hb3.cell (World.block_lt_of_cell? _ _ i8)).trans i8
    have g9 := (hb3.cell (World.block_lt_of_cell? _ _ i9)).trans i9
    have g10 := (hb3.cell (World.block_lt_of_cell? _ _ i10)).trans i10
    have g11 := (hb3.cell (World.block_lt_of_cell? _ _ i11)).trans i11
    have v0 := (hb3.cell (World.block_lt_of_cell? _ _ x0)).trans x0
    have vf0 := (hb3.frozen (p := ⟨w.heap.size + 1, 0, none⟩) (World.block_lt_of_cell? _ _ x0)).trans xf0
    have v1 := (hb3.cell (World.block_lt_of_cell? _ _ x1)).trans x1
    have vf1 := (hb3.frozen (p := ⟨w.heap.size + 1, 1, none⟩) (World.block_lt_of_cell? _ _ x1)).trans xf1
    have v2 := (hb3.cell (World.block_lt_of_cell? _ _ x2)).trans x2
    have vf2 := (hb3.frozen (p := ⟨w.heap.size + 1, 2, none⟩) (World.block_lt_of_cell? _ _ x2)).trans xf2
    have v3 := (hb3.cell (World.block_lt_of_cell? _ _ x3)).trans x3
    have vf3 := (hb3.frozen (p := ⟨w.heap.size + 1, 3, none⟩) (World.block_lt_of_cell? _ _ x3)).trans xf3
    have v4 := (hb3.cell (World.block_lt_of_cell? _ _ x4)).trans x4
    have vf4 := (hb3.frozen (p := ⟨w.heap.size + 1, 4, none⟩) (World.block_lt_of_cell? _ _ x4)).trans xf4
    have v5 := (hb3.cell (World.block_lt_of_cell? _ _ x5)).trans x5
    have vf5 := (hb3.frozen (p := ⟨w.heap.size + 1, 5, none⟩) (World.block_lt_of_cell? _ _ x5)).trans xf5
    have v6 := (hb3.cell (World.block_lt_of_cell? _ _ x6)).trans x6
    have vf6 := (hb3.frozen (p := ⟨w.heap.size + 1, 6, none⟩) (World.block_lt_of_cell? _ _ x6)).trans xf6
    have hbw3 := hbw2.trans (hb3.mono hbw2.size)
    clear i0 i1 i2 i3 i4 i5 i6 i7 i8 i9 i10 i11 x0 xf0 x1 xf1 x2 xf2 x3 xf3 x4 xf4 x5 xf5 x6 xf6
    clear hb3 hbw2
    obtain rfl : b = true := hiff.2 hM.1
    have hle := hM.2
    have hS256 : (S.length : Int) ≤ 256 := by have := hM.1.1; omega
    clear hiff
    go_wp2_with fail
    refine Calls.mono (nextFrame_is pol tur (some ⟨bp, op, none⟩) pk pc va V vc ma S mc mx mp wt ed cl fm pl _ (hV.moved hbw3) hfV hl (hS.moved hbw3) hfS hM.1.1 hM.1.2 m0 (by have := hr.2.2.2.2; omega) w0 (by have := hr.2.2.2.2; omega) e0 (by have := hr.2.2.2.2; omega) (by have := hr.2.2.1; omega) (by have := hr.2.2.1; omega) _ _ _ _ _ HNX.out) ?_
    rintro e w4 ⟨rfl, hb4⟩
    have i0 := (hb4.cell (World.block_lt_of_cell? _ _ g0)).trans g0
    have i1 := (hb4.cell (World.block_lt_of_cell? _ _ g1)).trans g1
    have i2 := (hb4.cell (World.block_lt_of_cell? _ _ g2)).trans g2
    have i3 := (hb4.cell (World.block_lt_of_cell? _ _ g3)).trans g3
    have i4 := (hb4.cell (World.block_lt_of_cell? _ _ g4)).trans g4
    have i5 := (hb4.cell (World.block_lt_of_cell? _ _ g5)).trans g5
    have i6 := (hb4.cell (World.block_lt_of_cell? _ _ g6)).trans g6
    have i7 := (hb4.cell (World.block_lt_of_cell? _ _ g7)).trans g7
    have i8 := (hb4.cell (World.block_lt_of_cell? _ _ g8)).trans g8
    have i9 := (hb4.cell (World.block_lt_of_cell? _ _ g9)).trans g9
    have i10 := (hb4.cell (World.block_lt_of_cell? _ _ g10)).trans g10
    have i11 := (hb4.cell (World.block_lt_of_cell? _ _ g11)).trans g11
    have x0 := (hb4.cell (World.block_lt_of_cell? _ _ v0)).trans v0
    have xf0 := (hb4.frozen (p := ⟨w.heap.size + 1, 0, none⟩) (World.block_lt_of_cell? _ _ v0)).trans vf0
    have x1 := (hb4.cell (World.block_lt_of_cell? _ _ v1)).trans v1
    have xf1 := (hb4.frozen (p := ⟨w.heap.size + 1, 1, none⟩) (World.block_lt_of_cell? _ _ v1)).trans vf1
    have x2 := (hb4.cell (World.block_lt_of_cell? _ _ v2)).trans v2
    have xf2 := (hb4.frozen (p := ⟨w.heap.size + 1, 2, none⟩) (World.block_lt_of_cell? _ _ v2)).trans vf2
    have x3 := (hb4.cell (World.block_lt_of_cell? _ _ v3)).trans v3
    have xf3 := (hb4.frozen (p := ⟨w.heap.size + 1, 3, none⟩) (World.block_lt_of_cell? _ _ v3)).trans vf3
    have x4 := (hb4.cell (World.block_lt_of_cell? _ _ v4)).trans v4
    have xf4 := (hb4.frozen (p := ⟨w.heap.size + 1, 4, none⟩) (World.block_lt_of_cell? _ _ v4)).trans vf4
    have x5 := (hb4.cell (World.block_lt_of_cell? _ _ v5)).trans v5
    have xf5 := (hb4.frozen (p := ⟨w.heap.size + 1, 5, none⟩) (World.block_lt_of_cell? _ _ v5)).trans vf5
    have x6 := (hb4.cell (World.block_lt_of_cell? _ _ v6)).trans v6
    have xf6 := (hb4.frozen (p := ⟨w.heap.size + 1, 6, none⟩) (World.block_lt_of_cell? _ _ v6)).trans vf6
    have hbw4 := hbw3.trans (hb4.mono hbw3.size)
    clear g0 g1 g2 g3 g4 g5 g6 g7 g8 g9 g10 g11 v0 vf0 v1 vf1 v2 vf2 v3 vf3 v4 vf4 v5 vf5 v6 vf6
    clear hb4 hbw3 hr hM HNX
    have bl : w.heap.size + 1 < w4.heap.size := World.block_lt_of_cell? _ _ x0
    have bl2 : ¬ w.heap.size + 1 = w4.heap.size := by omega
    have bl3 : ¬ w4.heap.size = w.heap.size + 1 := by omega
    have bl4 : ¬ w.heap.size = w4.heap.size := by omega
    have bl5 : ¬ w4.heap.size = w.heap.size := by omega
    have bl6 : w.heap.size < w4.heap.size := by omega
    have hkd' : (kd == 0) = false := by simpa using hkd
    have hkd2 : ¬ kd = 0 := hkd
    clear hkd
    go_wp2_with fail
    obtain ⟨X, hX⟩ : ∃ X, X = w4.alloc (.cells #[.int .i64 kd, .int .i64 pcx, .int .u64 of, .int .i64 ln, .slice none 0 0, .int .i64 0, .int .i64 0] 51) := ⟨_, rfl⟩
    rw [← hX]
    have hbX : Below w4.heap.size w4 X := by rw [hX]; exact (Below.refl _ _).alloc (Nat.le_refl _) _
    have hbwX := hbw4.trans (hbX.mono hbw4.size)
    refine Calls.mono (HG2.out va vc _ (hV.moved hbwX) hvc hvm hvn) ?_
    rintro e w5 ⟨av5, cp5, rfl, ho5, hb5⟩
    have sX : w4.heap.size < X.heap.size := by rw [hX]; simp
    have p0 : w5.cell? ⟨w4.heap.size, 0, none⟩ = some (.int .i64 kd) := by rw [hb5.cell sX, hX]; simp
    have pf0 : w5.frozen? ⟨w4.heap.size, 0, none⟩ = false := by rw [hb5.frozen (p := ⟨w4.heap.size, 0, none⟩) sX, hX]; simp
    have p1 : w5.cell? ⟨w4.heap.size, 1, none⟩ = some (.int .i64 pcx) := by rw [hb5.cell sX, hX]; simp
    have pf1 : w5.frozen? ⟨w4.heap.size, 1, none⟩ = false := by rw [hb5.frozen (p := ⟨w4.heap.size, 1, none⟩) sX, hX]; simp
    have p2 : w5.cell? ⟨w4.heap.size, 2, none⟩ = some (.int .u64 of) := by rw [hb5.cell sX, hX]; simp
    have pf2 : w5.frozen? ⟨w4.heap.size, 2, none⟩ = false := by rw [hb5.frozen (p := ⟨w4.heap.size, 2, none⟩) sX, hX]; simp
    have p3 : w5.cell? ⟨w4.heap.size, 3, none⟩ = some (.int .i64 ln) := by rw [hb5.cell sX, hX]; simp
    have pf3 : w5.frozen? ⟨w4.heap.size, 3, none⟩ = false := by rw [hb5.frozen (p := ⟨w4.heap.size, 3, none⟩) sX, hX]; simp
    have p4 : w5.cell? ⟨w4.heap.size, 4, none⟩ = some (.slice none 0 0) := by rw [hb5.cell sX, hX]; simp
    have pf4 : w5.frozen? ⟨w4.heap.size, 4, none⟩ = false := by rw [hb5.frozen (p := ⟨w4.heap.size, 4, none⟩) sX, hX]; simp
    have p5 : w5.cell? ⟨w4.heap.size, 5, none⟩ = some (.int .i64 0) := by rw [hb5.cell sX, hX]; simp
    have pf5 : w5.frozen? ⟨w4.heap.size, 5, none⟩ = false := by rw [hb5.frozen (p := ⟨w4.heap.size, 5, none⟩) sX, hX]; simp
    have p6 : w5.cell? ⟨w4.heap.size, 6, none⟩ = some (.int .i64 0) := by rw [hb5.cell sX, hX]; simp
    have pf6 : w5.frozen? ⟨w4.heap.size, 6, none⟩ = false := by rw [hb5.frozen (p := ⟨w4.heap.size, 6, none⟩) sX, hX]; simp
    have hb45 := hbX.trans (hb5.mono (Nat.le_of_lt sX))
    have g0 := (hb45.cell (World.block_lt_of_cell? _ _ i0)).trans i0
    have g2 := (hb45.cell (World.block_lt_of_cell? _ _ i2)).trans i2
    have v0 := (hb45.cell (World.block_lt_of_cell? _ _ x0)).trans x0
    have vf0 := (hb45.frozen (p := ⟨w.heap.size + 1, 0, none⟩) (World.block_lt_of_cell? _ _ x0)).trans xf0
    have v1 := (hb45.cell (World.block_lt_of_cell? _ _ x1)).trans x1
    have vf1 := (hb45.frozen (p := ⟨w.heap.size + 1, 1, none⟩) (World.block_lt_of_cell? _ _ x1)).trans xf1
    have v2 := (hb45.cell (World.block_lt_of_cell? _ _ x2)).trans x2
    have vf2 := (hb45.frozen (p := ⟨w.heap.size + 1, 2, none⟩) (World.block_lt_of_cell? _ _ x2)).trans xf2
    have v3 := (hb45.cell (World.block_lt_of_cell? _ _ x3)).trans x3
    have vf3 := (hb45.frozen (p := ⟨w.heap.size + 1, 3, none⟩) (World.block_lt_of_cell? _ _ x3)).trans xf3
    have v4 := (hb45.cell (World.block_lt_of_cell? _ _ x4)).trans x4
    have vf4 := (hb45.frozen (p := ⟨w.heap.size + 1, 4, none⟩) (World.block_lt_of_cell? _ _ x4)).trans xf4
    have v5 := (hb45.cell (World.block_lt_of_cell? _ _ x5)).trans x5
    have vf5 := (hb45.frozen (p := ⟨w.heap.size + 1, 5, none⟩) (World.block_lt_of_cell? _ _ x5)).trans xf5
    have v6 := (hb45.cell (World.block_lt_of_cell? _ _ x6)).trans x6
    have vf6 := (hb45.frozen (p := ⟨w.heap.size + 1, 6, none⟩) (World.block_lt_of_cell? _ _ x6)).trans xf6
    have hbw5 := hbw4.trans (hb45.mono hbw4.size)
    have bX : w.heap.size + 1 < X.heap.size := by omega
    clear hX hbX HG2 hb5 hb45
    clear i0 i1 i2 i3 i4 i5 i6 i7 i8 i9 i10 i11 x0 xf0 x1 xf1 x2 xf2 x3 xf3 x4 xf4 x5 xf5 x6 xf6
    have HROW := own_set7 (own_set (own_set ho5 w4.heap.size 4 (.slice av5 T.length cp5) sX) w4.heap.size 5 (.int .i64 tn) sX) (w.heap.size + 1) bX
    have HBEL := below_set7 ((hbw5.setCell (p := ⟨w4.heap.size, 4, none⟩) (Nat.le_of_lt bl6) (.slice av5 T.length cp5)).setCell (p := ⟨w4.heap.size, 5, none⟩) (Nat.le_of_lt bl6) (.int .i64 tn)) (w.heap.size + 1) (by omega)
    have HROW6 := own_set7 (own_set (own_set (own_set ho5 w4.heap.size 4 (.slice av5 T.length cp5) sX) w4.heap.size 5 (.int .i64 tn) sX) w4.heap.size 6 (.int .i64 1) sX) (w.heap.size + 1) bX
    have HBEL6 := below_set7 (((hbw5.setCell (p := ⟨w4.heap.size, 4, none⟩) (Nat.le_of_lt bl6) (.slice av5 T.length cp5)).setCell (p := ⟨w4.heap.size, 5, none⟩) (Nat.le_of_lt bl6) (.int .i64 tn)).setCell (p := ⟨w4.heap.size, 6, none⟩) (Nat.le_of_lt bl6) (.int .i64 1)) (w.heap.size + 1) (by omega)
    by_cases hp4 : pol = 4
    · have HUS : Hid (us = 1) := by unfold Hid; rw [HUS0.out]; simp [hp4, HPE.out]
      subst hp4
      go_wp2
      exact bodyPost_ret (v := .tuple #[.agg #[.int .i64 kd, .int .i64 pcx, .int .u64 of, .int .i64 ln, .slice av5 T.length cp5, .int .i64 tn, .int .i64 1], .int .i64 0]) (by simp [results, Try.results28, go_sem, v0, v1, v2, v3, v4, v5, v6]) rfl ⟨av5, cp5, by rw [HUS.out], owned_base (HROW6 _ _ _ _ _ _ _) hbwX.size, HBEL6 _ _ _ _ _ _ _⟩
    · have HUS : Hid (us = 0) := by unfold Hid; rw [HUS0.out]; simp [hp4]
      have hp4' : (pol == 4) = false := by simpa using hp4
      go_wp2
      exact bodyPost_ret (v := .tuple #[.agg #[.int .i64 kd, .int .i64 pcx, .int .u64 of, .int .i64 ln, .slice av5 T.length cp5, .int .i64 tn, .int .i64 0], .int .i64 0]) (by simp [results, Try.results28, go_sem, v0, v1, v2, v3, v4, v5, v6]) rfl ⟨av5, cp5, by rw [HUS.out], owned_base (HROW _ _ _ _ _ _ _) hbwX.size, HBEL _ _ _ _ _ _ _⟩
end Go.Proofs.Ytlagaiekoahjnaa
