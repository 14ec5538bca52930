import Derived.Test.YtlagaiekoahjnaaSpecPlan
import Derived.Deep.RegionHeld3
import Derived.Laws.Small
import Derived.Deep.Cut
namespace Go.Proofs.Ytlagaiekoahjnaa
open Go.ChangeShapes Go.WideShapes Go.ChangeAt Go.RowKit
set_option linter.unusedVariables false

/-- The plan under way, in its box behind the argument's and the result's. -/
structure PAt (w x : World) (pol tur : Int) (pa : Option Addr) (np pc : Nat) (va : Option Addr) (nv vc : Nat) (kd pcx of ln : Int) : Prop where
  k0 : x.cell? ⟨w.heap.size, 0, none⟩ = some (.int .i64 pol)
  k1 : x.cell? ⟨w.heap.size, 1, none⟩ = some (.int .i64 tur)
  k2 : x.cell? ⟨w.heap.size, 2, none⟩ = some (.slice pa np pc)
  k3 : x.cell? ⟨w.heap.size, 3, none⟩ = some (.slice va nv vc)
  z0 : x.cell? ⟨w.heap.size + 1, 0, none⟩ = some (.int .i64 0)
  zf0 : x.frozen? ⟨w.heap.size + 1, 0, none⟩ = false
  z1 : x.cell? ⟨w.heap.size + 1, 1, none⟩ = some (.int .i64 0)
  zf1 : x.frozen? ⟨w.heap.size + 1, 1, none⟩ = false
  z2 : x.cell? ⟨w.heap.size + 1, 2, none⟩ = some (.int .u64 0)
  zf2 : x.frozen? ⟨w.heap.size + 1, 2, none⟩ = false
  z3 : x.cell? ⟨w.heap.size + 1, 3, none⟩ = some (.int .i64 0)
  zf3 : x.frozen? ⟨w.heap.size + 1, 3, none⟩ = false
  z4 : x.cell? ⟨w.heap.size + 1, 4, none⟩ = some (.slice none 0 0)
  zf4 : x.frozen? ⟨w.heap.size + 1, 4, none⟩ = false
  z5 : x.cell? ⟨w.heap.size + 1, 5, none⟩ = some (.int .i64 0)
  zf5 : x.frozen? ⟨w.heap.size + 1, 5, none⟩ = false
  z6 : x.cell? ⟨w.heap.size + 1, 6, none⟩ = some (.int .i64 0)
  zf6 : x.frozen? ⟨w.heap.size + 1, 6, none⟩ = false
  y0 : x.cell? ⟨w.heap.size + 1 + 1, 0, none⟩ = some (.int .i64 kd)
  yf0 : x.frozen? ⟨w.heap.size + 1 + 1, 0, none⟩ = false
  y1 : x.cell? ⟨w.heap.size + 1 + 1, 1, none⟩ = some (.int .i64 pcx)
  yf1 : x.frozen? ⟨w.heap.size + 1 + 1, 1, none⟩ = false
  y2 : x.cell? ⟨w.heap.size + 1 + 1, 2, none⟩ = some (.int .u64 of)
  yf2 : x.frozen? ⟨w.heap.size + 1 + 1, 2, none⟩ = false
  y3 : x.cell? ⟨w.heap.size + 1 + 1, 3, none⟩ = some (.int .i64 ln)
  yf3 : x.frozen? ⟨w.heap.size + 1 + 1, 3, none⟩ = false
  y4 : x.cell? ⟨w.heap.size + 1 + 1, 4, none⟩ = some (.slice none 0 0)
  yf4 : x.frozen? ⟨w.heap.size + 1 + 1, 4, none⟩ = false
  y5 : x.cell? ⟨w.heap.size + 1 + 1, 5, none⟩ = some (.int .i64 0)
  yf5 : x.frozen? ⟨w.heap.size + 1 + 1, 5, none⟩ = false
  y6 : x.cell? ⟨w.heap.size + 1 + 1, 6, none⟩ = some (.int .i64 0)
  yf6 : x.frozen? ⟨w.heap.size + 1 + 1, 6, none⟩ = false
  hbc : Below w.heap.size w x
set_option maxHeartbeats 1000000 in
theorem PAt.put {w x : World} {pol tur : Int} {pa : Option Addr} {np pc : Nat} {va : Option Addr} {nv vc : Nat} {kd pcx of ln : Int} (h : PAt w x pol tur pa np pc va nv vc kd pcx of ln) (a b c d : Int) :
    PAt w (((((((x.setCell ⟨w.heap.size + 1 + 1, 0, none⟩ (.int .i64 a)).setCell ⟨w.heap.size + 1 + 1, 1, none⟩ (.int .i64 b)).setCell ⟨w.heap.size + 1 + 1, 2, none⟩ (.int .u64 c)).setCell ⟨w.heap.size + 1 + 1, 3, none⟩ (.int .i64 d)).setCell ⟨w.heap.size + 1 + 1, 4, none⟩ (.slice none 0 0)).setCell ⟨w.heap.size + 1 + 1, 5, none⟩ (.int .i64 0)).setCell ⟨w.heap.size + 1 + 1, 6, none⟩ (.int .i64 0)) pol tur pa np pc va nv vc a b c d := by
  obtain ⟨k0, k1, k2, k3, z0, zf0, z1, zf1, z2, zf2, z3, zf3, z4, zf4, z5, zf5, z6, zf6, y0, yf0, y1, yf1, y2, yf2, y3, yf3, y4, yf4, y5, yf5, y6, yf6, hbc⟩ := h
  constructor
  case hbc => exact below_set7 hbc (w.heap.size + 1 + 1) (by omega) _ _ _ _ _ _ _
  all_goals simp [go_sem, *]

theorem PAt.drew {w x : World} {pol tur : Int} {pa : Option Addr} {np pc : Nat} {va : Option Addr} {nv vc : Nat} {kd pcx of ln : Int} (h : PAt w x pol tur pa np pc va nv vc kd pcx of ln) : PAt w x.drew pol tur pa np pc va nv vc kd pcx of ln :=
  ⟨h.k0, h.k1, h.k2, h.k3, h.z0, h.zf0, h.z1, h.zf1, h.z2, h.zf2, h.z3, h.zf3, h.z4, h.zf4, h.z5, h.zf5, h.z6, h.zf6, h.y0, h.yf0, h.y1, h.yf1, h.y2, h.yf2, h.y3, h.yf3, h.y4, h.yf4, h.y5, h.yf5, h.y6, h.yf6, h.hbc.drew⟩

theorem keep1 {x : World} {n i j : Nat} {v u : Value} (h : x.cell? ⟨n, i, none⟩ = some v) : (x.setCell ⟨n + 1 + 1, j, none⟩ u).cell? ⟨n, i, none⟩ = some v := (World.cell?_setCell_far _ _ _ _ (by simp; omega)).trans h
theorem keepD {x : World} {a : Addr} {v : Value} (h : x.cell? a = some v) : x.drew.cell? a = some v := h
theorem keep7 {x : World} {n i : Nat} {v : Value} (h : x.cell? ⟨n, i, none⟩ = some v) (u0 u1 u2 u3 u4 u5 u6 : Value) :
    (((((((x.setCell ⟨n + 1 + 1, 0, none⟩ u0).setCell ⟨n + 1 + 1, 1, none⟩ u1).setCell ⟨n + 1 + 1, 2, none⟩ u2).setCell ⟨n + 1 + 1, 3, none⟩ u3).setCell ⟨n + 1 + 1, 4, none⟩ u4).setCell ⟨n + 1 + 1, 5, none⟩ u5).setCell ⟨n + 1 + 1, 6, none⟩ u6).drew.cell? ⟨n, i, none⟩ = some v :=
  keepD (keep1 (keep1 (keep1 (keep1 (keep1 (keep1 (keep1 h)))))))

/-- The same with a turn and a pick's use. -/
structure QAt (w x : World) (kd pcx of ln t u : Int) : Prop where
  z0 : x.cell? ⟨w.heap.size + 1, 0, none⟩ = some (.int .i64 0)
  zf0 : x.frozen? ⟨w.heap.size + 1, 0, none⟩ = false
  z1 : x.cell? ⟨w.heap.size + 1, 1, none⟩ = some (.int .i64 0)
  zf1 : x.frozen? ⟨w.heap.size + 1, 1, none⟩ = false
  z2 : x.cell? ⟨w.heap.size + 1, 2, none⟩ = some (.int .u64 0)
  zf2 : x.frozen? ⟨w.heap.size + 1, 2, none⟩ = false
  z3 : x.cell? ⟨w.heap.size + 1, 3, none⟩ = some (.int .i64 0)
  zf3 : x.frozen? ⟨w.heap.size + 1, 3, none⟩ = false
  z4 : x.cell? ⟨w.heap.size + 1, 4, none⟩ = some (.slice none 0 0)
  zf4 : x.frozen? ⟨w.heap.size + 1, 4, none⟩ = false
  z5 : x.cell? ⟨w.heap.size + 1, 5, none⟩ = some (.int .i64 0)
  zf5 : x.frozen? ⟨w.heap.size + 1, 5, none⟩ = false
  z6 : x.cell? ⟨w.heap.size + 1, 6, none⟩ = some (.int .i64 0)
  zf6 : x.frozen? ⟨w.heap.size + 1, 6, none⟩ = false
  y0 : x.cell? ⟨w.heap.size + 1 + 1, 0, none⟩ = some (.int .i64 kd)
  yf0 : x.frozen? ⟨w.heap.size + 1 + 1, 0, none⟩ = false
  y1 : x.cell? ⟨w.heap.size + 1 + 1, 1, none⟩ = some (.int .i64 pcx)
  yf1 : x.frozen? ⟨w.heap.size + 1 + 1, 1, none⟩ = false
  y2 : x.cell? ⟨w.heap.size + 1 + 1, 2, none⟩ = some (.int .u64 of)
  yf2 : x.frozen? ⟨w.heap.size + 1 + 1, 2, none⟩ = false
  y3 : x.cell? ⟨w.heap.size + 1 + 1, 3, none⟩ = some (.int .i64 ln)
  yf3 : x.frozen? ⟨w.heap.size + 1 + 1, 3, none⟩ = false
  y4 : x.cell? ⟨w.heap.size + 1 + 1, 4, none⟩ = some (.slice none 0 0)
  yf4 : x.frozen? ⟨w.heap.size + 1 + 1, 4, none⟩ = false
  y5 : x.cell? ⟨w.heap.size + 1 + 1, 5, none⟩ = some (.int .i64 t)
  yf5 : x.frozen? ⟨w.heap.size + 1 + 1, 5, none⟩ = false
  y6 : x.cell? ⟨w.heap.size + 1 + 1, 6, none⟩ = some (.int .i64 u)
  yf6 : x.frozen? ⟨w.heap.size + 1 + 1, 6, none⟩ = false
  hbc : Below w.heap.size w x
theorem PAt.turn {w x : World} {pol tur : Int} {pa : Option Addr} {np pc : Nat} {va : Option Addr} {nv vc : Nat} {kd pcx of ln : Int} (h : PAt w x pol tur pa np pc va nv vc kd pcx of ln) (t : Int) :
    QAt w (x.setCell ⟨w.heap.size + 1 + 1, 5, none⟩ (.int .i64 t)) kd pcx of ln t 0 := by
  obtain ⟨k0, k1, k2, k3, z0, zf0, z1, zf1, z2, zf2, z3, zf3, z4, zf4, z5, zf5, z6, zf6, y0, yf0, y1, yf1, y2, yf2, y3, yf3, y4, yf4, y5, yf5, y6, yf6, hbc⟩ := h
  constructor
  case hbc => exact hbc.setCell (p := ⟨w.heap.size + 1 + 1, 5, none⟩) (by simp; omega) _
  all_goals simp [go_sem, *]
theorem QAt.used {w x : World} {kd pcx of ln t u : Int} (h : QAt w x kd pcx of ln t u) :
    QAt w (x.setCell ⟨w.heap.size + 1 + 1, 6, none⟩ (.int .i64 1)) kd pcx of ln t 1 := by
  obtain ⟨z0, zf0, z1, zf1, z2, zf2, z3, zf3, z4, zf4, z5, zf5, z6, zf6, y0, yf0, y1, yf1, y2, yf2, y3, yf3, y4, yf4, y5, yf5, y6, yf6, hbc⟩ := h
  constructor
  case hbc => exact hbc.setCell (p := ⟨w.heap.size + 1 + 1, 6, none⟩) (by simp; omega) _
  all_goals simp [go_sem, *]
theorem QAt.size {w x : World} {kd pcx of ln t u : Int} (h : QAt w x kd pcx of ln t u) : w.heap.size + 1 + 1 < x.heap.size := World.block_lt_of_cell? _ _ h.y0
theorem QAt.moved {w x x' : World} {kd pcx of ln t u : Int} (h : QAt w x kd pcx of ln t u) (hb : Below x.heap.size x x') : QAt w x' kd pcx of ln t u := by
  have hs := h.size
  obtain ⟨z0, zf0, z1, zf1, z2, zf2, z3, zf3, z4, zf4, z5, zf5, z6, zf6, y0, yf0, y1, yf1, y2, yf2, y3, yf3, y4, yf4, y5, yf5, y6, yf6, hbc⟩ := h
  constructor
  case hbc => exact hbc.trans (hb.mono hbc.size)
  case z0 => exact (hb.cell (by simp; omega)).trans z0
  case zf0 => exact (hb.frozen (by simp; omega)).trans zf0
  case z1 => exact (hb.cell (by simp; omega)).trans z1
  case zf1 => exact (hb.frozen (by simp; omega)).trans zf1
  case z2 => exact (hb.cell (by simp; omega)).trans z2
  case zf2 => exact (hb.frozen (by simp; omega)).trans zf2
  case z3 => exact (hb.cell (by simp; omega)).trans z3
  case zf3 => exact (hb.frozen (by simp; omega)).trans zf3
  case z4 => exact (hb.cell (by simp; omega)).trans z4
  case zf4 => exact (hb.frozen (by simp; omega)).trans zf4
  case z5 => exact (hb.cell (by simp; omega)).trans z5
  case zf5 => exact (hb.frozen (by simp; omega)).trans zf5
  case z6 => exact (hb.cell (by simp; omega)).trans z6
  case zf6 => exact (hb.frozen (by simp; omega)).trans zf6
  case y0 => exact (hb.cell (by simp; omega)).trans y0
  case yf0 => exact (hb.frozen (by simp; omega)).trans yf0
  case y1 => exact (hb.cell (by simp; omega)).trans y1
  case yf1 => exact (hb.frozen (by simp; omega)).trans yf1
  case y2 => exact (hb.cell (by simp; omega)).trans y2
  case yf2 => exact (hb.frozen (by simp; omega)).trans yf2
  case y3 => exact (hb.cell (by simp; omega)).trans y3
  case yf3 => exact (hb.frozen (by simp; omega)).trans yf3
  case y4 => exact (hb.cell (by simp; omega)).trans y4
  case yf4 => exact (hb.frozen (by simp; omega)).trans yf4
  case y5 => exact (hb.cell (by simp; omega)).trans y5
  case yf5 => exact (hb.frozen (by simp; omega)).trans yf5
  case y6 => exact (hb.cell (by simp; omega)).trans y6
  case yf6 => exact (hb.frozen (by simp; omega)).trans yf6
end Go.Proofs.Ytlagaiekoahjnaa
