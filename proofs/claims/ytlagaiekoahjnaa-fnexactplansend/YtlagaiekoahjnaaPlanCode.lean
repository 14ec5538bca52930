import Derived.Test.YtlagaiekoahjnaaPickOK
namespace Go.Proofs.Ytlagaiekoahjnaa
open Go.ChangeShapes Go.WideShapes Go.ChangeAt Go.RowKit
set_option linter.unusedVariables false

def OkR (tur : Int) (n : Nat) (np : Nat) (mx mp wt ed cl fm pl : Int) : Prop :=
  (0 ≤ tur ∧ tur < n) ∧ (1 ≤ mx ∧ mx ≤ 256) ∧ (1 ≤ pl ∧ pl ≤ 32) ∧ np ≤ 1000 ∧ mp ≤ wt ∧ wt ≤ 4611686018427387904 ∧ ed ≤ 4611686018427387904 ∧ (0 ≤ cl ∧ cl ≤ 1) ∧ (0 ≤ fm ∧ fm ≤ 1)

theorem mark_yes (x : Int) (w : World) (h : x = 0 ∨ x = 1) : Calls Try.prog 74 #[.int .i64 x] w fun e w' => e = .returned (.bool true) ∧ w' = w := by
  rcases h with rfl | rfl
  all_goals
    go_enter Try.func74, Try.ntmps74
    go_wp2
    go_ret
    exact ⟨rfl, rfl⟩
theorem mark_no (x : Int) (w : World) (h0 : ¬ x = 0) (h1 : ¬ x = 1) : Calls Try.prog 74 #[.int .i64 x] w fun e w' => e = .returned (.bool false) ∧ w' = w := by
  have h0' : (x == 0) = false := by simpa using h0
  have h1' : (x == 1) = false := by simpa using h1
  go_enter Try.func74, Try.ntmps74
  go_wp2
  go_ret
  exact ⟨by first | rfl | (apply ret_bool; simpa using h1), rfl⟩

/-- The code of an input, as the specification finds it. -/
def CodeIs (fn : Nat) (pol tur : Int) (pa : Option Addr) (pk : List Int) (pc : Nat) (va : Option Addr) (V : Vws) (vc : Nat) (ma : Option Addr) (S : Mps) (mc : Nat) (mx mp wt ed cl fm pl : Int) (c : Int) : Prop := ∀ w : World, LieV w va V → LieM w ma S → Calls Try.prog fn #[.agg #[.int .i64 pol, .int .i64 tur, .slice pa pk.length pc, .slice va V.length vc, .slice ma S.length mc, .int .i64 mx, .int .u64 mp, .int .u64 wt, .int .u64 ed, .int .i64 cl, .int .i64 fm, .int .i64 pl]] w fun e w' => e = .returned (.int .i64 c) ∧ Below w.heap.size w w'

theorem code17 (pol tur : Int) (pa : Option Addr) (pk : List Int) (pc : Nat) (va : Option Addr) (V : Vws) (vc : Nat) (ma : Option Addr) (S : Mps) (mc : Nat) (mx mp wt ed cl fm pl : Int) (h : ¬ (1 ≤ pol ∧ pol ≤ 4)) : CodeIs 58 pol tur pa pk pc va V vc ma S mc mx mp wt ed cl fm pl 17 := by
  intro w hV hS
  have hbW : Below w.heap.size w (w.alloc (.cells #[.int .i64 pol, .int .i64 tur, .slice pa pk.length pc, .slice va V.length vc, .slice ma S.length mc, .int .i64 mx, .int .u64 mp, .int .u64 wt, .int .u64 ed, .int .i64 cl, .int .i64 fm, .int .i64 pl] 48)) := (Below.refl _ _).alloc (Nat.le_refl _) _
  rcases (show pol < 1 ∨ (1 ≤ pol ∧ 4 < pol) by omega) with g | ⟨g, g'⟩
  all_goals
    clear h hV hS
    go_enter Try.func58, Try.ntmps58
    go_wp2
    go_ret
    exact ⟨rfl, hbW⟩

theorem code6 (pol tur : Int) (pa : Option Addr) (pk : List Int) (pc : Nat) (va : Option Addr) (V : Vws) (vc : Nat) (ma : Option Addr) (S : Mps) (mc : Nat) (mx mp wt ed cl fm pl : Int) (hfV : FitsV V) (hm : V.length ≤ 9223372036854775807) (hp : 1 ≤ pol ∧ pol ≤ 4) (h : ¬ ((1 ≤ V.length ∧ V.length ≤ 8) ∧ ValidV V)) : CodeIs 58 pol tur pa pk pc va V vc ma S mc mx mp wt ed cl fm pl 6 := by
  intro w hV hS
  obtain ⟨p1, p2⟩ := hp
  obtain ⟨W, hW⟩ : ∃ W, W = w.alloc (.cells #[.int .i64 pol, .int .i64 tur, .slice pa pk.length pc, .slice va V.length vc, .slice ma S.length mc, .int .i64 mx, .int .u64 mp, .int .u64 wt, .int .u64 ed, .int .i64 cl, .int .i64 fm, .int .i64 pl] 48) := ⟨_, rfl⟩
  have hbW : Below w.heap.size w W := by rw [hW]; exact (Below.refl _ _).alloc (Nat.le_refl _) _
  have k0 : W.cell? ⟨w.heap.size, 0, none⟩ = some (.int .i64 pol) := by rw [hW]; simp
  have k1 : W.cell? ⟨w.heap.size, 1, none⟩ = some (.int .i64 tur) := by rw [hW]; simp
  have k2 : W.cell? ⟨w.heap.size, 2, none⟩ = some (.slice pa pk.length pc) := by rw [hW]; simp
  have k3 : W.cell? ⟨w.heap.size, 3, none⟩ = some (.slice va V.length vc) := by rw [hW]; simp
  have k4 : W.cell? ⟨w.heap.size, 4, none⟩ = some (.slice ma S.length mc) := by rw [hW]; simp
  have k5 : W.cell? ⟨w.heap.size, 5, none⟩ = some (.int .i64 mx) := by rw [hW]; simp
  have k6 : W.cell? ⟨w.heap.size, 6, none⟩ = some (.int .u64 mp) := by rw [hW]; simp
  have k7 : W.cell? ⟨w.heap.size, 7, none⟩ = some (.int .u64 wt) := by rw [hW]; simp
  have k8 : W.cell? ⟨w.heap.size, 8, none⟩ = some (.int .u64 ed) := by rw [hW]; simp
  have k9 : W.cell? ⟨w.heap.size, 9, none⟩ = some (.int .i64 cl) := by rw [hW]; simp
  have k10 : W.cell? ⟨w.heap.size, 10, none⟩ = some (.int .i64 fm) := by rw [hW]; simp
  have k11 : W.cell? ⟨w.heap.size, 11, none⟩ = some (.int .i64 pl) := by rw [hW]; simp
  have hVW := hV.moved hbW
  have hSW := hS.moved hbW
  have sW := hbW.size
  clear hV hS
  go_enter Try.func58, Try.ntmps58
  go_wp2_with fail
  rw [← hW]
  refine (specPathsOK va V vc _ hVW hfV (by omega)).mono ?_
  rintro e w1 ⟨b, rfl, hiff, hb1⟩
  obtain rfl : b = false := by cases b; rfl; exact absurd (hiff.1 rfl) h
  clear hiff h hfV hVW hSW
  go_wp2
  go_ret
  exact ⟨rfl, hbW.trans (hb1.mono sW)⟩

set_option maxRecDepth 100000 in
set_option maxHeartbeats 8000000 in
theorem code4 (pol tur : Int) (pa : Option Addr) (pk : List Int) (pc : Nat) (va : Option Addr) (V : Vws) (vc : Nat) (ma : Option Addr) (S : Mps) (mc : Nat) (mx mp wt ed cl fm pl : Int) (hfV : FitsV V) (hpk : pk.length ≤ 9223372036854775807) (hp : 1 ≤ pol ∧ pol ≤ 4) (hv : (1 ≤ V.length ∧ V.length ≤ 8) ∧ ValidV V) (h : ¬ OkR tur V.length pk.length mx mp wt ed cl fm pl) : CodeIs 58 pol tur pa pk pc va V vc ma S mc mx mp wt ed cl fm pl 4 := by
  intro w hV hS
  obtain ⟨p1, p2⟩ := hp
  obtain ⟨W, hW⟩ : ∃ W, W = w.alloc (.cells #[.int .i64 pol, .int .i64 tur, .slice pa pk.length pc, .slice va V.length vc, .slice ma S.length mc, .int .i64 mx, .int .u64 mp, .int .u64 wt, .int .u64 ed, .int .i64 cl, .int .i64 fm, .int .i64 pl] 48) := ⟨_, rfl⟩
  have hbW : Below w.heap.size w W := by rw [hW]; exact (Below.refl _ _).alloc (Nat.le_refl _) _
  have k0 : W.cell? ⟨w.heap.size, 0, none⟩ = some (.int .i64 pol) := by rw [hW]; simp
  have k1 : W.cell? ⟨w.heap.size, 1, none⟩ = some (.int .i64 tur) := by rw [hW]; simp
  have k2 : W.cell? ⟨w.heap.size, 2, none⟩ = some (.slice pa pk.length pc) := by rw [hW]; simp
  have k3 : W.cell? ⟨w.heap.size, 3, none⟩ = some (.slice va V.length vc) := by rw [hW]; simp
  have k4 : W.cell? ⟨w.heap.size, 4, none⟩ = some (.slice ma S.length mc) := by rw [hW]; simp
  have k5 : W.cell? ⟨w.heap.size, 5, none⟩ = some (.int .i64 mx) := by rw [hW]; simp
  have k6 : W.cell? ⟨w.heap.size, 6, none⟩ = some (.int .u64 mp) := by rw [hW]; simp
  have k7 : W.cell? ⟨w.heap.size, 7, none⟩ = some (.int .u64 wt) := by rw [hW]; simp
  have k8 : W.cell? ⟨w.heap.size, 8, none⟩ = some (.int .u64 ed) := by rw [hW]; simp
  have k9 : W.cell? ⟨w.heap.size, 9, none⟩ = some (.int .i64 cl) := by rw [hW]; simp
  have k10 : W.cell? ⟨w.heap.size, 10, none⟩ = some (.int .i64 fm) := by rw [hW]; simp
  have k11 : W.cell? ⟨w.heap.size, 11, none⟩ = some (.int .i64 pl) := by rw [hW]; simp
  have hVW := hV.moved hbW
  have hSW := hS.moved hbW
  have sW := hbW.size
  clear hV hS
  go_enter Try.func58, Try.ntmps58
  go_wp2_with fail
  rw [← hW]
  refine (specPathsOK va V vc _ hVW hfV (by omega)).mono ?_
  rintro e w1 ⟨b, rfl, hiff, hb1⟩
  obtain rfl : b = true := hiff.2 hv
  have j0 := (hb1.cell (World.block_lt_of_cell? _ _ k0)).trans k0
  have j1 := (hb1.cell (World.block_lt_of_cell? _ _ k1)).trans k1
  have j2 := (hb1.cell (World.block_lt_of_cell? _ _ k2)).trans k2
  have j3 := (hb1.cell (World.block_lt_of_cell? _ _ k3)).trans k3
  have j4 := (hb1.cell (World.block_lt_of_cell? _ _ k4)).trans k4
  have j5 := (hb1.cell (World.block_lt_of_cell? _ _ k5)).trans k5
  have j6 := (hb1.cell (World.block_lt_of_cell? _ _ k6)).trans k6
  have j7 := (hb1.cell (World.block_lt_of_cell? _ _ k7)).trans k7
  have j8 := (hb1.cell (World.block_lt_of_cell? _ _ k8)).trans k8
  have j9 := (hb1.cell (World.block_lt_of_cell? _ _ k9)).trans k9
  have j10 := (hb1.cell (World.block_lt_of_cell? _ _ k10)).trans k10
  have j11 := (hb1.cell (World.block_lt_of_cell? _ _ k11)).trans k11
  have l8 : (V.length : Int) ≤ 8 := by omega
  have hbw1 := hbW.trans (hb1.mono sW)
  clear hiff hv hfV hVW hSW hW k0 k1 k2 k3 k4 k5 k6 k7 k8 k9 k10 k11 hb1
  simp only [OkR] at h
  by_cases g : tur < 0
  · clear h
    go_wp2
    go_ret
    exact ⟨rfl, hbw1⟩
  have g0 : 0 ≤ tur := by omega
  clear g
  by_cases g : (V.length : Int) ≤ tur
  · clear h
    go_wp2
    go_ret
    exact ⟨rfl, hbw1⟩
  have g1 : tur < (V.length : Int) := by omega
  clear g
  by_cases g : mx < 1
  · clear h
    go_wp2
    go_ret
    exact ⟨rfl, hbw1⟩
  have g2 : 1 ≤ mx := by omega
  clear g
  by_cases g : 256 < mx
  · clear h
    go_wp2
    go_ret
    exact ⟨rfl, hbw1⟩
  have g3 : mx ≤ 256 := by omega
  clear g
  by_cases g : pl < 1
  · clear h
    go_wp2
    go_ret
    exact ⟨rfl, hbw1⟩
  have g4 : 1 ≤ pl := by omega
  clear g
  by_cases g : 32 < pl
  · clear h
    go_wp2
    go_ret
    exact ⟨rfl, hbw1⟩
  have g5 : pl ≤ 32 := by omega
  clear g
  by_cases g : 1000 < (pk.length : Int)
  · clear h
    go_wp2
    go_ret
    exact ⟨rfl, hbw1⟩
  have g6 : (pk.length : Int) ≤ 1000 := by omega
  clear g
  by_cases g : 4611686018427387904 < mp
  · clear h
    go_wp2
    go_ret
    exact ⟨rfl, hbw1⟩
  have g7 : mp ≤ 4611686018427387904 := by omega
  clear g
  by_cases g : 4611686018427387904 < wt
  · clear h
    go_wp2
    go_ret
    exact ⟨rfl, hbw1⟩
  have g8 : wt ≤ 4611686018427387904 := by omega
  clear g
  by_cases g : 4611686018427387904 < ed
  · clear h
    go_wp2
    go_ret
    exact ⟨rfl, hbw1⟩
  have g9 : ed ≤ 4611686018427387904 := by omega
  clear g
  by_cases g : wt < mp
  · clear h
    go_wp2
    go_ret
    exact ⟨rfl, hbw1⟩
  have g10 : mp ≤ wt := by omega
  clear g
  by_cases g : ¬ cl = 0 ∧ ¬ cl = 1
  · clear h
    go_wp2_with (go_at_call 74; refine (mark_no cl _ g.1 g.2).mono ?_; rintro e w3 ⟨rfl, hw3⟩; obtain rfl := hw3)
    go_ret
    exact ⟨rfl, hbw1⟩
  have g11 : cl = 0 ∨ cl = 1 := by omega
  clear g
  by_cases g : ¬ fm = 0 ∧ ¬ fm = 1
  · clear h
    go_wp2_with (first
      | (go_at_call 74; with_reducible (refine Calls.mono (mark_yes cl _ g11) ?_); rintro e w3 ⟨rfl, hw3⟩; obtain rfl := hw3)
      | (go_at_call 74; with_reducible (refine Calls.mono (mark_no fm _ g.1 g.2) ?_); rintro e w3 ⟨rfl, hw3⟩; obtain rfl := hw3))
    go_ret
    exact ⟨rfl, hbw1⟩
  exfalso
  omega

set_option maxRecDepth 100000 in
set_option maxHeartbeats 8000000 in
theorem codeM (pol tur : Int) (pa : Option Addr) (pk : List Int) (pc : Nat) (va : Option Addr) (V : Vws) (vc : Nat) (ma : Option Addr) (S : Mps) (mc : Nat) (mx mp wt ed cl fm pl : Int) (hfV : FitsV V) (hfS : FitsM S) (hms : S.length ≤ 9223372036854775807) (hp : 1 ≤ pol ∧ pol ≤ 4) (hv : (1 ≤ V.length ∧ V.length ≤ 8) ∧ ValidV V) (hr : OkR tur V.length pk.length mx mp wt ed cl fm pl) :
    (¬ ((S.length ≤ 256 ∧ Valid S) ∧ (S.length : Int) ≤ mx) → CodeIs 58 pol tur pa pk pc va V vc ma S mc mx mp wt ed cl fm pl 1) ∧ ((S.length ≤ 256 ∧ Valid S) ∧ (S.length : Int) ≤ mx → CodeIs 58 pol tur pa pk pc va V vc ma S mc mx mp wt ed cl fm pl 0) := by
  have main : ∀ c : Int, (¬ ((S.length ≤ 256 ∧ Valid S) ∧ (S.length : Int) ≤ mx) ∧ c = 1) ∨ (((S.length ≤ 256 ∧ Valid S) ∧ (S.length : Int) ≤ mx) ∧ c = 0) → CodeIs 58 pol tur pa pk pc va V vc ma S mc mx mp wt ed cl fm pl c := by
    intro c hc
    intro w hV hS
    obtain ⟨p1, p2⟩ := hp
    obtain ⟨W, hW⟩ : ∃ W, W = w.alloc (.cells #[.int .i64 pol, .int .i64 tur, .slice pa pk.length pc, .slice va V.length vc, .slice ma S.length mc, .int .i64 mx, .int .u64 mp, .int .u64 wt, .int .u64 ed, .int .i64 cl, .int .i64 fm, .int .i64 pl] 48) := ⟨_, rfl⟩
    have hbW : Below w.heap.size w W := by rw [hW]; exact (Below.refl _ _).alloc (Nat.le_refl _) _
    have k0 : W.cell? ⟨w.heap.size, 0, none⟩ = some (.int .i64 pol) := by rw [hW]; simp
    have k1 : W.cell? ⟨w.heap.size, 1, none⟩ = some (.int .i64 tur) := by rw [hW]; simp
    have k2 : W.cell? ⟨w.heap.size, 2, none⟩ = some (.slice pa pk.length pc) := by rw [hW]; simp
    have k3 : W.cell? ⟨w.heap.size, 3, none⟩ = some (.slice va V.length vc) := by rw [hW]; simp
    have k4 : W.cell? ⟨w.heap.size, 4, none⟩ = some (.slice ma S.length mc) := by rw [hW]; simp
    have k5 : W.cell? ⟨w.heap.size, 5, none⟩ = some (.int .i64 mx) := by rw [hW]; simp
    have k6 : W.cell? ⟨w.heap.size, 6, none⟩ = some (.int .u64 mp) := by rw [hW]; simp
    have k7 : W.cell? ⟨w.heap.size, 7, none⟩ = some (.int .u64 wt) := by rw [hW]; simp
    have k8 : W.cell? ⟨w.heap.size, 8, none⟩ = some (.int .u64 ed) := by rw [hW]; simp
    have k9 : W.cell? ⟨w.heap.size, 9, none⟩ = some (.int .i64 cl) := by rw [hW]; simp
    have k10 : W.cell? ⟨w.heap.size, 10, none⟩ = some (.int .i64 fm) := by rw [hW]; simp
    have k11 : W.cell? ⟨w.heap.size, 11, none⟩ = some (.int .i64 pl) := by rw [hW]; simp
    have hVW := hV.moved hbW
    have hSW := hS.moved hbW
    have sW := hbW.size
    clear hV hS
    go_enter Try.func58, Try.ntmps58
    go_wp2_with fail
    rw [← hW]
    refine (specPathsOK va V vc _ hVW hfV (by omega)).mono ?_
    rintro e w1 ⟨b, rfl, hiff, hb1⟩
    obtain rfl : b = true := hiff.2 hv
    have j0 := (hb1.cell (World.block_lt_of_cell? _ _ k0)).trans k0
    have j1 := (hb1.cell (World.block_lt_of_cell? _ _ k1)).trans k1
    have j2 := (hb1.cell (World.block_lt_of_cell? _ _ k2)).trans k2
    have j3 := (hb1.cell (World.block_lt_of_cell? _ _ k3)).trans k3
    have j4 := (hb1.cell (World.block_lt_of_cell? _ _ k4)).trans k4
    have j5 := (hb1.cell (World.block_lt_of_cell? _ _ k5)).trans k5
    have j6 := (hb1.cell (World.block_lt_of_cell? _ _ k6)).trans k6
    have j7 := (hb1.cell (World.block_lt_of_cell? _ _ k7)).trans k7
    have j8 := (hb1.cell (World.block_lt_of_cell? _ _ k8)).trans k8
    have j9 := (hb1.cell (World.block_lt_of_cell? _ _ k9)).trans k9
    have j10 := (hb1.cell (World.block_lt_of_cell? _ _ k10)).trans k10
    have j11 := (hb1.cell (World.block_lt_of_cell? _ _ k11)).trans k11
    have l8 : (V.length : Int) ≤ 8 := by omega
    have hSb := hSW.moved hb1
    have hbw1 := hbW.trans (hb1.mono sW)
    obtain ⟨⟨t0, t1⟩, ⟨m0, m1⟩, ⟨l0, l1⟩, n1, w0, w1', e1, ⟨c0, c1⟩, ⟨f0, f1⟩⟩ := hr
    have hcl : cl = 0 ∨ cl = 1 := by omega
    have hfm : fm = 0 ∨ fm = 1 := by omega
    have n1' : (pk.length : Int) ≤ 1000 := by omega
    have mpM : mp ≤ 4611686018427387904 := by omega
    clear hiff hv hfV hVW hSW hW k0 k1 k2 k3 k4 k5 k6 k7 k8 k9 k10 k11 hb1
    go_wp2_with (first
      | (go_at_call 74; with_reducible (refine Calls.mono (mark_yes cl _ hcl) ?_); rintro e w3 ⟨rfl, hw3⟩; obtain rfl := hw3)
      | (go_at_call 74; with_reducible (refine Calls.mono (mark_yes fm _ hfm) ?_); rintro e w3 ⟨rfl, hw3⟩; obtain rfl := hw3))
    refine (specMapsOK ma S mc _ hSb hfS hms).mono ?_
    rintro e w2 ⟨b, rfl, hiff, hb2⟩
    have i4 := (hb2.cell (World.block_lt_of_cell? _ _ j4)).trans j4
    have i5 := (hb2.cell (World.block_lt_of_cell? _ _ j5)).trans j5
    have hbw2 := hbw1.trans (hb2.mono hbw1.size)
    clear j0 j1 j2 j3 j4 j5 j6 j7 j8 j9 j10 j11 hb2 hSb hbw1
    rcases hc with ⟨hn, rfl⟩ | ⟨hy, rfl⟩
    · by_cases hM : S.length ≤ 256 ∧ Valid S
      · obtain rfl : b = true := hiff.2 hM
        have hlt : mx < (S.length : Int) := by
          by_cases g : (S.length : Int) ≤ mx
          · exact absurd ⟨hM, g⟩ hn
          · omega
        have hS256 : (S.length : Int) ≤ 256 := by have := hM.1; omega
        clear hn hM hiff
        go_wp2
        go_ret
        exact ⟨rfl, hbw2⟩
      · obtain rfl : b = false := by cases b; rfl; exact absurd (hiff.1 rfl) hM
        clear hn hM hiff
        go_wp2
        go_ret
        exact ⟨rfl, hbw2⟩
    · obtain rfl : b = true := hiff.2 hy.1
      have hle := hy.2
      clear hy hiff
      go_wp2
      go_ret
      exact ⟨rfl, hbw2⟩
  exact ⟨fun h => main 1 (.inl ⟨h, rfl⟩), fun h => main 0 (.inr ⟨h, rfl⟩)⟩

set_option maxRecDepth 100000 in
set_option maxHeartbeats 4000000 in
theorem ranges_yes (pol tur : Int) (pa : Option Addr) (pk : List Int) (pc : Nat) (va : Option Addr) (V : Vws) (vc : Nat) (ma : Option Addr) (S : Mps) (mc : Nat) (mx mp wt ed cl fm pl : Int) (w : World) (hr : OkR tur V.length pk.length mx mp wt ed cl fm pl) : Calls Try.prog 60 #[.agg #[.int .i64 pol, .int .i64 tur, .slice pa pk.length pc, .slice va V.length vc, .slice ma S.length mc, .int .i64 mx, .int .u64 mp, .int .u64 wt, .int .u64 ed, .int .i64 cl, .int .i64 fm, .int .i64 pl]] w fun e w' => e = .returned (.bool true) ∧ Below w.heap.size w w' := by
  have hbW : Below w.heap.size w (w.alloc (.cells #[.int .i64 pol, .int .i64 tur, .slice pa pk.length pc, .slice va V.length vc, .slice ma S.length mc, .int .i64 mx, .int .u64 mp, .int .u64 wt, .int .u64 ed, .int .i64 cl, .int .i64 fm, .int .i64 pl] 48)) := (Below.refl _ _).alloc (Nat.le_refl _) _
  obtain ⟨⟨t0, t1⟩, ⟨m0, m1⟩, ⟨l0, l1⟩, n1, w0, w1', e1, ⟨c0, c1⟩, ⟨f0, f1⟩⟩ := hr
  have hcl : cl = 0 ∨ cl = 1 := by omega
  have hfm : fm = 0 ∨ fm = 1 := by omega
  have n1' : (pk.length : Int) ≤ 1000 := by omega
  have mpM : mp ≤ 4611686018427387904 := by omega
  clear hcl hfm
  go_enter Try.func60, Try.ntmps60
  go_wp2_with (first
    | (go_at_call 65; with_reducible (refine Calls.mono (within_yes mx 1 256 _ m0 m1) ?_); rintro e w3 ⟨rfl, hw3⟩; obtain rfl := hw3)
    | (go_at_call 65; with_reducible (refine Calls.mono (within_yes pl 1 32 _ l0 l1) ?_); rintro e w3 ⟨rfl, hw3⟩; obtain rfl := hw3)
    | (go_at_call 76; with_reducible (refine Calls.mono (isMark_yes cl _ c0 c1) ?_); rintro e w3 ⟨rfl, hw3⟩; obtain rfl := hw3)
    | (go_at_call 76; with_reducible (refine Calls.mono (isMark_yes fm _ f0 f1) ?_); rintro e w3 ⟨rfl, hw3⟩; obtain rfl := hw3))
  go_ret
  exact ⟨rfl, hbW⟩

set_option maxRecDepth 100000 in
set_option maxHeartbeats 8000000 in
theorem ranges_no (pol tur : Int) (pa : Option Addr) (pk : List Int) (pc : Nat) (va : Option Addr) (V : Vws) (vc : Nat) (ma : Option Addr) (S : Mps) (mc : Nat) (mx mp wt ed cl fm pl : Int) (w : World) (hpk : pk.length ≤ 9223372036854775807) (ht : 0 ≤ tur ∧ tur < V.length) (h : ¬ OkR tur V.length pk.length mx mp wt ed cl fm pl) : Calls Try.prog 60 #[.agg #[.int .i64 pol, .int .i64 tur, .slice pa pk.length pc, .slice va V.length vc, .slice ma S.length mc, .int .i64 mx, .int .u64 mp, .int .u64 wt, .int .u64 ed, .int .i64 cl, .int .i64 fm, .int .i64 pl]] w fun e w' => e = .returned (.bool false) ∧ Below w.heap.size w w' := by
  have hbW : Below w.heap.size w (w.alloc (.cells #[.int .i64 pol, .int .i64 tur, .slice pa pk.length pc, .slice va V.length vc, .slice ma S.length mc, .int .i64 mx, .int .u64 mp, .int .u64 wt, .int .u64 ed, .int .i64 cl, .int .i64 fm, .int .i64 pl] 48)) := (Below.refl _ _).alloc (Nat.le_refl _) _
  simp only [OkR] at h
  by_cases g : ¬ (1 ≤ mx ∧ mx ≤ 256)
  · clear h
    go_enter Try.func60, Try.ntmps60
    go_wp2_with (first
      | (go_at_call 65; with_reducible (refine Calls.mono (within_no mx 1 256 _ g) ?_); rintro e w3 ⟨rfl, hw3⟩; obtain rfl := hw3))
    go_ret
    exact ⟨by first | rfl | (apply ret_bool; simp; omega), hbW⟩
  have g0 : (1 ≤ mx ∧ mx ≤ 256) := by omega
  clear g
  by_cases g : ¬ (1 ≤ pl ∧ pl ≤ 32)
  · clear h
    go_enter Try.func60, Try.ntmps60
    go_wp2_with (first
      | (go_at_call 65; with_reducible (refine Calls.mono (within_yes mx 1 256 _ g0.1 g0.2) ?_); rintro e w3 ⟨rfl, hw3⟩; obtain rfl := hw3)
      | (go_at_call 65; with_reducible (refine Calls.mono (within_no pl 1 32 _ g) ?_); rintro e w3 ⟨rfl, hw3⟩; obtain rfl := hw3))
    go_ret
    exact ⟨by first | rfl | (apply ret_bool; simp; omega), hbW⟩
  have g1 : (1 ≤ pl ∧ pl ≤ 32) := by omega
  clear g
  by_cases g : 1000 < (pk.length : Int)
  · clear h
    go_enter Try.func60, Try.ntmps60
    go_wp2_with (first
      | (go_at_call 65; with_reducible (refine Calls.mono (within_yes mx 1 256 _ g0.1 g0.2) ?_); rintro e w3 ⟨rfl, hw3⟩; obtain rfl := hw3)
      | (go_at_call 65; with_reducible (refine Calls.mono (within_yes pl 1 32 _ g1.1 g1.2) ?_); rintro e w3 ⟨rfl, hw3⟩; obtain rfl := hw3))
    go_ret
    exact ⟨by first | rfl | (apply ret_bool; simp; omega), hbW⟩
  have g2 : (pk.length : Int) ≤ 1000 := by omega
  clear g
  by_cases g : wt < mp
  · clear h
    go_enter Try.func60, Try.ntmps60
    go_wp2_with (first
      | (go_at_call 65; with_reducible (refine Calls.mono (within_yes mx 1 256 _ g0.1 g0.2) ?_); rintro e w3 ⟨rfl, hw3⟩; obtain rfl := hw3)
      | (go_at_call 65; with_reducible (refine Calls.mono (within_yes pl 1 32 _ g1.1 g1.2) ?_); rintro e w3 ⟨rfl, hw3⟩; obtain rfl := hw3))
    go_ret
    exact ⟨by first | rfl | (apply ret_bool; simp; omega), hbW⟩
  have g3 : mp ≤ wt := by omega
  clear g
  by_cases g : 4611686018427387904 < wt
  · clear h
    go_enter Try.func60, Try.ntmps60
    go_wp2_with (first
      | (go_at_call 65; with_reducible (refine Calls.mono (within_yes mx 1 256 _ g0.1 g0.2) ?_); rintro e w3 ⟨rfl, hw3⟩; obtain rfl := hw3)
      | (go_at_call 65; with_reducible (refine Calls.mono (within_yes pl 1 32 _ g1.1 g1.2) ?_); rintro e w3 ⟨rfl, hw3⟩; obtain rfl := hw3))
    go_ret
    exact ⟨by first | rfl | (apply ret_bool; simp; omega), hbW⟩
  have g4 : wt ≤ 4611686018427387904 := by omega
  clear g
  by_cases g : 4611686018427387904 < ed
  · clear h
    go_enter Try.func60, Try.ntmps60
    go_wp2_with (first
      | (go_at_call 65; with_reducible (refine Calls.mono (within_yes mx 1 256 _ g0.1 g0.2) ?_); rintro e w3 ⟨rfl, hw3⟩; obtain rfl := hw3)
      | (go_at_call 65; with_reducible (refine Calls.mono (within_yes pl 1 32 _ g1.1 g1.2) ?_); rintro e w3 ⟨rfl, hw3⟩; obtain rfl := hw3))
    go_ret
    exact ⟨by first | rfl | (apply ret_bool; simp; omega), hbW⟩
  have g5 : ed ≤ 4611686018427387904 := by omega
  clear g
  by_cases g : ¬ (0 ≤ cl ∧ cl ≤ 1)
  · clear h
    go_enter Try.func60, Try.ntmps60
    go_wp2_with (first
      | (go_at_call 65; with_reducible (refine Calls.mono (within_yes mx 1 256 _ g0.1 g0.2) ?_); rintro e w3 ⟨rfl, hw3⟩; obtain rfl := hw3)
      | (go_at_call 65; with_reducible (refine Calls.mono (within_yes pl 1 32 _ g1.1 g1.2) ?_); rintro e w3 ⟨rfl, hw3⟩; obtain rfl := hw3)
      | (go_at_call 76; with_reducible (refine Calls.mono (isMark_no cl _ g) ?_); rintro e w3 ⟨rfl, hw3⟩; obtain rfl := hw3))
    go_ret
    exact ⟨by first | rfl | (apply ret_bool; simp; omega), hbW⟩
  have g6 : (0 ≤ cl ∧ cl ≤ 1) := by omega
  clear g
  by_cases g : ¬ (0 ≤ fm ∧ fm ≤ 1)
  · clear h
    go_enter Try.func60, Try.ntmps60
    go_wp2_with (first
      | (go_at_call 65; with_reducible (refine Calls.mono (within_yes mx 1 256 _ g0.1 g0.2) ?_); rintro e w3 ⟨rfl, hw3⟩; obtain rfl := hw3)
      | (go_at_call 65; with_reducible (refine Calls.mono (within_yes pl 1 32 _ g1.1 g1.2) ?_); rintro e w3 ⟨rfl, hw3⟩; obtain rfl := hw3)
      | (go_at_call 76; with_reducible (refine Calls.mono (isMark_yes cl _ g6.1 g6.2) ?_); rintro e w3 ⟨rfl, hw3⟩; obtain rfl := hw3)
      | (go_at_call 76; with_reducible (refine Calls.mono (isMark_no fm _ g) ?_); rintro e w3 ⟨rfl, hw3⟩; obtain rfl := hw3))
    go_ret
    exact ⟨by first | rfl | (apply ret_bool; simp; omega), hbW⟩
  exfalso
  omega
end Go.Proofs.Ytlagaiekoahjnaa
