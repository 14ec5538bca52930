import Derived.Test.YtlagaiekoahjnaaSpecPlan1
import Derived.Deep.RegionHeld3
import Derived.Laws.Small
namespace Go.Proofs.Ytlagaiekoahjnaa
open Go.ChangeShapes Go.WideShapes Go.ChangeAt Go.RowKit
set_option linter.unusedVariables false

set_option maxRecDepth 100000 in
set_option maxHeartbeats 1000000 in
theorem spec_again (pol tur : Int) (pa : Option Addr) (pk : List Int) (pc : Nat) (va : Option Addr) (V : Vws) (vc : Nat) (ma : Option Addr) (S : Mps) (mc : Nat) (mx mp wt ed cl fm pl : Int) (hvc : V.length ≤ vc) (hvm : vc ≤ 9223372036854775807) (hvn : va = none → vc = 0) (hfV : FitsV V) (hl : V.length ≤ 8) (hfS : FitsM S) (hVS : Valid S) (hS256 : S.length ≤ 256) (ai : Nat) (hi : ai < S.length) (c0 c1 c2 c4 : Int) (C : Nat) (hn : S[ai] = ⟨c0, c1, c2, (C : Int), c4⟩) (hC : C < 256) (hq : qual S V ai = true) (hno : ∀ j, j < ai → qual S V j = false) (l : List Nat) (tn us : Int) (hG : GivesC 48 pol tur (pk.getD 0 0) V C l tn) (hus : us = if pol = 4 ∧ pk ≠ [] then 1 else 0) : GivesA 59 pol tur pa pk pc va V vc ma S mc mx mp wt ed cl fm pl 1 ai c0 c1 (nums l) tn us := by
  have HNA : Hid (S[ai] = ⟨c0, c1, c2, (C : Int), c4⟩) := hn
  have HQA : Hid (qual S V ai = true) := hq
  clear hn hq
  have HNO : Hid _ := hno
  have HG : Hid _ := hG
  have HUS0 : Hid _ := hus
  obtain ⟨kk, hkk⟩ : ∃ kk, kk = pk.getD 0 0 := ⟨_, rfl⟩
  rw [← hkk] at HG
  have HKK : Hid _ := hkk
  clear hno hG hus hkk
  intro w hP hV hS
  simp only [nums_length]
  obtain ⟨W0, hW0⟩ : ∃ W, W = (w.alloc (.cells #[.int .i64 pol, .int .i64 tur, .slice pa pk.length pc, .slice va V.length vc, .slice ma S.length mc, .int .i64 mx, .int .u64 mp, .int .u64 wt, .int .u64 ed, .int .i64 cl, .int .i64 fm, .int .i64 pl] 48)).alloc (.cells #[.int .i64 0, .int .i64 0, .int .u64 0, .int .i64 0, .slice none 0 0, .int .i64 0, .int .i64 0] 51) := ⟨_, rfl⟩
  have hb0 : Below w.heap.size w W0 := by rw [hW0]; exact ((Below.refl _ _).alloc (Nat.le_refl _) _).alloc (by simp) _
  have s0 : W0.heap.size = w.heap.size + 1 + 1 := by rw [hW0]; simp
  have k0_ : W0.cell? ⟨w.heap.size, 0, none⟩ = some (.int .i64 pol) := by rw [hW0]; simp
  have k1_ : W0.cell? ⟨w.heap.size, 1, none⟩ = some (.int .i64 tur) := by rw [hW0]; simp
  have k2_ : W0.cell? ⟨w.heap.size, 2, none⟩ = some (.slice pa pk.length pc) := by rw [hW0]; simp
  have k3_ : W0.cell? ⟨w.heap.size, 3, none⟩ = some (.slice va V.length vc) := by rw [hW0]; simp
  have k4_ : W0.cell? ⟨w.heap.size, 4, none⟩ = some (.slice ma S.length mc) := by rw [hW0]; simp
  have k5_ : W0.cell? ⟨w.heap.size, 5, none⟩ = some (.int .i64 mx) := by rw [hW0]; simp
  have k6_ : W0.cell? ⟨w.heap.size, 6, none⟩ = some (.int .u64 mp) := by rw [hW0]; simp
  have k7_ : W0.cell? ⟨w.heap.size, 7, none⟩ = some (.int .u64 wt) := by rw [hW0]; simp
  have k8_ : W0.cell? ⟨w.heap.size, 8, none⟩ = some (.int .u64 ed) := by rw [hW0]; simp
  have k9_ : W0.cell? ⟨w.heap.size, 9, none⟩ = some (.int .i64 cl) := by rw [hW0]; simp
  have k10_ : W0.cell? ⟨w.heap.size, 10, none⟩ = some (.int .i64 fm) := by rw [hW0]; simp
  have k11_ : W0.cell? ⟨w.heap.size, 11, none⟩ = some (.int .i64 pl) := by rw [hW0]; simp
  have z_0 : W0.cell? ⟨w.heap.size + 1, 0, none⟩ = some (.int .i64 0) := by rw [hW0]; simp
  have zf_0 : W0.frozen? ⟨w.heap.size + 1, 0, none⟩ = false := by rw [hW0]; simp
  have z_1 : W0.cell? ⟨w.heap.size + 1, 1, none⟩ = some (.int .i64 0) := by rw [hW0]; simp
  have zf_1 : W0.frozen? ⟨w.heap.size + 1, 1, none⟩ = false := by rw [hW0]; simp
  have z_2 : W0.cell? ⟨w.heap.size + 1, 2, none⟩ = some (.int .u64 0) := by rw [hW0]; simp
  have zf_2 : W0.frozen? ⟨w.heap.size + 1, 2, none⟩ = false := by rw [hW0]; simp
  have z_3 : W0.cell? ⟨w.heap.size + 1, 3, none⟩ = some (.int .i64 0) := by rw [hW0]; simp
  have zf_3 : W0.frozen? ⟨w.heap.size + 1, 3, none⟩ = false := by rw [hW0]; simp
  have z_4 : W0.cell? ⟨w.heap.size + 1, 4, none⟩ = some (.slice none 0 0) := by rw [hW0]; simp
  have zf_4 : W0.frozen? ⟨w.heap.size + 1, 4, none⟩ = false := by rw [hW0]; simp
  have z_5 : W0.cell? ⟨w.heap.size + 1, 5, none⟩ = some (.int .i64 0) := by rw [hW0]; simp
  have zf_5 : W0.frozen? ⟨w.heap.size + 1, 5, none⟩ = false := by rw [hW0]; simp
  have z_6 : W0.cell? ⟨w.heap.size + 1, 6, none⟩ = some (.int .i64 0) := by rw [hW0]; simp
  have zf_6 : W0.frozen? ⟨w.heap.size + 1, 6, none⟩ = false := by rw [hW0]; simp
  obtain ⟨W, hW⟩ : ∃ W, W = W0.alloc (.cells #[.int .i64 0, .int .i64 0, .int .u64 0, .int .i64 0, .slice none 0 0, .int .i64 0, .int .i64 0] 51) := ⟨_, rfl⟩
  have hb1 : Below W0.heap.size W0 W := by rw [hW]; exact (Below.refl _ _).alloc (Nat.le_refl _) _
  have hbW : Below w.heap.size w W := hb0.trans (hb1.mono hb0.size)
  have k0 := (hb1.cell (World.block_lt_of_cell? _ _ k0_)).trans k0_
  have k1 := (hb1.cell (World.block_lt_of_cell? _ _ k1_)).trans k1_
  have k2 := (hb1.cell (World.block_lt_of_cell? _ _ k2_)).trans k2_
  have k3 := (hb1.cell (World.block_lt_of_cell? _ _ k3_)).trans k3_
  have k4 := (hb1.cell (World.block_lt_of_cell? _ _ k4_)).trans k4_
  have k5 := (hb1.cell (World.block_lt_of_cell? _ _ k5_)).trans k5_
  have k6 := (hb1.cell (World.block_lt_of_cell? _ _ k6_)).trans k6_
  have k7 := (hb1.cell (World.block_lt_of_cell? _ _ k7_)).trans k7_
  have k8 := (hb1.cell (World.block_lt_of_cell? _ _ k8_)).trans k8_
  have k9 := (hb1.cell (World.block_lt_of_cell? _ _ k9_)).trans k9_
  have k10 := (hb1.cell (World.block_lt_of_cell? _ _ k10_)).trans k10_
  have k11 := (hb1.cell (World.block_lt_of_cell? _ _ k11_)).trans k11_
  have z0 := (hb1.cell (World.block_lt_of_cell? _ _ z_0)).trans z_0
  have zf0 := (hb1.frozen (p := ⟨w.heap.size + 1, 0, none⟩) (World.block_lt_of_cell? _ _ z_0)).trans zf_0
  have z1 := (hb1.cell (World.block_lt_of_cell? _ _ z_1)).trans z_1
  have zf1 := (hb1.frozen (p := ⟨w.heap.size + 1, 1, none⟩) (World.block_lt_of_cell? _ _ z_1)).trans zf_1
  have z2 := (hb1.cell (World.block_lt_of_cell? _ _ z_2)).trans z_2
  have zf2 := (hb1.frozen (p := ⟨w.heap.size + 1, 2, none⟩) (World.block_lt_of_cell? _ _ z_2)).trans zf_2
  have z3 := (hb1.cell (World.block_lt_of_cell? _ _ z_3)).trans z_3
  have zf3 := (hb1.frozen (p := ⟨w.heap.size + 1, 3, none⟩) (World.block_lt_of_cell? _ _ z_3)).trans zf_3
  have z4 := (hb1.cell (World.block_lt_of_cell? _ _ z_4)).trans z_4
  have zf4 := (hb1.frozen (p := ⟨w.heap.size + 1, 4, none⟩) (World.block_lt_of_cell? _ _ z_4)).trans zf_4
  have z5 := (hb1.cell (World.block_lt_of_cell? _ _ z_5)).trans z_5
  have zf5 := (hb1.frozen (p := ⟨w.heap.size + 1, 5, none⟩) (World.block_lt_of_cell? _ _ z_5)).trans zf_5
  have z6 := (hb1.cell (World.block_lt_of_cell? _ _ z_6)).trans z_6
  have zf6 := (hb1.frozen (p := ⟨w.heap.size + 1, 6, none⟩) (World.block_lt_of_cell? _ _ z_6)).trans zf_6
  have y0 : W.cell? ⟨w.heap.size + 1 + 1, 0, none⟩ = some (.int .i64 0) := by rw [hW, ← s0]; simp
  have yf0 : W.frozen? ⟨w.heap.size + 1 + 1, 0, none⟩ = false := by rw [hW, ← s0]; simp
  have y1 : W.cell? ⟨w.heap.size + 1 + 1, 1, none⟩ = some (.int .i64 0) := by rw [hW, ← s0]; simp
  have yf1 : W.frozen? ⟨w.heap.size + 1 + 1, 1, none⟩ = false := by rw [hW, ← s0]; simp
  have y2 : W.cell? ⟨w.heap.size + 1 + 1, 2, none⟩ = some (.int .u64 0) := by rw [hW, ← s0]; simp
  have yf2 : W.frozen? ⟨w.heap.size + 1 + 1, 2, none⟩ = false := by rw [hW, ← s0]; simp
  have y3 : W.cell? ⟨w.heap.size + 1 + 1, 3, none⟩ = some (.int .i64 0) := by rw [hW, ← s0]; simp
  have yf3 : W.frozen? ⟨w.heap.size + 1 + 1, 3, none⟩ = false := by rw [hW, ← s0]; simp
  have y4 : W.cell? ⟨w.heap.size + 1 + 1, 4, none⟩ = some (.slice none 0 0) := by rw [hW, ← s0]; simp
  have yf4 : W.frozen? ⟨w.heap.size + 1 + 1, 4, none⟩ = false := by rw [hW, ← s0]; simp
  have y5 : W.cell? ⟨w.heap.size + 1 + 1, 5, none⟩ = some (.int .i64 0) := by rw [hW, ← s0]; simp
  have yf5 : W.frozen? ⟨w.heap.size + 1 + 1, 5, none⟩ = false := by rw [hW, ← s0]; simp
  have y6 : W.cell? ⟨w.heap.size + 1 + 1, 6, none⟩ = some (.int .i64 0) := by rw [hW, ← s0]; simp
  have yf6 : W.frozen? ⟨w.heap.size + 1 + 1, 6, none⟩ = false := by rw [hW, ← s0]; simp
  clear k0_ k1_ k2_ k3_ k4_ k5_ k6_ k7_ k8_ k9_ k10_ k11_ z_0 zf_0 z_1 zf_1 z_2 zf_2 z_3 zf_3 z_4 zf_4 z_5 zf_5 z_6 zf_6
  have hVW := hV.moved hbW
  have hSW := hS.moved hbW
  have hPW := hP.moved hbW
  have sW : w.heap.size + 3 ≤ W.heap.size := by rw [hW]; simp [s0]
  have HVS : Hid (Valid S) := hVS
  rw [hW0] at hW
  clear hS hVS s0 hb1 hb0 hW0
  go_enter Try.func59, Try.ntmps59
  go_wp2
  rw [← hW]
  clear hW
  go_loopw [4, 5] (fun b i wr => (∃ q : Nat, q ≤ ai ∧ i = .int .i64 q ∧ b = .int .i64 0 ∧ Below W.heap.size W wr) ∨ (i = .int .i64 ((ai + 1 : Nat) : Int) ∧ b = .int .i64 (C : Int) ∧ PAt w wr pol tur pa pk.length pc va V.length vc 1 ai c0 c1 ∧ wr.cell? ⟨w.heap.size, 4, none⟩ = some (.slice ma S.length mc))) (fun _ i _ => S.length - (intOf i).toNat)
  case atStart => exact .inl ⟨0, Nat.zero_le _, rfl, rfl, Below.refl _ _⟩
  case round =>
    rcases hrel with ⟨q, hq, rfl, rfl, hb⟩ | ⟨rfl, rfl, hcut, kq⟩
    rotate_left
    · clear k0 k1 k2 k3 k4 k5 k6 k7 k8 k9 k10 k11 z0 zf0 z1 zf1 z2 zf2 z3 zf3 z4 zf4 z5 zf5 z6 zf6 y0 yf0 y1 yf1 y2 yf2 y3 yf3 y4 yf4 y5 yf5 y6 yf6 hVW hSW hPW HNO HNA HQA hbW
      by_cases hlt : ((ai + 1 : Nat) : Int) < (S.length : Int)
      · have hQ0 := hcut.turn tur
        obtain ⟨k0, k1, k2, k3, z0, zf0, z1, zf1, z2, zf2, z3, zf3, z4, zf4, z5, zf5, z6, zf6, y0, yf0, y1, yf1, y2, yf2, y3, yf3, y4, yf4, y5, yf5, y6, yf6, hbc⟩ := hcut
        have bl2 : w.heap.size + 1 + 1 < wr.heap.size := World.block_lt_of_cell? _ _ y0
        by_cases hpe : pk = []
        · have hl0 : ¬ (0 : Int) < (pk.length : Int) := by rw [hpe]; simp
          obtain rfl : kk = 0 := by rw [HKK.out, hpe]; rfl
          have HUS : Hid (us = 0) := by unfold Hid; rw [HUS0.out]; simp [hpe]
          clear HKK hpe HUS0
          go_wp2_with fail
          have hQ := hQ0
          have hs := hQ.size
          refine Calls.mono (HG.out va vc _ (hV.moved hQ.hbc) hvc hvm hvn) ?_
          rintro e w5 ⟨av5, cp5, rfl, ho5, hb5⟩
          have hs5 := Nat.lt_of_lt_of_le hs hb5.size
          obtain ⟨z0, zf0, z1, zf1, z2, zf2, z3, zf3, z4, zf4, z5, zf5, z6, zf6, y0, yf0, y1, yf1, y2, yf2, y3, yf3, y4, yf4, y5, yf5, y6, yf6, hb6⟩ := hQ.moved hb5
          have HROW := own_set7 (own_set (own_set ho5 (w.heap.size + 1 + 1) 4 (.slice av5 l.length cp5) hs) (w.heap.size + 1 + 1) 5 (.int .i64 tn) hs) (w.heap.size + 1) (Nat.lt_trans (Nat.lt_succ_self _) hs)
          have HBEL := below_set7 ((hb6.setCell (p := ⟨w.heap.size + 1 + 1, 4, none⟩) (by simp; omega) (.slice av5 l.length cp5)).setCell (p := ⟨w.heap.size + 1 + 1, 5, none⟩) (by simp; omega) (.int .i64 tn)) (w.heap.size + 1) (by omega)
          have hbase := hQ.hbc.size
          clear hQ ho5 hb5 hb6 HG hs
          go_wp2
          exact bodyPost_ret (v := .agg #[.int .i64 1, .int .i64 (ai : Int), .int .u64 c0, .int .i64 c1, .slice av5 l.length cp5, .int .i64 tn, .int .i64 0]) (by simp [results, Try.results59, go_sem, z0, z1, z2, z3, z4, z5, z6]) rfl ⟨av5, cp5, by rw [HUS.out], owned_base (HROW _ _ _ _ _ _ _) hbase, HBEL _ _ _ _ _ _ _⟩
        · have hl0 : 0 < pk.length := List.length_pos_iff.2 hpe
          have hl1 : (0 : Int) < (pk.length : Int) := by omega
          rcases hP with h | ⟨bp, op, hpa, hcp⟩
          · exact absurd h hpe
          subst hpa
          have q0 := hcp 0 hl0
          rw [← HKK.out] at q0
          simp only [Nat.add_zero] at q0
          have qb := World.block_lt_of_cell? _ _ q0
          have q1 := (hbc.cell qb).trans q0
          have qn0 : ¬ bp = w.heap.size + 1 + 1 := fun e => by rw [e] at qb; simp at qb; omega
          have qn1 : ¬ w.heap.size + 1 + 1 = bp := fun e => qn0 e.symm
          by_cases hp4 : pol = 4
          · have HUS : Hid (us = 1) := by unfold Hid; rw [HUS0.out]; simp [hp4, hpe]
            subst hp4
            clear HKK hpe HUS0 hcp q0
            go_wp2_with fail
            have hQ := hQ0.used
            have hs := hQ.size
            refine Calls.mono (HG.out va vc _ (hV.moved hQ.hbc) hvc hvm hvn) ?_
            rintro e w5 ⟨av5, cp5, rfl, ho5, hb5⟩
            have hs5 := Nat.lt_of_lt_of_le hs hb5.size
            obtain ⟨z0, zf0, z1, zf1, z2, zf2, z3, zf3, z4, zf4, z5, zf5, z6, zf6, y0, yf0, y1, yf1, y2, yf2, y3, yf3, y4, yf4, y5, yf5, y6, yf6, hb6⟩ := hQ.moved hb5
            have HROW := own_set7 (own_set (own_set ho5 (w.heap.size + 1 + 1) 4 (.slice av5 l.length cp5) hs) (w.heap.size + 1 + 1) 5 (.int .i64 tn) hs) (w.heap.size + 1) (Nat.lt_trans (Nat.lt_succ_self _) hs)
            have HBEL := below_set7 ((hb6.setCell (p := ⟨w.heap.size + 1 + 1, 4, none⟩) (by simp; omega) (.slice av5 l.length cp5)).setCell (p := ⟨w.heap.size + 1 + 1, 5, none⟩) (by simp; omega) (.int .i64 tn)) (w.heap.size + 1) (by omega)
            have hbase := hQ.hbc.size
            clear hQ ho5 hb5 hb6 HG hs
            go_wp2
            exact bodyPost_ret (v := .agg #[.int .i64 1, .int .i64 (ai : Int), .int .u64 c0, .int .i64 c1, .slice av5 l.length cp5, .int .i64 tn, .int .i64 1]) (by simp [results, Try.results59, go_sem, z0, z1, z2, z3, z4, z5, z6]) rfl ⟨av5, cp5, by rw [HUS.out], owned_base (HROW _ _ _ _ _ _ _) hbase, HBEL _ _ _ _ _ _ _⟩
          · have HUS : Hid (us = 0) := by unfold Hid; rw [HUS0.out]; simp [hp4]
            have hp4' : (pol == 4) = false := by simpa using hp4
            clear HKK hpe HUS0 hcp q0
            go_wp2_with fail
            have hQ := hQ0
            have hs := hQ.size
            refine Calls.mono (HG.out va vc _ (hV.moved hQ.hbc) hvc hvm hvn) ?_
            rintro e w5 ⟨av5, cp5, rfl, ho5, hb5⟩
            have hs5 := Nat.lt_of_lt_of_le hs hb5.size
            obtain ⟨z0, zf0, z1, zf1, z2, zf2, z3, zf3, z4, zf4, z5, zf5, z6, zf6, y0, yf0, y1, yf1, y2, yf2, y3, yf3, y4, yf4, y5, yf5, y6, yf6, hb6⟩ := hQ.moved hb5
            have HROW := own_set7 (own_set (own_set ho5 (w.heap.size + 1 + 1) 4 (.slice av5 l.length cp5) hs) (w.heap.size + 1 + 1) 5 (.int .i64 tn) hs) (w.heap.size + 1) (Nat.lt_trans (Nat.lt_succ_self _) hs)
            have HBEL := below_set7 ((hb6.setCell (p := ⟨w.heap.size + 1 + 1, 4, none⟩) (by simp; omega) (.slice av5 l.length cp5)).setCell (p := ⟨w.heap.size + 1 + 1, 5, none⟩) (by simp; omega) (.int .i64 tn)) (w.heap.size + 1) (by omega)
            have hbase := hQ.hbc.size
            clear hQ ho5 hb5 hb6 HG hs
            go_wp2
            exact bodyPost_ret (v := .agg #[.int .i64 1, .int .i64 (ai : Int), .int .u64 c0, .int .i64 c1, .slice av5 l.length cp5, .int .i64 tn, .int .i64 0]) (by simp [results, Try.results59, go_sem, z0, z1, z2, z3, z4, z5, z6]) rfl ⟨av5, cp5, by rw [HUS.out], owned_base (HROW _ _ _ _ _ _ _) hbase, HBEL _ _ _ _ _ _ _⟩
      · have hQ0 := hcut.turn tur
        obtain ⟨k0, k1, k2, k3, z0, zf0, z1, zf1, z2, zf2, z3, zf3, z4, zf4, z5, zf5, z6, zf6, y0, yf0, y1, yf1, y2, yf2, y3, yf3, y4, yf4, y5, yf5, y6, yf6, hbc⟩ := hcut
        have bl2 : w.heap.size + 1 + 1 < wr.heap.size := World.block_lt_of_cell? _ _ y0
        by_cases hpe : pk = []
        · have hl0 : ¬ (0 : Int) < (pk.length : Int) := by rw [hpe]; simp
          obtain rfl : kk = 0 := by rw [HKK.out, hpe]; rfl
          have HUS : Hid (us = 0) := by unfold Hid; rw [HUS0.out]; simp [hpe]
          clear HKK hpe HUS0
          go_wp2_with fail
          have hQ := hQ0
          have hs := hQ.size
          refine Calls.mono (HG.out va vc _ (hV.moved hQ.hbc) hvc hvm hvn) ?_
          rintro e w5 ⟨av5, cp5, rfl, ho5, hb5⟩
          have hs5 := Nat.lt_of_lt_of_le hs hb5.size
          obtain ⟨z0, zf0, z1, zf1, z2, zf2, z3, zf3, z4, zf4, z5, zf5, z6, zf6, y0, yf0, y1, yf1, y2, yf2, y3, yf3, y4, yf4, y5, yf5, y6, yf6, hb6⟩ := hQ.moved hb5
          have HROW := own_set7 (own_set (own_set ho5 (w.heap.size + 1 + 1) 4 (.slice av5 l.length cp5) hs) (w.heap.size + 1 + 1) 5 (.int .i64 tn) hs) (w.heap.size + 1) (Nat.lt_trans (Nat.lt_succ_self _) hs)
          have HBEL := below_set7 ((hb6.setCell (p := ⟨w.heap.size + 1 + 1, 4, none⟩) (by simp; omega) (.slice av5 l.length cp5)).setCell (p := ⟨w.heap.size + 1 + 1, 5, none⟩) (by simp; omega) (.int .i64 tn)) (w.heap.size + 1) (by omega)
          have hbase := hQ.hbc.size
          clear hQ ho5 hb5 hb6 HG hs
          go_wp2
          exact bodyPost_ret (v := .agg #[.int .i64 1, .int .i64 (ai : Int), .int .u64 c0, .int .i64 c1, .slice av5 l.length cp5, .int .i64 tn, .int .i64 0]) (by simp [results, Try.results59, go_sem, z0, z1, z2, z3, z4, z5, z6]) rfl ⟨av5, cp5, by rw [HUS.out], owned_base (HROW _ _ _ _ _ _ _) hbase, HBEL _ _ _ _ _ _ _⟩
        · have hl0 : 0 < pk.length := List.length_pos_iff.2 hpe
          have hl1 : (0 : Int) < (pk.length : Int) := by omega
          rcases hP with h | ⟨bp, op, hpa, hcp⟩
          · exact absurd h hpe
          subst hpa
          have q0 := hcp 0 hl0
          rw [← HKK.out] at q0
          simp only [Nat.add_zero] at q0
          have qb := World.block_lt_of_cell? _ _ q0
          have q1 := (hbc.cell qb).trans q0
          have qn0 : ¬ bp = w.heap.size + 1 + 1 := fun e => by rw [e] at qb; simp at qb; omega
          have qn1 : ¬ w.heap.size + 1 + 1 = bp := fun e => qn0 e.symm
          by_cases hp4 : pol = 4
          · have HUS : Hid (us = 1) := by unfold Hid; rw [HUS0.out]; simp [hp4, hpe]
            subst hp4
            clear HKK hpe HUS0 hcp q0
            go_wp2_with fail
            have hQ := hQ0.used
            have hs := hQ.size
            refine Calls.mono (HG.out va vc _ (hV.moved hQ.hbc) hvc hvm hvn) ?_
            rintro e w5 ⟨av5, cp5, rfl, ho5, hb5⟩
            have hs5 := Nat.lt_of_lt_of_le hs hb5.size
            obtain ⟨z0, zf0, z1, zf1, z2, zf2, z3, zf3, z4, zf4, z5, zf5, z6, zf6, y0, yf0, y1, yf1, y2, yf2, y3, yf3, y4, yf4, y5, yf5, y6, yf6, hb6⟩ := hQ.moved hb5
            have HROW := own_set7 (own_set (own_set ho5 (w.heap.size + 1 + 1) 4 (.slice av5 l.length cp5) hs) (w.heap.size + 1 + 1) 5 (.int .i64 tn) hs) (w.heap.size + 1) (Nat.lt_trans (Nat.lt_succ_self _) hs)
            have HBEL := below_set7 ((hb6.setCell (p := ⟨w.heap.size + 1 + 1, 4, none⟩) (by simp; omega) (.slice av5 l.length cp5)).setCell (p := ⟨w.heap.size + 1 + 1, 5, none⟩) (by simp; omega) (.int .i64 tn)) (w.heap.size + 1) (by omega)
            have hbase := hQ.hbc.size
            clear hQ ho5 hb5 hb6 HG hs
            go_wp2
            exact bodyPost_ret (v := .agg #[.int .i64 1, .int .i64 (ai : Int), .int .u64 c0, .int .i64 c1, .slice av5 l.length cp5, .int .i64 tn, .int .i64 1]) (by simp [results, Try.results59, go_sem, z0, z1, z2, z3, z4, z5, z6]) rfl ⟨av5, cp5, by rw [HUS.out], owned_base (HROW _ _ _ _ _ _ _) hbase, HBEL _ _ _ _ _ _ _⟩
          · have HUS : Hid (us = 0) := by unfold Hid; rw [HUS0.out]; simp [hp4]
            have hp4' : (pol == 4) = false := by simpa using hp4
            clear HKK hpe HUS0 hcp q0
            go_wp2_with fail
            have hQ := hQ0
            have hs := hQ.size
            refine Calls.mono (HG.out va vc _ (hV.moved hQ.hbc) hvc hvm hvn) ?_
            rintro e w5 ⟨av5, cp5, rfl, ho5, hb5⟩
            have hs5 := Nat.lt_of_lt_of_le hs hb5.size
            obtain ⟨z0, zf0, z1, zf1, z2, zf2, z3, zf3, z4, zf4, z5, zf5, z6, zf6, y0, yf0, y1, yf1, y2, yf2, y3, yf3, y4, yf4, y5, yf5, y6, yf6, hb6⟩ := hQ.moved hb5
            have HROW := own_set7 (own_set (own_set ho5 (w.heap.size + 1 + 1) 4 (.slice av5 l.length cp5) hs) (w.heap.size + 1 + 1) 5 (.int .i64 tn) hs) (w.heap.size + 1) (Nat.lt_trans (Nat.lt_succ_self _) hs)
            have HBEL := below_set7 ((hb6.setCell (p := ⟨w.heap.size + 1 + 1, 4, none⟩) (by simp; omega) (.slice av5 l.length cp5)).setCell (p := ⟨w.heap.size + 1 + 1, 5, none⟩) (by simp; omega) (.int .i64 tn)) (w.heap.size + 1) (by omega)
            have hbase := hQ.hbc.size
            clear hQ ho5 hb5 hb6 HG hs
            go_wp2
            exact bodyPost_ret (v := .agg #[.int .i64 1, .int .i64 (ai : Int), .int .u64 c0, .int .i64 c1, .slice av5 l.length cp5, .int .i64 tn, .int .i64 0]) (by simp [results, Try.results59, go_sem, z0, z1, z2, z3, z4, z5, z6]) rfl ⟨av5, cp5, by rw [HUS.out], owned_base (HROW _ _ _ _ _ _ _) hbase, HBEL _ _ _ _ _ _ _⟩
    have hbw : Below w.heap.size w wr := hbW.trans (hb.mono hbW.size)
    have sz := hb.size
    have k0' := (hb.cell (World.block_lt_of_cell? _ _ k0)).trans k0
    have k1' := (hb.cell (World.block_lt_of_cell? _ _ k1)).trans k1
    have k2' := (hb.cell (World.block_lt_of_cell? _ _ k2)).trans k2
    have k3' := (hb.cell (World.block_lt_of_cell? _ _ k3)).trans k3
    have k4' := (hb.cell (World.block_lt_of_cell? _ _ k4)).trans k4
    have k5' := (hb.cell (World.block_lt_of_cell? _ _ k5)).trans k5
    have k6' := (hb.cell (World.block_lt_of_cell? _ _ k6)).trans k6
    have k7' := (hb.cell (World.block_lt_of_cell? _ _ k7)).trans k7
    have k8' := (hb.cell (World.block_lt_of_cell? _ _ k8)).trans k8
    have k9' := (hb.cell (World.block_lt_of_cell? _ _ k9)).trans k9
    have k10' := (hb.cell (World.block_lt_of_cell? _ _ k10)).trans k10
    have k11' := (hb.cell (World.block_lt_of_cell? _ _ k11)).trans k11
    have z0' := (hb.cell (World.block_lt_of_cell? _ _ z0)).trans z0
    have zf0' := (hb.frozen (p := ⟨w.heap.size + 1, 0, none⟩) (World.block_lt_of_cell? _ _ z0)).trans zf0
    have z1' := (hb.cell (World.block_lt_of_cell? _ _ z1)).trans z1
    have zf1' := (hb.frozen (p := ⟨w.heap.size + 1, 1, none⟩) (World.block_lt_of_cell? _ _ z1)).trans zf1
    have z2' := (hb.cell (World.block_lt_of_cell? _ _ z2)).trans z2
    have zf2' := (hb.frozen (p := ⟨w.heap.size + 1, 2, none⟩) (World.block_lt_of_cell? _ _ z2)).trans zf2
    have z3' := (hb.cell (World.block_lt_of_cell? _ _ z3)).trans z3
    have zf3' := (hb.frozen (p := ⟨w.heap.size + 1, 3, none⟩) (World.block_lt_of_cell? _ _ z3)).trans zf3
    have z4' := (hb.cell (World.block_lt_of_cell? _ _ z4)).trans z4
    have zf4' := (hb.frozen (p := ⟨w.heap.size + 1, 4, none⟩) (World.block_lt_of_cell? _ _ z4)).trans zf4
    have z5' := (hb.cell (World.block_lt_of_cell? _ _ z5)).trans z5
    have zf5' := (hb.frozen (p := ⟨w.heap.size + 1, 5, none⟩) (World.block_lt_of_cell? _ _ z5)).trans zf5
    have z6' := (hb.cell (World.block_lt_of_cell? _ _ z6)).trans z6
    have zf6' := (hb.frozen (p := ⟨w.heap.size + 1, 6, none⟩) (World.block_lt_of_cell? _ _ z6)).trans zf6
    have y0' := (hb.cell (World.block_lt_of_cell? _ _ y0)).trans y0
    have yf0' := (hb.frozen (p := ⟨w.heap.size + 1 + 1, 0, none⟩) (World.block_lt_of_cell? _ _ y0)).trans yf0
    have y1' := (hb.cell (World.block_lt_of_cell? _ _ y1)).trans y1
    have yf1' := (hb.frozen (p := ⟨w.heap.size + 1 + 1, 1, none⟩) (World.block_lt_of_cell? _ _ y1)).trans yf1
    have y2' := (hb.cell (World.block_lt_of_cell? _ _ y2)).trans y2
    have yf2' := (hb.frozen (p := ⟨w.heap.size + 1 + 1, 2, none⟩) (World.block_lt_of_cell? _ _ y2)).trans yf2
    have y3' := (hb.cell (World.block_lt_of_cell? _ _ y3)).trans y3
    have yf3' := (hb.frozen (p := ⟨w.heap.size + 1 + 1, 3, none⟩) (World.block_lt_of_cell? _ _ y3)).trans yf3
    have y4' := (hb.cell (World.block_lt_of_cell? _ _ y4)).trans y4
    have yf4' := (hb.frozen (p := ⟨w.heap.size + 1 + 1, 4, none⟩) (World.block_lt_of_cell? _ _ y4)).trans yf4
    have y5' := (hb.cell (World.block_lt_of_cell? _ _ y5)).trans y5
    have yf5' := (hb.frozen (p := ⟨w.heap.size + 1 + 1, 5, none⟩) (World.block_lt_of_cell? _ _ y5)).trans yf5
    have y6' := (hb.cell (World.block_lt_of_cell? _ _ y6)).trans y6
    have yf6' := (hb.frozen (p := ⟨w.heap.size + 1 + 1, 6, none⟩) (World.block_lt_of_cell? _ _ y6)).trans yf6
    have hVr := hVW.moved hb
    have hSr := hSW.moved hb
    have hPr := hPW.moved hb
    clear k0 k1 k2 k3 k4 k5 k6 k7 k8 k9 k10 k11 z0 zf0 z1 zf1 z2 zf2 z3 zf3 z4 zf4 z5 zf5 z6 zf6 y0 yf0 y1 yf1 y2 yf2 y3 yf3 y4 yf4 y5 yf5 y6 yf6
    clear hVW hSW hPW
    have hlt : q < S.length := by omega
    rcases hSr with h | ⟨b, off, rfl, hc⟩
    · simp [h] at hlt
    have hb' := fun v => hb.alloc sz v
    have hqi : (q : Int) < (S.length : Int) := by omega
    have bl2 : w.heap.size + 1 + 1 < wr.heap.size := World.block_lt_of_cell? _ _ y0'
    have bl0 : w.heap.size < wr.heap.size := by omega
    have bn0 : ¬ w.heap.size = wr.heap.size := by omega
    have bm0 : ¬ wr.heap.size = w.heap.size := by omega
    have bl1 : w.heap.size + 1 < wr.heap.size := by omega
    have bn1 : ¬ w.heap.size + 1 = wr.heap.size := by omega
    have bm1 : ¬ wr.heap.size = w.heap.size + 1 := by omega
    have bn2 : ¬ w.heap.size + 1 + 1 = wr.heap.size := by omega
    have bm2 : ¬ wr.heap.size = w.heap.size + 1 + 1 := by omega
    by_cases hqa' : q = ai
    · subst hqa'
      obtain ⟨d0, d1, d2, d3, d4, hn, hok, r0, r1, r2, r3, r4⟩ := LieM.at hfS hc hlt
      have e := hn.out.symm.trans HNA.out
      simp only [Mp.mk.injEq] at e
      obtain ⟨rfl, rfl, rfl, rfl, rfl⟩ := e
      have hqa := qual_at (V := V) hlt HNA.out
      rw [HQA.out] at hqa
      have hqb := hqa.symm
      simp only [Bool.and_eq_true, decide_eq_true_eq] at hqb
      obtain ⟨rfl, hne⟩ := hqb
      have HNE : Hid (elig V C V.length ≠ []) := hne
      clear hqa hne hn hok hfS HVS hc HNO HNA HQA hqi
      obtain ⟨X, hX⟩ : ∃ X, X = wr.alloc (.cells #[.int .u64 d0, .int .i64 d1, .int .i64 d2, .int .i64 (C : Int), .int .i64 1] 55) := ⟨_, rfl⟩
      have hbX : Below wr.heap.size wr X := by rw [hX]; exact (Below.refl _ _).alloc (Nat.le_refl _) _
      have sX : wr.heap.size < X.heap.size := by rw [hX]; simp
      have x0 : X.cell? ⟨wr.heap.size, 0, none⟩ = some (.int .u64 d0) := by rw [hX]; simp
      have x1 : X.cell? ⟨wr.heap.size, 1, none⟩ = some (.int .i64 d1) := by rw [hX]; simp
      have x3 : X.cell? ⟨wr.heap.size, 3, none⟩ = some (.int .i64 (C : Int)) := by rw [hX]; simp
      have hVX := hVr.moved hbX
      go_wp2_with fail
      rw [← hX]
      refine Calls.mono (specElig_some va V vc C _ hVX hfV hl hC HNE.out) ?_
      rintro e w2 ⟨av, cp, n, rfl, hn0, hb2⟩
      have hbX2 : Below wr.heap.size wr w2 := hbX.trans (hb2.mono hbX.size)
      have hbw2 := hbw.trans (hbX2.mono hbw.size)
      have t0 := (hb2.cell sX).trans x0
      have t1 := (hb2.cell sX).trans x1
      have t3 := (hb2.cell sX).trans x3
      have k02 := (hbX2.cell (World.block_lt_of_cell? _ _ k0')).trans k0'
      have k12 := (hbX2.cell (World.block_lt_of_cell? _ _ k1')).trans k1'
      have k22 := (hbX2.cell (World.block_lt_of_cell? _ _ k2')).trans k2'
      have k32 := (hbX2.cell (World.block_lt_of_cell? _ _ k3')).trans k3'
      have k42 := (hbX2.cell (World.block_lt_of_cell? _ _ k4')).trans k4'
      have k52 := (hbX2.cell (World.block_lt_of_cell? _ _ k5')).trans k5'
      have k62 := (hbX2.cell (World.block_lt_of_cell? _ _ k6')).trans k6'
      have k72 := (hbX2.cell (World.block_lt_of_cell? _ _ k7')).trans k7'
      have k82 := (hbX2.cell (World.block_lt_of_cell? _ _ k8')).trans k8'
      have k92 := (hbX2.cell (World.block_lt_of_cell? _ _ k9')).trans k9'
      have k102 := (hbX2.cell (World.block_lt_of_cell? _ _ k10')).trans k10'
      have k112 := (hbX2.cell (World.block_lt_of_cell? _ _ k11')).trans k11'
      have z02 := (hbX2.cell (World.block_lt_of_cell? _ _ z0')).trans z0'
      have zf02 := (hbX2.frozen (p := ⟨w.heap.size + 1, 0, none⟩) (World.block_lt_of_cell? _ _ z0')).trans zf0'
      have z12 := (hbX2.cell (World.block_lt_of_cell? _ _ z1')).trans z1'
      have zf12 := (hbX2.frozen (p := ⟨w.heap.size + 1, 1, none⟩) (World.block_lt_of_cell? _ _ z1')).trans zf1'
      have z22 := (hbX2.cell (World.block_lt_of_cell? _ _ z2')).trans z2'
      have zf22 := (hbX2.frozen (p := ⟨w.heap.size + 1, 2, none⟩) (World.block_lt_of_cell? _ _ z2')).trans zf2'
      have z32 := (hbX2.cell (World.block_lt_of_cell? _ _ z3')).trans z3'
      have zf32 := (hbX2.frozen (p := ⟨w.heap.size + 1, 3, none⟩) (World.block_lt_of_cell? _ _ z3')).trans zf3'
      have z42 := (hbX2.cell (World.block_lt_of_cell? _ _ z4')).trans z4'
      have zf42 := (hbX2.frozen (p := ⟨w.heap.size + 1, 4, none⟩) (World.block_lt_of_cell? _ _ z4')).trans zf4'
      have z52 := (hbX2.cell (World.block_lt_of_cell? _ _ z5')).trans z5'
      have zf52 := (hbX2.frozen (p := ⟨w.heap.size + 1, 5, none⟩) (World.block_lt_of_cell? _ _ z5')).trans zf5'
      have z62 := (hbX2.cell (World.block_lt_of_cell? _ _ z6')).trans z6'
      have zf62 := (hbX2.frozen (p := ⟨w.heap.size + 1, 6, none⟩) (World.block_lt_of_cell? _ _ z6')).trans zf6'
      have y02 := (hbX2.cell (World.block_lt_of_cell? _ _ y0')).trans y0'
      have yf02 := (hbX2.frozen (p := ⟨w.heap.size + 1 + 1, 0, none⟩) (World.block_lt_of_cell? _ _ y0')).trans yf0'
      have y12 := (hbX2.cell (World.block_lt_of_cell? _ _ y1')).trans y1'
      have yf12 := (hbX2.frozen (p := ⟨w.heap.size + 1 + 1, 1, none⟩) (World.block_lt_of_cell? _ _ y1')).trans yf1'
      have y22 := (hbX2.cell (World.block_lt_of_cell? _ _ y2')).trans y2'
      have yf22 := (hbX2.frozen (p := ⟨w.heap.size + 1 + 1, 2, none⟩) (World.block_lt_of_cell? _ _ y2')).trans yf2'
      have y32 := (hbX2.cell (World.block_lt_of_cell? _ _ y3')).trans y3'
      have yf32 := (hbX2.frozen (p := ⟨w.heap.size + 1 + 1, 3, none⟩) (World.block_lt_of_cell? _ _ y3')).trans yf3'
      have y42 := (hbX2.cell (World.block_lt_of_cell? _ _ y4')).trans y4'
      have yf42 := (hbX2.frozen (p := ⟨w.heap.size + 1 + 1, 4, none⟩) (World.block_lt_of_cell? _ _ y4')).trans yf4'
      have y52 := (hbX2.cell (World.block_lt_of_cell? _ _ y5')).trans y5'
      have yf52 := (hbX2.frozen (p := ⟨w.heap.size + 1 + 1, 5, none⟩) (World.block_lt_of_cell? _ _ y5')).trans yf5'
      have y62 := (hbX2.cell (World.block_lt_of_cell? _ _ y6')).trans y6'
      have yf62 := (hbX2.frozen (p := ⟨w.heap.size + 1 + 1, 6, none⟩) (World.block_lt_of_cell? _ _ y6')).trans yf6'
      clear k0' k1' k2' k3' k4' k5' k6' k7' k8' k9' k10' k11' z0' zf0' z1' zf1' z2' zf2' z3' zf3' z4' zf4' z5' zf5' z6' zf6' y0' yf0' y1' yf1' y2' yf2' y3' yf3' y4' yf4' y5' yf5' y6' yf6'
      have HP : PAt w w2 pol tur pa pk.length pc va V.length vc 0 0 0 0 := ⟨k02, k12, k22, k32, z02, zf02, z12, zf12, z22, zf22, z32, zf32, z42, zf42, z52, zf52, z62, zf62, y02, yf02, y12, yf12, y22, yf22, y32, yf32, y42, yf42, y52, yf52, y62, yf62, hbw2⟩
      clear hX x0 x1 x3 hVX hVr hPr hbw hb hb' hb2 hbX r0 r1 r2 r3 r4 hV hP HG
      go_wp2_with fail
      exact ⟨.inr ⟨by go_num, rfl, HP.put _ _ _ _, keep1 (keep1 (keep1 (keep1 (keep1 (keep1 (keep1 k42))))))⟩, by simp [intOf]; omega⟩
    · have hql : q < ai := by omega
      obtain ⟨c0', c1', c2', c3', c4', hn, hok, r0, r1, r2, r3, r4⟩ := LieM.at hfS hc hlt
      obtain ⟨C', rfl, hC'⟩ := car_nat HVS.out hlt hn.out
      have hqa := qual_at (V := V) hlt hn.out
      have hqq := HNO.out q hql
      rw [hqq] at hqa
      clear hqq hc hok hfS HVS hn
      by_cases h4 : c4' = 1
      · subst h4
        have HNE : Hid (elig V C' V.length = []) := by unfold Hid; simpa using hqa.symm
        clear hqa
        go_wp2_with (go_at_call 66; refine (specElig_none va V vc C' _ (hVr.moved ((Below.refl _ _).alloc (Nat.le_refl _) _)) hfV hl hC' HNE.out).mono ?_; rintro e w2 ⟨av, cp, rfl, hb2⟩)
        go_roundw
        case rel => exact .inl ⟨q + 1, by omega, by go_num, rfl, (hb' _).trans (hb2.mono (hb' _).size)⟩
        case measure => simp [intOf]; omega
      · have h4' : (c4' == 1) = false := by simpa using h4
        clear hqa
        go_wp2
        go_roundw
        case rel => exact .inl ⟨q + 1, by omega, by go_num, rfl, hb' _⟩
        case measure => simp [intOf]; omega
end Go.Proofs.Ytlagaiekoahjnaa
