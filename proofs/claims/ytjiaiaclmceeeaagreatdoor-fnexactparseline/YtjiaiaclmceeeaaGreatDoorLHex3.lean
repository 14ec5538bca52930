import Derived.Test.YtjiaiaclmceeeaaGreatDoorLHex2
namespace Go.Proofs.YtjiaiaclmceeeaaGreatDoor
open Go.ChangeShapes Go.WideShapes Go.ChangeAt Go.RowKit
set_option linter.unusedVariables false

set_option maxRecDepth 100000 in
set_option maxHeartbeats 1000000 in
theorem hex_i_walk (u : ByteArray) (hm : u.toList ≠ [45]) (h1 : 1 ≤ u.size) (h2 : u.size ≤ 128) (h3 : u.size % 2 = 0) (d : ByteArray) (b : Bool) (hx : (HexTo u u.size ∧ d = strOf (hexOf u (u.size / 2)) ∧ b = true) ∨ (¬ HexTo u u.size ∧ d = ⟨#[]⟩ ∧ b = false)) : Hex 36 u d b := by
  intro w
  have HX : Hid _ := hx
  have e0 : (u.toList == [45]) = false := beq_eq_false_iff_ne.2 hm
  obtain ⟨K, hK⟩ : ∃ K, u.size = 2 * K := ⟨u.size / 2, by omega⟩
  have HK : Hid _ := hK
  have hK64 : K ≤ 64 := by omega
  have g0 : ((u.size : Int) % 2 != 0) = false := bne_eq_false_iff_eq.2 (by omega)
  have g0' : (u.size : Int) % 2 = 0 := by omega
  have g1 : ((u.size : Int) == 0) = false := beq_eq_false_iff_ne.2 (by omega)
  have g1' : (u.size == 0) = false := beq_eq_false_iff_ne.2 (by omega)
  have g2 : decide ((128 : Int) < (u.size : Int)) = false := decide_eq_false (by omega)
  have g5 : ((u.size : Int) % 2 == 1) = false := beq_eq_false_iff_ne.2 (by omega)
  clear hx hm h3 hK
  go_enter Tryz.func36, Tryz.ntmps36
  go_wp2_with fail
  clear g0 g0' g1 g1' g2 g5 e0
  go_loopw [4, 5] (fun ov iv wr => ∃ (k I : Nat) (av : Option Addr) (cp : Nat), k ≤ K ∧ Hid (I = 2 * k) ∧ I ≤ u.size ∧ iv = .int .i64 (I : Int) ∧ ov = .slice av k cp ∧ Hid (HexTo u (2 * k)) ∧ wr.ownsRow w.heap.size 5 1 (.slice av k cp) k ((hexOf u k).map (.int .u8)) ∧ Below w.heap.size w wr) (fun _ iv _ => u.size - (intOf iv).toNat)
  case atStart => exact ⟨0, 0, _, _, Nat.zero_le _, rfl, Nat.zero_le _, rfl, rfl, (fun i hi => by omega : HexTo u 0), World.ownsRow_nil _ _ _ _, Below.refl _ _⟩
  case round =>
  obtain ⟨k, I, av, cp, hk, HI, hIu, rfl, rfl, HT, hrow, hb⟩ := hrel
  by_cases hlt : I < u.size
  case neg =>
    have hkk : ¬ (I : Int) < (u.size : Int) := by omega
    have hkK : k = u.size / 2 := by have := HI.out; omega
    have hend : HexTo u u.size := by have h := HT.out; rwa [show 2 * k = u.size by have := HI.out; have := HK.out; omega] at h
    have hlen := owned_length hrow
    have s0 := toString_any av (hexOf u k) k cp wr (Ints.ofRow hrow) (hexOf_length u k)
    obtain ⟨SS, hSS⟩ : ∃ SS, Hid (SS = strOf (hexOf u k)) := ⟨_, rfl⟩
    rw [← hSS.out] at s0
    have HE : Hid _ := hend
    have HKK : Hid _ := hkK
    clear hrow hend hkK hlen
    go_wp2_with fail
    go_ret2
    rcases HX.out with ⟨_, rfl, rfl⟩ | ⟨g, _⟩
    · exact ⟨by rw [hSS.out, HKK.out]; rfl, hb⟩
    · exact absurd HE.out g
  case pos =>
  have hki : (I : Int) < (u.size : Int) := by omega
  have hlt2 : I + 1 < u.size := by have := HI.out; have := HK.out; omega
  have hki2 : (I : Int) + 1 < (u.size : Int) := by omega
  have hc1 := bt_at hlt
  have hc2 := bt_at hlt2
  have d1 := index_any hexD ((u[I]'hlt).toNat : Int) wr
  have d2 := index_any hexD ((u[I + 1]'hlt2).toNat : Int) wr
  rw [firstIdx_hexI _ (by rw [hc1]; exact bt_lt u I)] at d1
  rw [firstIdx_hexI _ (by rw [hc2]; exact bt_lt u (I + 1))] at d2
  unfold hexD at d1 d2
  obtain ⟨x1, hx1⟩ : ∃ x1, x1 = hexI (u[I]'hlt).toNat := ⟨_, rfl⟩
  obtain ⟨x2, hx2⟩ : ∃ x2, x2 = hexI (u[I + 1]'hlt2).toNat := ⟨_, rfl⟩
  rw [← hx1] at d1
  rw [← hx2] at d2
  rw [hc1] at hx1
  rw [hc2] at hx2
  have hb1 := hexI_le (bt u I)
  have hb2 := hexI_le (bt u (I + 1))
  rw [← hx1] at hb1
  rw [← hx2] at hb2
  have HX1 : Hid _ := hx1
  have HX2 : Hid _ := hx2
  clear hx1 hx2 hc1 hc2
  have hsz := hb.size
  by_cases n1 : 0 ≤ x1
  case neg =>
    have l1 : decide (x1 < 0) = true := decide_eq_true (by omega)
    have HF : Hid (¬ HexTo u u.size) := fun h => by have := h I hlt; rw [← HX1.out] at this; exact n1 this
    clear n1
    go_wp2_with fail
    refine d1.mono ?_
    rintro e w' ⟨rfl, rfl⟩
    clear d1
    go_wp2_with fail
    refine d2.mono ?_
    rintro e w' ⟨rfl, rfl⟩
    clear d2
    go_wp2_with fail
    go_ret2
    rcases HX.out with ⟨g, _⟩ | ⟨_, rfl, rfl⟩
    · exact absurd g HF.out
    · exact ⟨rfl, hb⟩
  case pos =>
  have l1 : decide (x1 < 0) = false := decide_eq_false (by omega)
  by_cases n2 : 0 ≤ x2
  case neg =>
    have l2 : decide (x2 < 0) = true := decide_eq_true (by omega)
    have HF : Hid (¬ HexTo u u.size) := fun h => by have := h (I + 1) hlt2; rw [← HX2.out] at this; exact n2 this
    clear n1 n2
    go_wp2_with fail
    refine d1.mono ?_
    rintro e w' ⟨rfl, rfl⟩
    clear d1
    go_wp2_with fail
    refine d2.mono ?_
    rintro e w' ⟨rfl, rfl⟩
    clear d2
    go_wp2_with fail
    go_ret2
    rcases HX.out with ⟨g, _⟩ | ⟨_, rfl, rfl⟩
    · exact absurd g HF.out
    · exact ⟨rfl, hb⟩
  case pos =>
  have l2 : decide (x2 < 0) = false := decide_eq_false (by omega)
  obtain ⟨x3, hx3⟩ : ∃ x3, x3 = 16 * x1 + x2 := ⟨_, rfl⟩
  have m1 : IntKind.i64.wrap (16 * x1) = 16 * x1 := by rw [IntKind.wrap_i64]; omega
  have m2 : IntKind.i64.wrap (16 * x1 + x2) = x3 := by rw [IntKind.wrap_i64]; omega
  have m3 : 16 * x1 + x2 = x3 := by omega
  have m5 : IntKind.u8.wrap x3 = x3 := by rw [IntKind.wrap_u8]; omega
  have HS : Hid (hexOf u (k + 1) = hexOf u k ++ [x3]) := by unfold Hid; rw [hexOf_succ, hx3, HX1.out, HX2.out, HI.out]
  have HN : Hid (HexTo u (2 * (k + 1))) := HT.out.next (by rw [← HI.out, ← HX1.out]; exact n1) (by rw [← HI.out, ← HX2.out]; exact n2)
  have m4 : x3 % 256 = x3 := by omega
  have HX3 : Hid _ := hx3
  clear hx3 n1 n2
  go_wp2_with fail
  refine d1.mono ?_
  rintro e w' ⟨rfl, rfl⟩
  clear d1
  go_wp2_with fail
  refine d2.mono ?_
  rintro e w' ⟨rfl, rfl⟩
  clear d2
  go_wp2_with (at_builtin; refine wpList_app1 _ (by rfl) _ _ 48 5 (by rfl) .u8 1 Tryz.underlying48 info_byte (by decide) w.heap.size av k cp (hexOf u k) x3 (by rfl) (hrow.alloc _) ⟨w'.heap.size, 0, none⟩ (by rfl) (by simp) (by omega) (by simp; omega) ?_; intro g cap' w4 ho4 hg4)
  have hb4 := below_grown (hb.alloc hsz _) (hrow.alloc _) hg4 (Nat.le_refl _) (by simp; omega)
  go_wp2_with fail
  go_roundw
  case rel => exact ⟨k + 1, I + 2, _, _, by have := HI.out; have := HK.out; omega, by unfold Hid; rw [HI.out]; omega, by omega, by go_num, rfl, HN, by rw [HS.out]; exact ho4, hb4⟩
  case measure => simp [intOf]; omega
end Go.Proofs.YtjiaiaclmceeeaaGreatDoor
