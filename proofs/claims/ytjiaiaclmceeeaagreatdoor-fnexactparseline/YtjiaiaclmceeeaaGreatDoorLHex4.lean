import Derived.Test.YtjiaiaclmceeeaaGreatDoorLHex3
namespace Go.Proofs.YtjiaiaclmceeeaaGreatDoor
open Go.ChangeShapes Go.WideShapes Go.ChangeAt Go.RowKit
set_option linter.unusedVariables false

theorem hex_s_dash (u : ByteArray) (hm : u.toList = [45]) : Hex 11 u ⟨#[]⟩ true := by
  intro w
  have e0 : (u.toList == [45]) = true := by rw [hm]; rfl
  clear hm
  go_enter Tryz.func11, Tryz.ntmps11
  go_wp2_with fail
  go_ret2
  exact ⟨rfl, Below.refl _ _⟩
theorem hex_i_dash (u : ByteArray) (hm : u.toList = [45]) : Hex 36 u ⟨#[]⟩ true := by
  intro w
  have e0 : (u.toList == [45]) = true := by rw [hm]; rfl
  clear hm
  go_enter Tryz.func36, Tryz.ntmps36
  go_wp2_with fail
  go_ret2
  exact ⟨rfl, Below.refl _ _⟩
theorem hex_s_no (u : ByteArray) (hb : u.size ≤ 1048576) (hm : u.toList ≠ [45]) (h : u.size % 2 = 1 ∨ u.size % 2 = 0 ∧ (u.size = 0 ∨ 128 < u.size)) : Hex 11 u ⟨#[]⟩ false := by
  intro w
  have e0 : (u.toList == [45]) = false := beq_eq_false_iff_ne.2 hm
  clear hm
  rcases h with h | ⟨h, h' | h'⟩
  · have g0 : ((u.size : Int) % 2 != 0) = true := by simp; omega
    have g0' : ¬ (u.size : Int) % 2 = 0 := by omega
    clear h
    go_enter Tryz.func11, Tryz.ntmps11
    go_wp2_with fail
    go_ret2
    exact ⟨rfl, Below.refl _ _⟩
  · have g0 : ((u.size : Int) % 2 != 0) = false := bne_eq_false_iff_eq.2 (by omega)
    have g0' : (u.size : Int) % 2 = 0 := by omega
    have g1 : ((u.size : Int) == 0) = true := beq_iff_eq.2 (by omega)
    have g1' : (u.size == 0) = true := beq_iff_eq.2 h'
    have HH : Hid _ := h'
    clear h h'
    go_enter Tryz.func11, Tryz.ntmps11
    go_wp2_with fail
    go_ret2
    exact ⟨rfl, Below.refl _ _⟩
  · have g0 : ((u.size : Int) % 2 != 0) = false := bne_eq_false_iff_eq.2 (by omega)
    have g0' : (u.size : Int) % 2 = 0 := by omega
    have g1 : ((u.size : Int) == 0) = false := beq_eq_false_iff_ne.2 (by omega)
    have g1' : (u.size == 0) = false := beq_eq_false_iff_ne.2 (by omega)
    have g2 : decide ((128 : Int) < (u.size : Int)) = true := decide_eq_true (by omega)
    have g3 : (128 : Int) < (u.size : Int) := by omega
    clear h
    go_enter Tryz.func11, Tryz.ntmps11
    go_wp2_with fail
    go_ret2
    exact ⟨rfl, Below.refl _ _⟩
theorem hex_i_no (u : ByteArray) (hb : u.size ≤ 1048576) (hm : u.toList ≠ [45]) (h : u.size % 2 = 1 ∨ u.size % 2 = 0 ∧ 128 < u.size) : Hex 36 u ⟨#[]⟩ false := by
  intro w
  have e0 : (u.toList == [45]) = false := beq_eq_false_iff_ne.2 hm
  clear hm
  rcases h with h | ⟨h, h'⟩
  · have g0 : ((u.size : Int) % 2 == 1) = true := by simp; omega
    have g0' : (u.size : Int) % 2 = 1 := by omega
    clear h
    go_enter Tryz.func36, Tryz.ntmps36
    go_wp2_with fail
    go_ret2
    exact ⟨rfl, Below.refl _ _⟩
  · have g0 : ((u.size : Int) % 2 == 1) = false := beq_eq_false_iff_ne.2 (by omega)
    have g0' : (u.size : Int) % 2 = 0 := by omega
    have g2 : decide ((128 : Int) < (u.size : Int)) = true := decide_eq_true (by omega)
    have g3 : (128 : Int) < (u.size : Int) := by omega
    clear h
    go_enter Tryz.func36, Tryz.ntmps36
    go_wp2_with fail
    go_ret2
    exact ⟨rfl, Below.refl _ _⟩
theorem hex_cases (u : ByteArray) (hb : u.size ≤ 1048576) : (HexOK u ∧ Hex 11 u (hexF u) true ∧ Hex 36 u (hexF u) true) ∨ (¬ HexOK u ∧ Hex 11 u ⟨#[]⟩ false ∧ (1 ≤ u.size → Hex 36 u ⟨#[]⟩ false)) := by
  by_cases hm : u.toList = [45]
  · refine .inl ⟨.inl hm, ?_, ?_⟩
    · unfold hexF; rw [if_pos hm]; exact hex_s_dash u hm
    · unfold hexF; rw [if_pos hm]; exact hex_i_dash u hm
  by_cases h : u.size % 2 = 0 ∧ 1 ≤ u.size ∧ u.size ≤ 128
  · by_cases ht : HexTo u u.size
    · refine .inl ⟨.inr ⟨h.1, h.2.1, h.2.2, ht⟩, ?_, ?_⟩
      · unfold hexF; rw [if_neg hm]; exact hex_s_walk u hm h.2.1 h.2.2 h.1 _ _ (.inl ⟨ht, rfl, rfl⟩)
      · unfold hexF; rw [if_neg hm]; exact hex_i_walk u hm h.2.1 h.2.2 h.1 _ _ (.inl ⟨ht, rfl, rfl⟩)
    · refine .inr ⟨?_, hex_s_walk u hm h.2.1 h.2.2 h.1 _ _ (.inr ⟨ht, rfl, rfl⟩), fun _ => hex_i_walk u hm h.2.1 h.2.2 h.1 _ _ (.inr ⟨ht, rfl, rfl⟩)⟩
      rintro (h9 | h9)
      · exact hm h9
      · exact ht h9.2.2.2
  · refine .inr ⟨?_, hex_s_no u hb hm (by omega), fun h1 => hex_i_no u hb hm (by omega)⟩
    rintro (h9 | h9)
    · exact hm h9
    · exact h ⟨h9.1, h9.2.1, h9.2.2.1⟩
end Go.Proofs.YtjiaiaclmceeeaaGreatDoor
