import Derived.Test.YtjiaiaclmceeeaaGreatDoorLSpec1
namespace Go.Proofs.YtjiaiaclmceeeaaGreatDoor
open Go.ChangeShapes Go.WideShapes Go.ChangeAt Go.RowKit
set_option linter.unusedVariables false
set_option linter.unusedSimpArgs false

/-! ### Words of their kinds are not empty -/
theorem word_bytes {s u : ByteArray} (hb : BytesOK s s.size) (h : u ∈ wordsOf s) : ∀ j, j < u.size → 32 ≤ bt u j ∧ bt u j ≤ 126 := by
  unfold wordsOf strs at h
  rcases List.mem_append.1 h with h | h
  · obtain ⟨p, hp, rfl⟩ := List.mem_map.1 h
    have h2 := pieces_in s s.size p hp
    intro j hj
    rw [size_piece (by omega)] at hj
    rw [bt_extract (by omega) (by omega)]
    exact hb _ (by omega)
  · simp at h; subst h
    intro j hj
    rw [size_piece (Nat.le_refl _)] at hj
    rw [bt_extract (Nat.le_refl _) (by omega)]
    exact hb _ (by omega)
theorem size_list (u : ByteArray) : u.size = u.toList.length := by rw [ByteArray.toList_eq]; rfl
theorem okW_full {k : Nat} {u : ByteArray} (h : okW k u) : 1 ≤ u.size := by
  unfold okW at h
  split at h
  · exact h.1.1
  · exact h.1.1
  · exact h.1.1
  · rw [size_list]
    rcases h with h | h <;> rw [h] <;> decide
  · exact h
  · omega
  · rcases h with h | h
    · rw [size_list, h]; decide
    · exact h.2.1
theorem first_none : firstRow ⟨#[]⟩ table = none := by kernel_rfl
theorem first_full {u : ByteArray} {op : Int} {ks : List Int} (h : firstRow u table = some (op, ks)) : 1 ≤ u.size := by
  by_cases h0 : u.size = 0
  · have e : u = ⟨#[]⟩ := by
      apply ba_list
      have : u.toList = [] := List.length_eq_zero_iff.1 (by rw [← size_list]; exact h0)
      rw [this, ByteArray.toList_eq]
    rw [e, first_none] at h
    cases h
  · omega
theorem line_good {s : ByteArray} (hb : BytesOK s s.size) {op : Int} {ks : List Int} (hr : firstRow (wordAt s 0) table = some (op, ks)) (hl : (wordsOf s).length = 1 + ks.length) (hk : OkTo s ks ks.length) : LineOK s op ks := by
  refine ⟨good_of_words fun u hu => ⟨?_, word_bytes hb hu⟩, hr, hl, hk⟩
  obtain ⟨i, hi, rfl⟩ := List.getElem_of_mem hu
  have e : (wordsOf s)[i] = wordAt s i := by simp [wordAt, List.getD_eq_getElem?_getD, List.getElem?_eq_getElem hi]
  rw [e]
  rcases i with _ | i
  · exact first_full hr
  · exact okW_full (hk i (by omega))
theorem code_cases (k : Nat) (h : k < 7) : (k = 0 ∧ codeOf k = 78) ∨ (k = 1 ∧ codeOf k = 80) ∨ (k = 2 ∧ codeOf k = 73) ∨ (k = 3 ∧ codeOf k = 68) ∨ (k = 4 ∧ codeOf k = 84) ∨ (k = 5 ∧ codeOf k = 67) ∨ (k = 6 ∧ codeOf k = 72) := by
  have : k = 0 ∨ k = 1 ∨ k = 2 ∨ k = 3 ∨ k = 4 ∨ k = 5 ∨ k = 6 := by omega
  rcases this with rfl | rfl | rfl | rfl | rfl | rfl | rfl <;> decide
end Go.Proofs.YtjiaiaclmceeeaaGreatDoor
