import Derived.Test.YthgggmkljnghmaaDoorWireDec4
import Derived.Test.YthgggmkljnghmaaDoorCrcMath
namespace Go.Proofs.YthgggmkljnghmaaDoor
set_option linter.unusedVariables false

theorem set_split {zs : List Int} {i : Nat} (h : i < zs.length) (y : Int) : zs = zs.take i ++ zs.getD i 0 :: zs.drop (i + 1) ∧ zs.set i y = zs.take i ++ y :: zs.drop (i + 1) := by
  constructor
  · rw [List.getD_eq_getElem?_getD, List.getElem?_eq_getElem h]
    simp
  · rw [List.set_eq_take_append_cons_drop, if_pos h]

/-- Bytes of a frame with one byte that is another are no frame. -/
theorem turned_bad {zs : List Int} (hv : ∀ x ∈ zs, 0 ≤ x ∧ x ≤ 255) (hg : Good zs) {i : Nat} (hi : i < zs.length) {y : Int} (y0 : 0 ≤ y) (y1 : y ≤ 255) (hne : y ≠ zs.getD i 0) : ¬ Good (zs.set i y) := by
  intro hx
  obtain ⟨l1, s1, _⟩ := hg
  obtain ⟨l2, s2, _⟩ := hx
  have hs : szOf (zs.set i y) = szOf zs := by
    rw [List.length_set] at l2
    omega
  unfold SumOk at s1 s2
  rw [hs] at s2
  obtain ⟨s, hsz⟩ : ∃ s, s = szOf zs := ⟨_, rfl⟩
  rw [← hsz] at s1 s2 l1
  have hvx : ∀ x ∈ zs.set i y, 0 ≤ x ∧ x ≤ 255 := by
    intro x hx
    rcases List.mem_or_eq_of_mem_set hx with h | rfl
    · exact hv x h
    · exact ⟨y0, y1⟩
  obtain ⟨e1, e2⟩ := set_split hi y
  by_cases hlt : i < 18 + s
  · have hf : fld (zs.set i y) (18 + s) 4 = fld zs (18 + s) 4 := by
      unfold fld
      rw [List.drop_set_of_lt hlt]
    have hc : crcOf ((zs.set i y).take (18 + s)) = crcOf (zs.take (18 + s)) := by rw [← s1, ← s2, hf]
    have ht : (zs.set i y).take (18 + s) = (zs.take (18 + s)).set i y := by rw [List.take_set]
    have hit : i < (zs.take (18 + s)).length := by simp; omega
    obtain ⟨e3, e4⟩ := set_split hit y
    rw [ht, e4] at hc
    have hc2 : crcOf (zs.take (18 + s)) = crcOf ((zs.take (18 + s)).take i ++ (zs.take (18 + s)).getD i 0 :: (zs.take (18 + s)).drop (i + 1)) := congrArg crcOf e3
    rw [hc2] at hc
    have hgd : (zs.take (18 + s)).getD i 0 = zs.getD i 0 := by
      rw [List.getD_eq_getElem?_getD, List.getD_eq_getElem?_getD, List.getElem?_take_of_lt hlt]
    rw [hgd] at hc
    have hb : 0 ≤ zs.getD i 0 ∧ zs.getD i 0 ≤ 255 := by
      rw [List.getD_eq_getElem?_getD, List.getElem?_eq_getElem hi]
      exact hv _ (List.getElem_mem hi)
    exact hne (crcOf_turned _ _ y _ (fun z hz => hv z (List.mem_of_mem_take (List.mem_of_mem_drop hz))) y0 y1 hb.1 hb.2 hc)
  · have ht : (zs.set i y).take (18 + s) = zs.take (18 + s) := by rw [List.take_set, List.set_eq_of_length_le (by simp; omega)]
    rw [ht, ← s1] at s2
    have b1 := be_fld hvx (18 + s) 4 (by rw [List.length_set]; omega)
    have b2 := be_fld hv (18 + s) 4 (by omega)
    rw [s2, b2] at b1
    have hk := congrArg (fun l => l[i - (18 + s)]?) b1
    simp only [List.getElem?_take, List.getElem?_drop] at hk
    rw [if_pos (by omega), if_pos (by omega), show 18 + s + (i - (18 + s)) = i by omega, List.getElem?_set_self hi] at hk
    apply hne
    rw [List.getD_eq_getElem?_getD, hk]
    rfl
/-- The last four bytes of a frame's bytes are its sum's. -/
theorem sum_bytes {zs : List Int} (hv : ∀ x ∈ zs, 0 ≤ x ∧ x ≤ 255) (hg : Good zs) {m : Nat} (hm : zs.length = m) : zs.getD (m - 4) 0 = crcOf (zs.take (m - 4)) / 16777216 % 256 ∧ zs.getD (m - 3) 0 = crcOf (zs.take (m - 4)) / 65536 % 256 ∧ zs.getD (m - 2) 0 = crcOf (zs.take (m - 4)) / 256 % 256 ∧ zs.getD (m - 1) 0 = crcOf (zs.take (m - 4)) % 256 := by
  obtain ⟨l1, s1, _⟩ := hg
  unfold SumOk at s1
  obtain ⟨s, hsz⟩ : ∃ s, s = szOf zs := ⟨_, rfl⟩
  rw [← hsz] at s1 l1
  have e : 18 + s = m - 4 := by omega
  rw [e] at s1
  have b := be_fld hv (m - 4) 4 (by omega)
  rw [s1] at b
  have key : ∀ i, i < 4 → zs.getD (m - 4 + i) 0 = byteOf (crcOf (zs.take (m - 4))) (3 - i) := by
    intro i hi
    have hk := congrArg (fun l => l[i]?) b
    simp only [List.getElem?_take, List.getElem?_drop, if_pos hi] at hk
    rw [List.getD_eq_getElem?_getD, ← hk]
    simp [be, hi]
  refine ⟨?_, ?_, ?_, ?_⟩
  · have := key 0 (by omega); simpa [byteOf] using this
  · have := key 1 (by omega); rw [show m - 4 + 1 = m - 3 by omega] at this; simpa [byteOf] using this
  · have := key 2 (by omega); rw [show m - 4 + 2 = m - 2 by omega] at this; simpa [byteOf] using this
  · have := key 3 (by omega); rw [show m - 4 + 3 = m - 1 by omega] at this; simpa [byteOf] using this
theorem xor8_ne {c d : Int} (c0 : 0 ≤ c) (c1 : c ≤ 255) (d0 : 1 ≤ d) (d1 : d ≤ 255) : bits .xor .u8 c d ≠ c := by
  obtain ⟨a, rfl⟩ := Int.eq_ofNat_of_zero_le c0
  obtain ⟨b, rfl⟩ := Int.eq_ofNat_of_zero_le (show 0 ≤ d by omega)
  rw [u8_xor_nat a b (by omega) (by omega)]
  intro h
  have h2 := congrArg (fun x => a ^^^ x) (Int.ofNat.inj h)
  have h3 : b = 0 := by simpa [← Nat.xor_assoc] using h2
  omega
end Go.Proofs.YthgggmkljnghmaaDoor
