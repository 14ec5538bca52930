import Derived.Test.YthgggmkljnghmaaDoorBytes
import Derived.Laws.BitsAllLaws
namespace Go.Proofs.YthgggmkljnghmaaDoor
open Go.ChangeShapes Go.WideShapes Go.ChangeAt Go.RowKit
set_option linter.unusedVariables false

/-- One bit's step, on numbers. -/
def stepBit (r : Nat) : Nat := if r % 2 = 1 then (r / 2) ^^^ 3988292384 else r / 2
theorem stepBit_lt {r : Nat} (h : r < 4294967296) : stepBit r < 4294967296 := by
  unfold stepBit
  split
  · exact Nat.xor_lt_two_pow (n := 32) (by omega) (by omega)
  · omega
theorem crcBit_nat {r : Nat} (h : r < 4294967296) : crcBit (r : Int) = (stepBit r : Nat) := by
  unfold crcBit stepBit
  have h1 : bits .and .u32 (r : Int) 1 = ((r % 2 : Nat) : Int) := by
    have := u32_and_nat r 1 h (by omega)
    rw [show ((1 : Nat) : Int) = 1 from rfl] at this
    rw [this, Nat.and_one_is_mod]
  rw [h1]
  have h2 : (r : Int) / 2 = ((r / 2 : Nat) : Int) := by omega
  by_cases e : r % 2 = 1
  · rw [if_pos (by omega), if_pos e, h2]
    have := u32_xor_nat (r / 2) 3988292384 (by omega) (by omega)
    exact this
  · rw [if_neg (by omega), if_neg e, h2]
theorem top_bit {x : Nat} (h : x < 2147483648) : 2147483648 ≤ x ^^^ 3988292384 := by
  have h1 : (x ^^^ 3988292384).testBit 31 = true := by
    rw [Nat.testBit_xor, Nat.testBit_lt_two_pow (i := 31) (by omega)]
    decide
  have h2 := Nat.ge_two_pow_of_testBit h1
  exact h2
theorem stepBit_inj {r s : Nat} (hr : r < 4294967296) (hs : s < 4294967296) (h : stepBit r = stepBit s) : r = s := by
  unfold stepBit at h
  by_cases e : r % 2 = 1
  · by_cases f : s % 2 = 1
    · rw [if_pos e, if_pos f] at h
      have h2 : r / 2 = s / 2 := by
        have := congrArg (fun x => x ^^^ 3988292384) h
        simpa [Nat.xor_assoc] using this
      omega
    · rw [if_pos e, if_neg f] at h
      have := top_bit (x := r / 2) (by omega)
      omega
  · by_cases f : s % 2 = 1
    · rw [if_neg e, if_pos f] at h
      have := top_bit (x := s / 2) (by omega)
      omega
    · rw [if_neg e, if_neg f] at h
      omega
theorem crcBit_inj {r s : Int} (r0 : 0 ≤ r) (r1 : r ≤ 4294967295) (s0 : 0 ≤ s) (s1 : s ≤ 4294967295) (h : crcBit r = crcBit s) : r = s := by
  obtain ⟨a, rfl⟩ := Int.eq_ofNat_of_zero_le r0
  obtain ⟨b, rfl⟩ := Int.eq_ofNat_of_zero_le s0
  rw [crcBit_nat (by omega), crcBit_nat (by omega)] at h
  have := stepBit_inj (by omega) (by omega) (Int.ofNat.inj h)
  omega
theorem crcBits_inj : ∀ (n : Nat) {r s : Int}, 0 ≤ r → r ≤ 4294967295 → 0 ≤ s → s ≤ 4294967295 → crcBits n r = crcBits n s → r = s := by
  intro n
  induction n with
  | zero => intro r s _ _ _ _ h; exact h
  | succ n ih =>
    intro r s r0 r1 s0 s1 h
    have hr := crcBits_fits n r r0 r1
    have hs := crcBits_fits n s s0 s1
    exact ih r0 r1 s0 s1 (crcBit_inj hr.1 hr.2 hs.1 hs.2 h)
theorem xor32_left {r s z : Int} (r0 : 0 ≤ r) (r1 : r ≤ 4294967295) (s0 : 0 ≤ s) (s1 : s ≤ 4294967295) (z0 : 0 ≤ z) (z1 : z ≤ 4294967295) (h : bits .xor .u32 r z = bits .xor .u32 s z) : r = s := by
  obtain ⟨a, rfl⟩ := Int.eq_ofNat_of_zero_le r0
  obtain ⟨b, rfl⟩ := Int.eq_ofNat_of_zero_le s0
  obtain ⟨c, rfl⟩ := Int.eq_ofNat_of_zero_le z0
  rw [u32_xor_nat a c (by omega) (by omega), u32_xor_nat b c (by omega) (by omega)] at h
  have h2 := congrArg (fun x => x ^^^ c) (Int.ofNat.inj h)
  have h3 : a = b := by simpa [Nat.xor_assoc] using h2
  rw [h3]
theorem xor32_right {r y z : Int} (r0 : 0 ≤ r) (r1 : r ≤ 4294967295) (y0 : 0 ≤ y) (y1 : y ≤ 4294967295) (z0 : 0 ≤ z) (z1 : z ≤ 4294967295) (h : bits .xor .u32 r y = bits .xor .u32 r z) : y = z := by
  obtain ⟨a, rfl⟩ := Int.eq_ofNat_of_zero_le r0
  obtain ⟨b, rfl⟩ := Int.eq_ofNat_of_zero_le y0
  obtain ⟨c, rfl⟩ := Int.eq_ofNat_of_zero_le z0
  rw [u32_xor_nat a b (by omega) (by omega), u32_xor_nat a c (by omega) (by omega)] at h
  have h2 := congrArg (fun x => a ^^^ x) (Int.ofNat.inj h)
  have h3 : b = c := by simpa [← Nat.xor_assoc] using h2
  rw [h3]
theorem crcByte_left {r s z : Int} (r0 : 0 ≤ r) (r1 : r ≤ 4294967295) (s0 : 0 ≤ s) (s1 : s ≤ 4294967295) (z0 : 0 ≤ z) (z1 : z ≤ 255) (h : crcByte r z = crcByte s z) : r = s := by
  have hr := xor32 r z
  have hs := xor32 s z
  exact xor32_left r0 r1 s0 s1 z0 (by omega) (crcBits_inj 8 hr.1 hr.2 hs.1 hs.2 h)
theorem crcByte_right {r y z : Int} (r0 : 0 ≤ r) (r1 : r ≤ 4294967295) (y0 : 0 ≤ y) (y1 : y ≤ 255) (z0 : 0 ≤ z) (z1 : z ≤ 255) (h : crcByte r y = crcByte r z) : y = z := by
  have hr := xor32 r y
  have hs := xor32 r z
  exact xor32_right r0 r1 y0 (by omega) z0 (by omega) (crcBits_inj 8 hr.1 hr.2 hs.1 hs.2 h)
theorem fold_inj : ∀ (zs : List Int) {r s : Int}, (∀ z ∈ zs, 0 ≤ z ∧ z ≤ 255) → 0 ≤ r → r ≤ 4294967295 → 0 ≤ s → s ≤ 4294967295 → zs.foldl crcByte r = zs.foldl crcByte s → r = s := by
  intro zs
  induction zs with
  | nil => intro r s _ _ _ _ _ h; exact h
  | cons z zs ih =>
    intro r s hz r0 r1 s0 s1 h
    have hr := crcByte_fits r z
    have hs := crcByte_fits s z
    have hz0 := hz z (by simp)
    exact crcByte_left r0 r1 s0 s1 hz0.1 hz0.2 (ih (fun x hx => hz x (by simp [hx])) hr.1 hr.2 hs.1 hs.2 h)
/-- One byte that is another makes another sum. -/
theorem crc_turned (xs ys : List Int) (a b : Int) (hy : ∀ z ∈ ys, 0 ≤ z ∧ z ≤ 255) (a0 : 0 ≤ a) (a1 : a ≤ 255) (b0 : 0 ≤ b) (b1 : b ≤ 255) (h : crcAll (xs ++ a :: ys) = crcAll (xs ++ b :: ys)) : a = b := by
  have hx := crcAll_fits xs
  unfold crcAll at h hx
  rw [List.foldl_append, List.foldl_append, List.foldl_cons, List.foldl_cons] at h
  have h1 := crcByte_fits (xs.foldl crcByte 4294967295) a
  have h2 := crcByte_fits (xs.foldl crcByte 4294967295) b
  exact crcByte_right hx.1 hx.2 a0 a1 b0 b1 (fold_inj ys hy h1.1 h1.2 h2.1 h2.2 h)
theorem crcOf_turned (xs ys : List Int) (a b : Int) (hy : ∀ z ∈ ys, 0 ≤ z ∧ z ≤ 255) (a0 : 0 ≤ a) (a1 : a ≤ 255) (b0 : 0 ≤ b) (b1 : b ≤ 255) (h : crcOf (xs ++ a :: ys) = crcOf (xs ++ b :: ys)) : a = b := by
  have h1 := crcAll_fits (xs ++ a :: ys)
  have h2 := crcAll_fits (xs ++ b :: ys)
  exact crc_turned xs ys a b hy a0 a1 b0 b1 (xor32_left h1.1 h1.2 h2.1 h2.2 (by omega) (by omega) h)
end Go.Proofs.YthgggmkljnghmaaDoor
