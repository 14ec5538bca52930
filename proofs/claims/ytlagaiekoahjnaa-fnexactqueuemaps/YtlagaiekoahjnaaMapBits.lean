import Derived.Test.YtlagaiekoahjnaaMapAck2
namespace Go.Proofs.Ytlagaiekoahjnaa
open Go.ChangeShapes Go.WideShapes Go.ChangeAt Go.RowKit
set_option linter.unusedVariables false

theorem and_small (a b : Nat) (ha : a < 256) (hb : b < 256) : bits .and .i64 (a : Int) (b : Int) = ((a &&& b : Nat) : Int) := by
  have hx : a &&& b < 2 ^ 8 := Nat.and_lt_two_pow _ (by omega)
  show IntKind.i64.wrap ((BitVec.ofInt 64 (a : Int) &&& BitVec.ofInt 64 (b : Int)).toNat : Int) = _
  rw [BitVec.toNat_and, ofInt_u64 a (by omega), ofInt_u64 b (by omega), IntKind.wrap_i64]
  omega

def anyB (c s k : Nat) : Bool := (List.range k).any fun p => c.testBit p && s.testBit p
theorem anyB_zero (c s : Nat) : anyB c s 0 = false := rfl
theorem anyB_succ (c s k : Nat) : anyB c s (k + 1) = (anyB c s k || (c.testBit k && s.testBit k)) := by simp [anyB, List.range_succ]
theorem anyB_all {c s : Nat} (hc : c < 256) : anyB c s 8 = true ↔ ¬ c &&& s = 0 := by
  simp only [anyB, List.any_eq_true, List.mem_range, Bool.and_eq_true]
  constructor
  · rintro ⟨p, hp, h1, h2⟩ h0
    have : (c &&& s).testBit p = true := by rw [Nat.testBit_and, h1, h2]; rfl
    rw [h0] at this
    simp at this
  · intro h
    refine Classical.byContradiction fun hn => h ?_
    refine Nat.eq_of_testBit_eq fun i => ?_
    rw [Nat.testBit_and]
    simp only [Nat.zero_testBit]
    by_cases hi : i < 8
    · cases h1 : c.testBit i with
      | false => rfl
      | true =>
        cases h2 : s.testBit i with
        | false => rfl
        | true => exact absurd ⟨i, hi, h1, h2⟩ hn
    · have : c.testBit i = false := Nat.testBit_lt_two_pow (Nat.lt_of_lt_of_le hc (by
        have : (2 : Nat) ^ 8 ≤ 2 ^ i := Nat.pow_le_pow_right (by omega) (by omega)
        simpa using this))
      rw [this]
      rfl

theorem half_up (s k : Nat) : s / 2 ^ k / 2 = s / 2 ^ (k + 1) := by rw [Nat.div_div_eq_div_mul, Nat.pow_succ]

/-- A bit of a set, as the specification asks for it. -/
theorem bit_is (s p : Nat) (r : Bool) (w : World) (hs : s < 256) (hp : p ≤ 8) (hr : s.testBit p = r) :
    Calls Try.prog 45 #[.int .i64 (s : Int), .int .i64 (p : Int)] w fun e w' => e = .returned (.bool r) ∧ w' = w := by
  go_enter Try.func45, Try.ntmps45
  go_wp2
  go_loop [0, 5] (fun v i => ∃ k n : Nat, k ≤ p ∧ i = .int .i64 k ∧ v = .int .i64 n ∧ n = s / 2 ^ k ∧ n < 256) (fun _ i => p - (intOf i).toNat)
  case atStart => exact ⟨0, s, Nat.zero_le _, rfl, rfl, by simp, hs⟩
  case round =>
    obtain ⟨k, n, hk, rfl, rfl, hn, hn2⟩ := hrel
    have HN : Hid (n = s / 2 ^ k) := hn
    clear hn
    by_cases hlt : k < p
    · clear hr
      go_wp2
      go_round
      case rel => exact ⟨k + 1, n / 2, by omega, by go_num, by go_num, by rw [HN.out, half_up], by omega⟩
      case measure => simp [intOf]; omega
    · have : k = p := by omega
      subst this
      have e : decide (n % 2 = 1) = r := by rw [← hr, Nat.testBit_eq_decide_div_mod_eq, HN.out]
      clear HN hr
      go_wp2
      go_ret
      exact ⟨by rw [← e]; apply ret_bool; rw [Bool.eq_iff_iff]; simp; omega, rfl⟩

/-- A mapping that no path of the set x carries is marked. -/
def que1 (x : Nat) (m : Mp) : Mp := if m.car.toNat &&& x = 0 then ⟨m.off, m.len, m.fin, m.car, 1⟩ else m
def queued (x : Nat) (S : Mps) : Mps := S.map (que1 x)
theorem queued_length (x : Nat) (S : Mps) : (queued x S).length = S.length := by simp [queued]
theorem queued_fits {x : Nat} {S : Mps} (hf : FitsM S) : FitsM (queued x S) := by
  intro m hm
  simp only [queued, List.mem_map] at hm
  obtain ⟨n, hn, rfl⟩ := hm
  have h := hf n hn
  unfold que1
  split
  · exact ⟨h.1, h.2.1, h.2.2.1, h.2.2.2.1, by simp⟩
  · exact h
theorem queued_take {x : Nat} {S : Mps} {k : Nat} (hk : k < S.length) : queued x (S.take (k + 1)) = queued x (S.take k) ++ [que1 x S[k]] := by
  unfold queued
  rw [List.take_succ_eq_append_getElem hk, List.map_append]
  rfl
/-- What the marking loop has made of the list behind k rounds. -/
def partQ (x : Nat) (S : Mps) (k : Nat) : Mps := queued x (S.take k) ++ S.drop k
theorem partQ_zero (x : Nat) (S : Mps) : partQ x S 0 = S := by simp [partQ, queued]
theorem partQ_all (x : Nat) (S : Mps) : partQ x S S.length = queued x S := by simp [partQ]
theorem partQ_length (x : Nat) (S : Mps) {k : Nat} (h : k ≤ S.length) : (partQ x S k).length = S.length := by simp [partQ, queued_length]; omega
theorem partQ_at {x : Nat} {S : Mps} {k : Nat} (h : k < S.length) : (partQ x S k)[k]'(by rw [partQ_length x S (by omega)]; exact h) = S[k] := by
  have hl : (queued x (S.take k)).length = k := by rw [queued_length]; simp; omega
  simp only [partQ]
  rw [List.getElem_append_right (by omega)]
  simp [hl]
theorem partQ_succ {x : Nat} {S : Mps} {k : Nat} (h : k < S.length) : (partQ x S k).set k (que1 x S[k]) = partQ x S (k + 1) := by
  have hl : (queued x (S.take k)).length = k := by rw [queued_length]; simp; omega
  unfold partQ
  rw [List.set_append, if_neg (by omega), hl, Nat.sub_self, List.drop_eq_getElem_cons h, List.set_cons_zero, queued_take h, List.append_assoc]
  rfl
end Go.Proofs.Ytlagaiekoahjnaa
