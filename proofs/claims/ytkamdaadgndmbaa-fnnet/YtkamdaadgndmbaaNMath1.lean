import Derived.Test.YtkamdaadgndmbaaNModel
namespace Go.Proofs.Ytkamdaadgndmbaa
set_option linter.unusedVariables false

/-! ### What the law FnNet asks of an event -/
/-- May the event not be refused? -/
def mustN (n : Int) (s : NS) (e : NEv) : Bool :=
  if e.kd < 1 ∨ 6 < e.kd ∨ e.pa < 0 ∨ n ≤ e.pa then false
  else if 5 ≤ e.kd then true
  else if e.di ≠ 0 ∧ e.di ≠ 1 then false
  else if e.kd = 1 then decide (e.dat.length ≤ 64 ∧ s.cut e.pa = 0 ∧ (s.bag e.pa e.di).length < 64)
  else decide (0 ≤ e.ix ∧ e.ix < ((s.bag e.pa e.di).length : Int) ∧ (e.kd ≠ 4 ∨ (s.bag e.pa e.di).length < 64))
/-- Nothing is refused that may pass. -/
theorem must_no {n : Int} {s : NS} (h : InvN s) (e : NEv) (hc : (stepN n s e).1.code ≠ 0) : mustN n s e = false := by
  have hcut := h.cut e.pa
  unfold mustN
  split
  · rfl
  rename_i h1
  unfold stepN at hc
  rw [if_neg (by omega), if_neg (by omega)] at hc
  by_cases h5 : e.kd = 5
  · rw [if_pos h5] at hc; exact absurd rfl hc
  rw [if_neg h5] at hc
  by_cases h6 : e.kd = 6
  · rw [if_pos h6] at hc; exact absurd rfl hc
  rw [if_neg h6] at hc
  rw [if_neg (by omega)]
  split
  · rfl
  rename_i h2
  rw [if_neg h2] at hc
  split
  · rename_i h3
    rw [if_pos h3] at hc
    unfold sendN at hc
    rw [decide_eq_false_iff_not]
    rintro ⟨a, b, c⟩
    rw [if_neg (by omega), if_neg (by omega), if_neg (by omega)] at hc
    exact hc rfl
  · rename_i h3
    rw [if_neg h3] at hc
    unfold handleN at hc
    rw [decide_eq_false_iff_not]
    rintro ⟨a, b, c⟩
    rw [if_neg (by omega)] at hc
    by_cases k2 : e.kd = 2
    · rw [if_pos k2] at hc; exact hc rfl
    rw [if_neg k2] at hc
    by_cases k3 : e.kd = 3
    · rw [if_pos k3] at hc; exact hc rfl
    rw [if_neg k3, if_neg (by omega)] at hc
    exact hc rfl
/-- What an event keeps to that was not refused. -/
structure PassN (n : Int) (s : NS) (e : NEv) : Prop where
  pa : 0 ≤ e.pa ∧ e.pa < n
  kd : 1 ≤ e.kd ∧ e.kd ≤ 6
  di : e.kd ≤ 4 → e.di = 0 ∨ e.di = 1
  send : e.kd = 1 → s.cut e.pa ≠ 1
  ix : 2 ≤ e.kd → e.kd ≤ 4 → 0 ≤ e.ix ∧ e.ix < ((s.bag e.pa e.di).length : Int)
theorem pass_yes {n : Int} {s : NS} (e : NEv) (hc : (stepN n s e).1.code = 0) : PassN n s e := by
  unfold stepN at hc
  split at hc
  · simp at hc
  rename_i h1
  split at hc
  · simp at hc
  rename_i h2
  split at hc
  · exact ⟨by omega, by omega, by omega, by omega, by omega⟩
  split at hc
  · exact ⟨by omega, by omega, by omega, by omega, by omega⟩
  split at hc
  · simp at hc
  rename_i h5 h6 h7
  split at hc
  · rename_i k1
    unfold sendN at hc
    split at hc
    · simp at hc
    split at hc
    · simp at hc
    rename_i h8
    exact ⟨by omega, by omega, by omega, fun _ => h8, by omega⟩
  · rename_i k1
    unfold handleN at hc
    split at hc
    · simp at hc
    rename_i h8
    exact ⟨by omega, by omega, by omega, by omega, by omega⟩
end Go.Proofs.Ytkamdaadgndmbaa
