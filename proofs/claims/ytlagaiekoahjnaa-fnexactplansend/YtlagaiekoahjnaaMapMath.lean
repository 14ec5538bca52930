import Derived.Test.YtlagaiekoahjnaaMapBase
namespace Go.Proofs.Ytlagaiekoahjnaa
open Go.ChangeShapes Go.WideShapes Go.ChangeAt Go.RowKit
set_option linter.unusedVariables false

def good (m : Mp) : Prop := m.off ≤ 4611686018427387904 ∧ 1 ≤ m.car ∧ m.car ≤ 255 ∧ 0 ≤ m.que ∧ m.que ≤ 1
def data (m : Mp) : Prop := m.fin = 0 ∧ 1 ≤ m.len ∧ m.len ≤ 32
def fine (m : Mp) : Prop := m.fin = 1 ∧ m.len = 0

/-- What each says of the mapping m at place k of n behind p. -/
def stepS (n k : Nat) (p m : Mp) : Prop := good m ∧ (data m ∨ (fine m ∧ k + 1 = n)) ∧ (0 < k → p.off + p.len ≤ m.off)
def stepI (k : Nat) (p m : Mp) : Prop := good m ∧ (data m ∨ fine m) ∧ (0 < k → p.fin ≠ 1 ∧ p.off + p.len + p.fin ≤ m.off)
def OkS (S : Mps) (k : Nat) : Prop := ∀ i, ∀ h : i < S.length, i < k → stepS S.length i (S[i - 1]'(by omega)) S[i]
def OkI (S : Mps) (k : Nat) : Prop := ∀ i, ∀ h : i < S.length, i < k → stepI i (S[i - 1]'(by omega)) S[i]
def Valid (S : Mps) : Prop := OkS S S.length

theorem OkS.data {S : Mps} {k : Nat} (h : OkS S k) {i : Nat} (hi : i < k) (hl : i + 1 < S.length) : data (S[i]'(by omega)) := by
  rcases (h i (by omega) hi).2.1 with h | h
  · exact h
  · omega

theorem okI_of_S {S : Mps} (h : OkS S S.length) : OkI S S.length := by
  intro i hi _
  obtain ⟨h1, h2, h3⟩ := h i hi hi
  refine ⟨h1, ?_, fun h0 => ?_⟩
  · rcases h2 with h2 | h2
    · exact .inl h2
    · exact .inr h2.1
  · have hd := h.data (i := i - 1) (by omega) (by omega)
    have := h3 h0
    obtain ⟨d1, d2, d3⟩ := hd
    omega

theorem okS_of_I {S : Mps} (h : OkI S S.length) : OkS S S.length := by
  intro i hi _
  obtain ⟨h1, h2, h3⟩ := h i hi hi
  refine ⟨h1, ?_, fun h0 => ?_⟩
  · rcases h2 with h2 | h2
    · exact .inl h2
    · refine .inr ⟨h2, ?_⟩
      by_cases hn : i + 1 < S.length
      · have := ((h (i + 1) hn hn).2.2 (by omega)).1
        simp only [Nat.add_sub_cancel] at this
        exact absurd h2.1 this
      · omega
  · have h4 := h3 h0
    have h5 := (h (i - 1) (by omega) (by omega)).2.1
    rcases h5 with h5 | h5
    · have := h5.1; omega
    · have := h5.1; omega
theorem valid_iff {S : Mps} : OkI S S.length ↔ Valid S := ⟨okS_of_I, okI_of_S⟩

theorem OkS.start (S : Mps) : OkS S 0 := fun i _ h => by omega
theorem OkI.start (S : Mps) : OkI S 0 := fun i _ h => by omega
theorem OkS.next {S : Mps} {k : Nat} (h : OkS S k) (hk : k < S.length) (hs : stepS S.length k (S[k - 1]'(by omega)) S[k]) : OkS S (k + 1) := by
  intro i hi hlt
  by_cases e : i = k
  · subst e; exact hs
  · exact h i hi (by omega)
theorem OkI.next {S : Mps} {k : Nat} (h : OkI S k) (hk : k < S.length) (hs : stepI k (S[k - 1]'(by omega)) S[k]) : OkI S (k + 1) := by
  intro i hi hlt
  by_cases e : i = k
  · subst e; exact hs
  · exact h i hi (by omega)
theorem not_validS {S : Mps} {k : Nat} (hk : k < S.length) (hs : ¬ stepS S.length k (S[k - 1]'(by omega)) S[k]) : ¬ Valid S := fun h => hs (h k hk hk)
theorem not_validI {S : Mps} {k : Nat} (hk : k < S.length) (hs : ¬ stepI k (S[k - 1]'(by omega)) S[k]) : ¬ Valid S := fun h => hs (valid_iff.2 h k hk hk)
theorem OkS.all {S : Mps} {k : Nat} (h : OkS S k) (hk : ¬ k < S.length) : Valid S := fun i hi _ => h i hi (by omega)
theorem OkI.all {S : Mps} {k : Nat} (h : OkI S k) (hk : ¬ k < S.length) : Valid S := valid_iff.1 fun i hi _ => h i hi (by omega)
end Go.Proofs.Ytlagaiekoahjnaa
