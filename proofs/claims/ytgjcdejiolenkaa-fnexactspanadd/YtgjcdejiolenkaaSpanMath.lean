import Derived.Below
namespace Go.Proofs.Ytgjcdejiolenkaa
set_option linter.unusedVariables false

/-- A span set without a bound on its length: spans that are not empty, rising, a gap between any two. -/
def Norm : List (Int × Int) → Prop
  | [] => True
  | p :: r => p.1 < p.2 ∧ (∀ q ∈ r, p.2 < q.1) ∧ Norm r

def In (x : Int) (S : List (Int × Int)) : Prop := ∃ p ∈ S, p.1 ≤ x ∧ x < p.2

theorem in_nil (x : Int) : ¬ In x [] := by simp [In]
theorem in_cons (x : Int) (p : Int × Int) (r : List (Int × Int)) : In x (p :: r) ↔ (p.1 ≤ x ∧ x < p.2) ∨ In x r := by simp [In]
theorem in_append (x : Int) (A B : List (Int × Int)) : In x (A ++ B) ↔ In x A ∨ In x B := by simp [In, or_and_right, exists_or]
theorem in_one (x : Int) (p : Int × Int) : In x [p] ↔ p.1 ≤ x ∧ x < p.2 := by simp [In]

theorem Norm.tail {p : Int × Int} {r : List (Int × Int)} (h : Norm (p :: r)) : Norm r := h.2.2
theorem Norm.head {p : Int × Int} {r : List (Int × Int)} (h : Norm (p :: r)) : p.1 < p.2 := h.1
theorem Norm.each {S : List (Int × Int)} (h : Norm S) : ∀ p ∈ S, p.1 < p.2 := by
  induction S with
  | nil => simp
  | cons p r ih =>
    intro q hq
    rcases List.mem_cons.1 hq with rfl | hq
    · exact h.1
    · exact ih h.tail q hq

/-- Behind the head everything lies beyond its end. -/
theorem Norm.beyond {p : Int × Int} {r : List (Int × Int)} (h : Norm (p :: r)) {x : Int} (hx : In x r) : p.2 < x := by
  obtain ⟨q, hq, h1, h2⟩ := hx
  have := h.2.1 q hq
  omega

theorem norm_unique : ∀ {S T : List (Int × Int)}, Norm S → Norm T → (∀ x, In x S ↔ In x T) → S = T
  | [], [], _, _, _ => rfl
  | [], q :: t, _, hT, h => by
    have := (h q.1).2 ((in_cons _ _ _).2 (.inl ⟨Int.le_refl _, hT.1⟩))
    exact absurd this (in_nil _)
  | p :: r, [], hS, _, h => by
    have := (h p.1).1 ((in_cons _ _ _).2 (.inl ⟨Int.le_refl _, hS.1⟩))
    exact absurd this (in_nil _)
  | p :: r, q :: t, hS, hT, h => by
    have lowS : ∀ x, In x (p :: r) → p.1 ≤ x := by
      intro x hx
      rcases (in_cons _ _ _).1 hx with hx | hx
      · exact hx.1
      · have := hS.beyond hx; have := hS.1; omega
    have lowT : ∀ x, In x (q :: t) → q.1 ≤ x := by
      intro x hx
      rcases (in_cons _ _ _).1 hx with hx | hx
      · exact hx.1
      · have := hT.beyond hx; have := hT.1; omega
    have a : q.1 ≤ p.1 := lowT _ ((h p.1).1 ((in_cons _ _ _).2 (.inl ⟨Int.le_refl _, hS.1⟩)))
    have b : p.1 ≤ q.1 := lowS _ ((h q.1).2 ((in_cons _ _ _).2 (.inl ⟨Int.le_refl _, hT.1⟩)))
    have e1 : p.1 = q.1 := Int.le_antisymm b a
    have c : ¬ p.2 < q.2 := by
      intro hlt
      have h1 := (h p.2).2 ((in_cons _ _ _).2 (.inl ⟨by have := hS.1; omega, hlt⟩))
      rcases (in_cons _ _ _).1 h1 with hx | hx
      · omega
      · have := hS.beyond hx; omega
    have d : ¬ q.2 < p.2 := by
      intro hlt
      have h1 := (h q.2).1 ((in_cons _ _ _).2 (.inl ⟨by have := hT.1; omega, hlt⟩))
      rcases (in_cons _ _ _).1 h1 with hx | hx
      · omega
      · have := hT.beyond hx; omega
    have e2 : p.2 = q.2 := by omega
    have epq : p = q := Prod.ext e1 e2
    subst epq
    have hr : ∀ x, In x r ↔ In x t := by
      intro x
      constructor
      · intro hx
        have := hS.beyond hx
        rcases (in_cons _ _ _).1 ((h x).1 ((in_cons _ _ _).2 (.inr hx))) with hy | hy
        · omega
        · exact hy
      · intro hx
        have := hT.beyond hx
        rcases (in_cons _ _ _).1 ((h x).2 ((in_cons _ _ _).2 (.inr hx))) with hy | hy
        · omega
        · exact hy
    rw [norm_unique hS.tail hT.tail hr]

/-- One span more at the end. -/
theorem norm_snoc {A : List (Int × Int)} {p : Int × Int} : Norm (A ++ [p]) ↔ Norm A ∧ p.1 < p.2 ∧ ∀ q ∈ A, q.2 < p.1 := by
  induction A with
  | nil => simp [Norm]
  | cons a r ih =>
    simp only [List.cons_append, Norm, ih, List.mem_append, List.mem_cons, List.not_mem_nil, or_false]
    constructor
    · rintro ⟨h1, h2, h3, h4, h5⟩
      refine ⟨⟨h1, fun q hq => h2 q (.inl hq), h3⟩, h4, ?_⟩
      rintro q (rfl | hq)
      · exact h2 p (.inr rfl)
      · exact h5 q hq
    · rintro ⟨⟨h1, h2, h3⟩, h4, h5⟩
      refine ⟨h1, ?_, h3, h4, fun q hq => h5 q (.inr hq)⟩
      rintro q (hq | rfl)
      · exact h2 q hq
      · exact h5 a (.inl rfl)

theorem norm_append {A B : List (Int × Int)} : Norm (A ++ B) ↔ Norm A ∧ Norm B ∧ ∀ p ∈ A, ∀ q ∈ B, p.2 < q.1 := by
  induction A with
  | nil => simp [Norm]
  | cons a r ih =>
    simp only [List.cons_append, Norm, ih, List.mem_append, List.mem_cons]
    constructor
    · rintro ⟨h1, h2, h3, h4, h5⟩
      refine ⟨⟨h1, fun q hq => h2 q (.inl hq), h3⟩, h4, ?_⟩
      rintro q (rfl | hq) s hs
      · exact h2 s (.inr hs)
      · exact h5 q hq s hs
    · rintro ⟨⟨h1, h2, h3⟩, h4, h5⟩
      refine ⟨h1, ?_, h3, h4, fun q hq => h5 q (.inr hq)⟩
      rintro q (hq | hq)
      · exact h2 q hq
      · exact h5 a (.inl rfl) q hq

/-- The set's test, span by span. -/
theorem norm_step {S : List (Int × Int)} {k : Nat} (hk : k < S.length) : Norm (S.take (k + 1)) ↔ Norm (S.take k) ∧ (S[k]).1 < (S[k]).2 ∧ (0 < k → (S[k - 1]'(by omega)).2 < (S[k]).1) := by
  rw [List.take_succ_eq_append_getElem hk, norm_snoc]
  constructor
  · rintro ⟨h1, h2, h3⟩
    refine ⟨h1, h2, fun h0 => h3 _ ?_⟩
    rw [List.mem_iff_getElem]
    exact ⟨k - 1, by simp; omega, by simp⟩
  · rintro ⟨h1, h2, h3⟩
    refine ⟨h1, h2, ?_⟩
    intro q hq
    obtain ⟨i, hi, rfl⟩ := List.mem_iff_getElem.1 hq
    simp only [List.length_take] at hi
    simp only [List.getElem_take]
    by_cases e : i = k - 1
    · subst e
      exact h3 (by omega)
    · -- an earlier one: below the one ahead of k
      have hk1 : k - 1 < (S.take k).length := by simp; omega
      have e2 : S.take k = S.take (k - 1) ++ [S[k - 1]'(by omega)] := by
        have := List.take_succ_eq_append_getElem (l := S) (i := k - 1) (by omega)
        rwa [show k - 1 + 1 = k by omega] at this
      rw [e2] at h1
      have h4 := (norm_snoc.1 h1).2.2 (S[i]'(by omega)) (by rw [List.mem_iff_getElem]; exact ⟨i, by simp; omega, by simp⟩)
      have h5 := (norm_snoc.1 h1).2.1
      have h6 := h3 (by omega)
      omega

/-- Earlier spans lie ahead of later ones. -/
theorem Norm.lt {S : List (Int × Int)} (h : Norm S) {i j : Nat} (hij : i < j) (hj : j < S.length) : (S[i]'(by omega)).2 < (S[j]).1 := by
  induction S generalizing i j with
  | nil => simp at hj
  | cons p r ih =>
    cases j with
    | zero => omega
    | succ j =>
      cases i with
      | zero => exact h.2.1 _ (by simp)
      | succ i => exact ih h.tail (by omega) (by simpa using hj)

theorem Norm.at {S : List (Int × Int)} (h : Norm S) {i : Nat} (hi : i < S.length) : (S[i]).1 < (S[i]).2 := h.each _ (List.getElem_mem hi)

theorem Norm.take {S : List (Int × Int)} (h : Norm S) (k : Nat) : Norm (S.take k) := by
  rw [← List.take_append_drop k S] at h
  exact (norm_append.1 h).1
theorem Norm.drop {S : List (Int × Int)} (h : Norm S) (k : Nat) : Norm (S.drop k) := by
  rw [← List.take_append_drop k S] at h
  exact (norm_append.1 h).2.1

theorem in_iff {S : List (Int × Int)} {x : Int} : In x S ↔ ∃ i, ∃ h : i < S.length, (S[i]).1 ≤ x ∧ x < (S[i]).2 := by
  unfold In
  constructor
  · rintro ⟨p, hp, h1, h2⟩
    obtain ⟨i, hi, rfl⟩ := List.mem_iff_getElem.1 hp
    exact ⟨i, hi, h1, h2⟩
  · rintro ⟨i, hi, h1, h2⟩
    exact ⟨_, List.getElem_mem hi, h1, h2⟩
end Go.Proofs.Ytgjcdejiolenkaa
