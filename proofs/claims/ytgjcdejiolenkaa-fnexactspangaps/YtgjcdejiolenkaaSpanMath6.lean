import Derived.Test.YtgjcdejiolenkaaSpanMath5
namespace Go.Proofs.Ytgjcdejiolenkaa
set_option linter.unusedVariables false

/-- Where the walk over the spans stands behind k of them. -/
def atOf (S : List (Int × Int)) (p : Int) (i k : Nat) : Int := if k = 0 then p else (S.getD (i + k - 1) (0, 0)).2

theorem atOf_zero (S : List (Int × Int)) (p : Int) (i : Nat) : atOf S p i 0 = p := rfl
theorem atOf_succ {S : List (Int × Int)} (p : Int) {i k : Nat} (h : i + k < S.length) : atOf S p i (k + 1) = (S[i + k]).2 := by
  unfold atOf
  rw [if_neg (by omega)]
  simp [show i + (k + 1) - 1 = i + k by omega, h]

/-- What the gaps' loop has gathered behind k spans. -/
structure Gapped (S : List (Int × Int)) (s : Int × Int) (i j k : Nat) (G : List (Int × Int)) : Prop where
  norm : Norm G
  low : ∀ r ∈ G, r.2 < atOf S s.1 i k ∨ (k = 0)
  none0 : k = 0 → G = []
  mem : ∀ x, In x G ↔ s.1 ≤ x ∧ x < atOf S s.1 i k ∧ ¬ In x S
  len : G.length ≤ k

theorem gapped_start (S : List (Int × Int)) (s : Int × Int) (i j : Nat) : Gapped S s i j 0 [] :=
  ⟨trivial, by simp, fun _ => rfl, fun x => by simp only [in_nil, false_iff, atOf_zero]; omega, by simp⟩

/-- Every offset from s.1 up to the k-th span's start that lies behind the earlier ones is in no span. -/
theorem free_between {S : List (Int × Int)} {s : Int × Int} {i j k : Nat} (hS : Norm S) (hi : Place S (fun p => decide (s.1 < p.2)) i) (hk : i + k < S.length) {x : Int} (h1 : s.1 ≤ x) (h2 : atOf S s.1 i k ≤ x) (h3 : x < (S[i + k]).1) : ¬ In x S := by
  intro hx
  obtain ⟨m, hm, a, b⟩ := in_iff.1 hx
  by_cases c : m < i
  · have := hi.no m hm c
    simp at this
    omega
  · by_cases c2 : m < i + k
    · have hk0 : k ≠ 0 := by omega
      obtain ⟨k', rfl⟩ : ∃ k', k = k' + 1 := ⟨k - 1, by omega⟩
      rw [atOf_succ s.1 (by omega)] at h2
      have := hS.hiUp (i := m) (j := i + k') (by omega) (by omega)
      omega
    · have := hS.loUp (i := i + k) (j := m) (by omega) hm
      omega

theorem atOf_lo {S : List (Int × Int)} {s : Int × Int} {i k : Nat} (hS : Norm S) (hi : Place S (fun p => decide (s.1 < p.2)) i) (hk : i + k ≤ S.length) : s.1 ≤ atOf S s.1 i k := by
  cases k with
  | zero => exact Int.le_refl _
  | succ k =>
    rw [atOf_succ s.1 (by omega)]
    have := hi.yes (i + k) (by omega) (by omega)
    simp at this
    omega
theorem atOf_lt {S : List (Int × Int)} {s : Int × Int} {i k : Nat} (hS : Norm S) (h0 : 0 < k) (hk : i + k < S.length) : atOf S s.1 i k < (S[i + k]).1 := by
  obtain ⟨k', rfl⟩ : ∃ k', k = k' + 1 := ⟨k - 1, by omega⟩
  rw [atOf_succ s.1 (by omega)]
  exact hS.lt (by omega) hk

/-- Within the span itself nothing new is free; behind it the walk stands at its end. -/
theorem gap_mem {S : List (Int × Int)} {s : Int × Int} {i j k : Nat} (hS : Norm S) (hi : Place S (fun p => decide (s.1 < p.2)) i) (hk : i + k < S.length) (x : Int) :
    (s.1 ≤ x ∧ x < atOf S s.1 i (k + 1) ∧ ¬ In x S) ↔ (s.1 ≤ x ∧ x < atOf S s.1 i k ∧ ¬ In x S) ∨ (atOf S s.1 i k ≤ x ∧ x < (S[i + k]).1) := by
  have e := atOf_succ (S := S) s.1 hk
  have hp := hS.at hk
  have hlo := atOf_lo (k := k) hS hi (by omega)
  rw [e]
  constructor
  · rintro ⟨h1, h2, h3⟩
    by_cases c : x < atOf S s.1 i k
    · exact .inl ⟨h1, c, h3⟩
    · refine .inr ⟨by omega, ?_⟩
      by_cases c2 : x < (S[i + k]).1
      · exact c2
      · exact absurd (in_iff.2 ⟨i + k, hk, by omega, h2⟩) h3
  · rintro (⟨h1, h2, h3⟩ | ⟨h1, h2⟩)
    · refine ⟨h1, ?_, h3⟩
      cases k with
      | zero =>
        rw [atOf_zero] at h2
        omega
      | succ k' =>
        have := atOf_lt (s := s) hS (by omega) hk
        omega
    · exact ⟨by omega, by omega, free_between (j := j) hS hi hk (by omega) h1 h2⟩

theorem gapped_yes {S : List (Int × Int)} {s : Int × Int} {i j k : Nat} {G : List (Int × Int)} (hS : Norm S) (hi : Place S (fun p => decide (s.1 < p.2)) i) (hk : i + k < S.length) (h : Gapped S s i j k G) (hlt : atOf S s.1 i k < (S[i + k]).1) :
    Gapped S s i j (k + 1) (G ++ [(atOf S s.1 i k, (S[i + k]).1)]) := by
  have e := atOf_succ (S := S) s.1 hk
  have hp := hS.at hk
  refine ⟨norm_snoc.2 ⟨h.norm, hlt, ?_⟩, ?_, by omega, ?_, by simp; exact h.len⟩
  · intro r hr
    rcases h.low r hr with h1 | h1
    · exact h1
    · rw [h.none0 h1] at hr; simp at hr
  · intro r hr
    left
    rw [e]
    rcases List.mem_append.1 hr with hr | hr
    · rcases h.low r hr with h1 | h1
      · omega
      · rw [h.none0 h1] at hr; simp at hr
    · simp at hr
      subst hr
      exact hp
  · intro x
    rw [in_append, h.mem, in_one, gap_mem (j := j) hS hi hk]

theorem gapped_no {S : List (Int × Int)} {s : Int × Int} {i j k : Nat} {G : List (Int × Int)} (hS : Norm S) (hi : Place S (fun p => decide (s.1 < p.2)) i) (hk : i + k < S.length) (h : Gapped S s i j k G) (hge : ¬ atOf S s.1 i k < (S[i + k]).1) :
    Gapped S s i j (k + 1) G := by
  have e := atOf_succ (S := S) s.1 hk
  have hp := hS.at hk
  have hk0 : k = 0 := by
    by_cases c : k = 0
    · exact c
    · have := atOf_lt (s := s) hS (show 0 < k by omega) hk
      omega
  have hG := h.none0 hk0
  subst hG
  refine ⟨trivial, by simp, by omega, ?_, by simp⟩
  intro x
  rw [gap_mem (j := j) hS hi hk, ← h.mem]
  constructor
  · exact .inl
  · rintro (h1 | h1)
    · exact h1
    · omega

/-- Behind the last span that reaches into s nothing of s is held. -/
theorem free_end {S : List (Int × Int)} {s : Int × Int} {i j : Nat} (hS : Norm S) (hi : Place S (fun p => decide (s.1 < p.2)) i) (hj : Place S (fun p => decide (s.2 ≤ p.1)) j) (hij : i ≤ j) {x : Int} (h1 : s.1 ≤ x) (h2 : atOf S s.1 i (j - i) ≤ x) (h3 : x < s.2) : ¬ In x S := by
  intro hx
  obtain ⟨m, hm, a, b⟩ := in_iff.1 hx
  by_cases c : m < i
  · have := hi.no m hm c
    simp at this
    omega
  · by_cases c2 : m < j
    · obtain ⟨k', hk'⟩ : ∃ k', j - i = k' + 1 := ⟨j - i - 1, by omega⟩
      rw [hk', atOf_succ s.1 (by have := hj.le; omega)] at h2
      have := hS.hiUp (i := m) (j := i + k') (by omega) (by have := hj.le; omega)
      omega
    · have := hj.yes m hm (by omega)
      simp at this
      omega

theorem gaps_yes {S : List (Int × Int)} {s : Int × Int} {i j : Nat} {G : List (Int × Int)} (hS : Norm S) (hi : Place S (fun p => decide (s.1 < p.2)) i) (hj : Place S (fun p => decide (s.2 ≤ p.1)) j) (hij : i ≤ j) (h : Gapped S s i j (j - i) G) (hlt : atOf S s.1 i (j - i) < s.2) :
    built f3 S s = G ++ [(atOf S s.1 i (j - i), s.2)] := by
  have hlo := atOf_lo (k := j - i) hS hi (by have := hj.le; omega)
  refine built_is rfl (norm_snoc.2 ⟨h.norm, hlt, ?_⟩) ?_
  · intro r hr
    rcases h.low r hr with h1 | h1
    · exact h1
    · rw [h.none0 h1] at hr; simp at hr
  · intro x
    rw [in_append, h.mem, in_one]
    simp only [f3, Bool.and_eq_true, Bool.not_eq_true', ← Bool.not_eq_true, inB_iff, in_one]
    constructor
    · rintro (⟨h1, h2, h3⟩ | ⟨h1, h2⟩)
      · exact ⟨⟨h1, by omega⟩, h3⟩
      · exact ⟨⟨by omega, h2⟩, free_end hS hi hj hij (by omega) h1 h2⟩
    · rintro ⟨⟨h1, h2⟩, h3⟩
      by_cases c : x < atOf S s.1 i (j - i)
      · exact .inl ⟨h1, c, h3⟩
      · exact .inr ⟨by omega, h2⟩

theorem gaps_no {S : List (Int × Int)} {s : Int × Int} {i j : Nat} {G : List (Int × Int)} (hS : Norm S) (hi : Place S (fun p => decide (s.1 < p.2)) i) (hj : Place S (fun p => decide (s.2 ≤ p.1)) j) (hij : i ≤ j) (hs : s.1 ≤ s.2) (h : Gapped S s i j (j - i) G) (hge : ¬ atOf S s.1 i (j - i) < s.2) :
    built f3 S s = G := by
  refine built_is rfl h.norm fun x => ?_
  rw [h.mem]
  simp only [f3, Bool.and_eq_true, Bool.not_eq_true', ← Bool.not_eq_true, inB_iff, in_one]
  constructor
  · rintro ⟨h1, h2, h3⟩
    refine ⟨⟨h1, ?_⟩, h3⟩
    by_cases c : x < s.2
    · exact c
    · exfalso
      cases hk : j - i with
      | zero => rw [hk, atOf_zero] at h2; omega
      | succ k =>
        have hl : i + k < S.length := by have := hj.le; omega
        rw [hk, atOf_succ s.1 hl] at h2
        have := hj.no (i + k) hl (by omega)
        simp at this
        exact h3 (in_iff.2 ⟨i + k, hl, by omega, h2⟩)
  · rintro ⟨⟨h1, h2⟩, h3⟩
    exact ⟨h1, by omega, h3⟩
end Go.Proofs.Ytgjcdejiolenkaa
