import Derived.Test.YtgjcdejiolenkaaSpanMath3
namespace Go.Proofs.Ytgjcdejiolenkaa
set_option linter.unusedVariables false

theorem in_take {S : List (Int × Int)} {k : Nat} {x : Int} : In x (S.take k) ↔ ∃ i, ∃ h : i < S.length, i < k ∧ (S[i]).1 ≤ x ∧ x < (S[i]).2 := by
  rw [in_iff]
  constructor
  · rintro ⟨i, hi, h⟩
    simp only [List.length_take] at hi
    simp only [List.getElem_take] at h
    exact ⟨i, by omega, by omega, h⟩
  · rintro ⟨i, hi, hk, h⟩
    exact ⟨i, by simp; omega, by simpa using h⟩
theorem in_drop {S : List (Int × Int)} {k : Nat} {x : Int} : In x (S.drop k) ↔ ∃ i, ∃ h : i < S.length, k ≤ i ∧ (S[i]).1 ≤ x ∧ x < (S[i]).2 := by
  rw [in_iff]
  constructor
  · rintro ⟨i, hi, h⟩
    simp only [List.length_drop] at hi
    simp only [List.getElem_drop] at h
    exact ⟨k + i, by omega, by omega, h⟩
  · rintro ⟨i, hi, hk, h⟩
    refine ⟨i - k, by simp; omega, ?_⟩
    simp only [List.getElem_drop]
    have e : k + (i - k) = i := by omega
    simpa [e] using h
theorem mem_take_at {S : List (Int × Int)} {k : Nat} {p : Int × Int} (h : p ∈ S.take k) : ∃ i, ∃ h : i < S.length, i < k ∧ S[i] = p := by
  obtain ⟨i, hi, rfl⟩ := List.mem_iff_getElem.1 h
  simp only [List.length_take] at hi
  exact ⟨i, by omega, by omega, by simp⟩
theorem mem_drop_at {S : List (Int × Int)} {k : Nat} {p : Int × Int} (h : p ∈ S.drop k) : ∃ i, ∃ h : i < S.length, k ≤ i ∧ S[i] = p := by
  obtain ⟨i, hi, rfl⟩ := List.mem_iff_getElem.1 h
  simp only [List.length_drop] at hi
  exact ⟨k + i, by omega, by omega, by simp⟩

/-- The first place that passes, where behind a place that passes all do. -/
structure Place (S : List (Int × Int)) (pass : Int × Int → Bool) (k : Nat) : Prop where
  le : k ≤ S.length
  no : ∀ i, ∀ h : i < S.length, i < k → pass S[i] = false
  yes : ∀ i, ∀ h : i < S.length, k ≤ i → pass S[i] = true

theorem Norm.hiUp {S : List (Int × Int)} (h : Norm S) {i j : Nat} (hij : i ≤ j) (hj : j < S.length) : (S[i]'(by omega)).2 ≤ (S[j]).2 := by
  by_cases e : i = j
  · subst e; exact Int.le_refl _
  · have := h.lt (i := i) (j := j) (by omega) hj
    have := h.at hj
    omega
theorem Norm.loUp {S : List (Int × Int)} (h : Norm S) {i j : Nat} (hij : i ≤ j) (hj : j < S.length) : (S[i]'(by omega)).1 ≤ (S[j]).1 := by
  by_cases e : i = j
  · subst e; exact Int.le_refl _
  · have := h.lt (i := i) (j := j) (by omega) hj
    have := h.at (i := i) (by omega)
    omega

/-- The sum of a set and a span. -/
theorem add_is {S : List (Int × Int)} {s : Int × Int} {a b : Nat} (hS : Norm S) (hs : s.1 < s.2) (ha : Place S (fun p => decide (s.1 ≤ p.2)) a) (hb : Place S (fun p => decide (s.2 < p.1)) b) :
    a ≤ b ∧ (∀ J : Int × Int, ((a = b ∧ J = s) ∨ (∃ h : a < b, ∃ h2 : b - 1 < S.length, J = (min s.1 (S[a]'(by omega)).1, max s.2 (S[b - 1]).2))) → Norm (S.take a ++ [J] ++ S.drop b) ∧ ∀ x, In x (S.take a ++ [J] ++ S.drop b) ↔ f1 (inB x S) (inB x [s]) = true) := by
  have hab : a ≤ b := by
    by_cases h : b < S.length
    · by_cases h' : a ≤ b
      · exact h'
      · have h1 := ha.no b h (by omega)
        have h2 := hb.yes b h (Nat.le_refl _)
        simp at h1 h2
        have := hS.at h
        omega
    · have := ha.le; omega
  refine ⟨hab, fun J hJ => ?_⟩
  have bl := hb.le
  -- what lies ahead, what lies behind
  have pre : ∀ i, ∀ h : i < S.length, i < a → (S[i]).2 < J.1 := by
    intro i h hi
    have h1 := ha.no i h hi
    simp at h1
    rcases hJ with ⟨_, rfl⟩ | ⟨h2, h3, rfl⟩
    · exact h1
    · have := hS.lt (i := i) (j := a) hi (by omega)
      show _ < min s.1 _
      omega
  have post : ∀ i, ∀ h : i < S.length, b ≤ i → J.2 < (S[i]).1 := by
    intro i h hi
    have h1 := hb.yes i h hi
    simp at h1
    rcases hJ with ⟨_, rfl⟩ | ⟨h2, h3, rfl⟩
    · exact h1
    · have := hS.lt (i := b - 1) (j := i) (by omega) h
      show max s.2 _ < _
      omega
  have hJ12 : J.1 < J.2 := by
    rcases hJ with ⟨_, rfl⟩ | ⟨h2, h3, rfl⟩
    · exact hs
    · show min s.1 _ < max s.2 _
      omega
  have mid : ∀ x, (J.1 ≤ x ∧ x < J.2) ↔ (s.1 ≤ x ∧ x < s.2) ∨ ∃ i, ∃ h : i < S.length, a ≤ i ∧ i < b ∧ (S[i]).1 ≤ x ∧ x < (S[i]).2 := by
    intro x
    rcases hJ with ⟨e, rfl⟩ | ⟨h2, h3, rfl⟩
    · constructor
      · exact .inl
      · rintro (h | ⟨i, _, u, v, _⟩)
        · exact h
        · omega
    · have qa := ha.yes a (by omega) (Nat.le_refl _)
      have qb := hb.no (b - 1) h3 (by omega)
      simp at qa qb
      constructor
      · rintro ⟨u, v⟩
        have u' : min s.1 (S[a]'(by omega)).1 ≤ x := u
        have v' : x < max s.2 (S[b - 1]).2 := v
        by_cases c1 : x < s.1
        · exact .inr ⟨a, by omega, Nat.le_refl _, h2, by omega, by omega⟩
        · by_cases c2 : s.2 ≤ x
          · exact .inr ⟨b - 1, h3, by omega, by omega, by omega, by omega⟩
          · exact .inl ⟨by omega, by omega⟩
      · rintro (⟨u, v⟩ | ⟨i, hi, u, v, y, z⟩)
        · show min s.1 _ ≤ x ∧ x < max s.2 _
          omega
        · have g1 := hS.loUp u hi
          have g2 := hS.hiUp (i := i) (j := b - 1) (by omega) h3
          show min s.1 _ ≤ x ∧ x < max s.2 _
          omega
  constructor
  · rw [norm_append]
    refine ⟨norm_snoc.2 ⟨hS.take a, hJ12, ?_⟩, hS.drop b, ?_⟩
    · intro q hq
      obtain ⟨i, hi, h1, rfl⟩ := mem_take_at hq
      exact pre i hi h1
    · intro p hp q hq
      obtain ⟨j, hj, h2, rfl⟩ := mem_drop_at hq
      rcases List.mem_append.1 hp with hp | hp
      · obtain ⟨i, hi, h1, rfl⟩ := mem_take_at hp
        exact hS.lt (by omega) hj
      · simp at hp; subst hp
        exact post j hj h2
  · intro x
    rw [in_append, in_append, in_one, in_take, in_drop, mid]
    simp only [f1, Bool.or_eq_true, inB_iff, in_one, in_iff (S := S)]
    constructor
    · rintro ((⟨i, hi, _, h⟩ | h | ⟨i, hi, _, _, h⟩) | ⟨i, hi, _, h⟩)
      · exact .inl ⟨i, hi, h⟩
      · exact .inr h
      · exact .inl ⟨i, hi, h⟩
      · exact .inl ⟨i, hi, h⟩
    · rintro (⟨i, hi, h⟩ | h)
      · by_cases c1 : i < a
        · exact .inl (.inl ⟨i, hi, c1, h⟩)
        · by_cases c2 : i < b
          · exact .inl (.inr (.inr ⟨i, hi, by omega, c2, h⟩))
          · exact .inr ⟨i, hi, by omega, h⟩
      · exact .inl (.inr (.inl h))

/-- The spans that reach into s. -/
theorem overlap_le {S : List (Int × Int)} {s : Int × Int} {a b : Nat} (hS : Norm S) (hs : s.1 ≤ s.2) (ha : Place S (fun p => decide (s.1 < p.2)) a) (hb : Place S (fun p => decide (s.2 ≤ p.1)) b) : a ≤ b := by
  by_cases h : b < S.length
  · by_cases h' : a ≤ b
    · exact h'
    · have h1 := ha.no b h (by omega)
      have h2 := hb.yes b h (Nat.le_refl _)
      simp at h1 h2
      have := hS.at h
      omega
  · have := ha.le; omega

/-- Nothing is cut out: an empty span, or none that reaches into it. -/
theorem cut_none {S : List (Int × Int)} {s : Int × Int} {a b : Nat} (hS : Norm S) (hs : s.1 ≤ s.2) (ha : Place S (fun p => decide (s.1 < p.2)) a) (hb : Place S (fun p => decide (s.2 ≤ p.1)) b) (h : s.1 = s.2 ∨ a = b) : ∀ x, In x S ↔ f2 (inB x S) (inB x [s]) = true := by
  intro x
  simp only [f2, Bool.and_eq_true, Bool.not_eq_true', ← Bool.not_eq_true, inB_iff, in_one]
  constructor
  · intro hx
    refine ⟨hx, ?_⟩
    rcases h with h | h
    · omega
    · obtain ⟨i, hi, u, v⟩ := in_iff.1 hx
      by_cases c : i < a
      · have := ha.no i hi c; simp at this; omega
      · have := hb.yes i hi (by omega); simp at this; omega
  · exact fun h => h.1

theorem cut_is {S : List (Int × Int)} {s : Int × Int} {a b : Nat} (hS : Norm S) (hs : s.1 < s.2) (ha : Place S (fun p => decide (s.1 < p.2)) a) (hb : Place S (fun p => decide (s.2 ≤ p.1)) b) (hab : a < b) (hbl : b - 1 < S.length)
    (L R : List (Int × Int)) (hL : L = if (S[a]'(by omega)).1 < s.1 then [((S[a]'(by omega)).1, s.1)] else []) (hR : R = if s.2 < (S[b - 1]).2 then [(s.2, (S[b - 1]).2)] else []) :
    Norm (S.take a ++ L ++ R ++ S.drop b) ∧ ∀ x, In x (S.take a ++ L ++ R ++ S.drop b) ↔ f2 (inB x S) (inB x [s]) = true := by
  have qa := ha.yes a (by omega) (Nat.le_refl _)
  have qb := hb.no (b - 1) hbl (by omega)
  simp at qa qb
  have mL : ∀ p ∈ L, p = ((S[a]'(by omega)).1, s.1) ∧ (S[a]'(by omega)).1 < s.1 := by
    intro p hp
    rw [hL] at hp
    split at hp
    · simp at hp; exact ⟨hp, ‹_›⟩
    · simp at hp
  have mR : ∀ p ∈ R, p = (s.2, (S[b - 1]).2) ∧ s.2 < (S[b - 1]).2 := by
    intro p hp
    rw [hR] at hp
    split at hp
    · simp at hp; exact ⟨hp, ‹_›⟩
    · simp at hp
  have nL : Norm L := by
    rw [hL]; split
    · simp [Norm]; assumption
    · trivial
  have nR : Norm R := by
    rw [hR]; split
    · simp [Norm]; assumption
    · trivial
  constructor
  · rw [norm_append, norm_append, norm_append]
    refine ⟨⟨⟨hS.take a, nL, ?_⟩, nR, ?_⟩, hS.drop b, ?_⟩
    · intro p hp q hq
      obtain ⟨i, hi, h1, rfl⟩ := mem_take_at hp
      obtain ⟨rfl, _⟩ := mL q hq
      exact hS.lt h1 (by omega)
    · intro p hp q hq
      obtain ⟨rfl, _⟩ := mR q hq
      rcases List.mem_append.1 hp with hp | hp
      · obtain ⟨i, hi, h1, rfl⟩ := mem_take_at hp
        have := ha.no i hi h1
        simp at this
        show _ < s.2
        omega
      · obtain ⟨rfl, _⟩ := mL p hp
        exact hs
    · intro p hp q hq
      obtain ⟨j, hj, h2, rfl⟩ := mem_drop_at hq
      have h3 := hS.lt (i := b - 1) (j := j) (by omega) hj
      rcases List.mem_append.1 hp with hp | hp
      · rcases List.mem_append.1 hp with hp | hp
        · obtain ⟨i, hi, h1, rfl⟩ := mem_take_at hp
          exact hS.lt (by omega) hj
        · obtain ⟨rfl, _⟩ := mL p hp
          have := hb.yes j hj h2
          simp at this
          show s.1 < _
          omega
      · obtain ⟨rfl, _⟩ := mR p hp
        exact h3
  · intro x
    have inL : In x L ↔ (S[a]'(by omega)).1 ≤ x ∧ x < s.1 := by
      rw [hL]; split
      · rw [in_one]
      · simp only [in_nil, false_iff]; omega
    have inR : In x R ↔ s.2 ≤ x ∧ x < (S[b - 1]).2 := by
      rw [hR]; split
      · rw [in_one]
      · simp only [in_nil, false_iff]; omega
    rw [in_append, in_append, in_append, in_take, in_drop, inL, inR]
    simp only [f2, Bool.and_eq_true, Bool.not_eq_true', ← Bool.not_eq_true, inB_iff, in_one, in_iff (S := S)]
    constructor
    · rintro (((⟨i, hi, h1, u, v⟩ | ⟨u, v⟩) | ⟨u, v⟩) | ⟨i, hi, h1, u, v⟩)
      · refine ⟨⟨i, hi, u, v⟩, ?_⟩
        have := ha.no i hi h1; simp at this; omega
      · exact ⟨⟨a, by omega, u, by omega⟩, by omega⟩
      · exact ⟨⟨b - 1, hbl, by omega, v⟩, by omega⟩
      · refine ⟨⟨i, hi, u, v⟩, ?_⟩
        have := hb.yes i hi h1; simp at this; omega
    · rintro ⟨⟨i, hi, u, v⟩, hn⟩
      by_cases c1 : i < a
      · exact .inl (.inl (.inl ⟨i, hi, c1, u, v⟩))
      · by_cases c2 : i < b
        · by_cases c3 : x < s.1
          · refine .inl (.inl (.inr ⟨?_, c3⟩))
            have := hS.loUp (i := a) (j := i) (by omega) hi
            omega
          · refine .inl (.inr ⟨by omega, ?_⟩)
            have := hS.hiUp (i := i) (j := b - 1) (by omega) hbl
            omega
        · exact .inr ⟨i, hi, by omega, u, v⟩
end Go.Proofs.Ytgjcdejiolenkaa
