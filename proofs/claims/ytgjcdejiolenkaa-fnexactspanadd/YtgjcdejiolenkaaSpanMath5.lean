import Derived.Test.YtgjcdejiolenkaaSpanMath4
namespace Go.Proofs.Ytgjcdejiolenkaa
set_option linter.unusedVariables false

def total : List (Int × Int) → Int
  | [] => 0
  | p :: r => (p.2 - p.1) + total r

theorem total_append (A B : List (Int × Int)) : total (A ++ B) = total A + total B := by
  induction A with
  | nil => simp [total]
  | cons p r ih => simp only [List.cons_append, total, ih]; omega
theorem total_nonneg {S : List (Int × Int)} (h : ∀ p ∈ S, p.1 ≤ p.2) : 0 ≤ total S := by
  induction S with
  | nil => simp [total]
  | cons p r ih =>
    have h1 := h p (by simp)
    have h2 := ih (fun q hq => h q (by simp [hq]))
    simp only [total]
    omega
theorem total_take_succ {S : List (Int × Int)} {k : Nat} (hk : k < S.length) : total (S.take (k + 1)) = total (S.take k) + ((S[k]).2 - (S[k]).1) := by
  rw [List.take_succ_eq_append_getElem hk, total_append]
  simp [total]
theorem total_take_le {S : List (Int × Int)} (h : ∀ p ∈ S, p.1 ≤ p.2) (k : Nat) : 0 ≤ total (S.take k) ∧ total (S.take k) ≤ total S := by
  have h1 : 0 ≤ total (S.take k) := total_nonneg fun p hp => h p (List.mem_of_mem_take hp)
  have h2 : 0 ≤ total (S.drop k) := total_nonneg fun p hp => h p (List.mem_of_mem_drop hp)
  have h3 : total S = total (S.take k) + total (S.drop k) := by rw [← total_append, List.take_append_drop]
  exact ⟨h1, by omega⟩

/-- Inside lo .. hi a span set has at most hi - lo offsets; has it all of them, it has each. -/
theorem total_le {S : List (Int × Int)} (hS : Norm S) {lo hi : Int} (hlh : lo ≤ hi) (hin : ∀ p ∈ S, lo ≤ p.1 ∧ p.2 ≤ hi) : total S ≤ hi - lo ∧ (total S = hi - lo → ∀ x, lo ≤ x → x < hi → In x S) := by
  induction S generalizing lo with
  | nil => exact ⟨by simp [total]; omega, fun h x h1 h2 => by simp [total] at h; omega⟩
  | cons p r ih =>
    have h1 := hin p (by simp)
    have h2 := hS.1
    have h3 : ∀ q ∈ r, p.2 ≤ q.1 ∧ q.2 ≤ hi := fun q hq => ⟨by have := hS.2.1 q hq; omega, (hin q (by simp [hq])).2⟩
    obtain ⟨g1, g2⟩ := ih hS.tail (lo := p.2) (by omega) h3
    simp only [total]
    refine ⟨by omega, fun he x a b => ?_⟩
    rw [in_cons]
    by_cases c : x < p.2
    · exact .inl ⟨by omega, c⟩
    · exact .inr (g2 (by omega) x (by omega) b)

theorem built4_inside (S : List (Int × Int)) (s : Int × Int) : ∀ p ∈ built f4 S s, s.1 ≤ p.1 ∧ p.2 ≤ s.2 := by
  intro p hp
  have hn := (built_norm (f := f4) rfl S s).each p hp
  have h1 := (built_in (f := f4) rfl S s p.1).1 ⟨p, hp, Int.le_refl _, hn⟩
  have h2 := (built_in (f := f4) rfl S s (p.2 - 1)).1 ⟨p, hp, by omega, by omega⟩
  simp only [f4, Bool.and_eq_true, inB_iff, in_one] at h1 h2
  omega

/-- All of s is in the set just when no gap is built; told by the size. -/
theorem has_iff (S : List (Int × Int)) (s : Int × Int) (hs : s.1 ≤ s.2) : total (built f4 S s) = s.2 - s.1 ↔ built f3 S s = [] := by
  constructor
  · intro h
    have hc := (total_le (built_norm (f := f4) rfl S s) hs (built4_inside S s)).2 h
    refine built_is rfl trivial fun x => ?_
    simp only [in_nil, false_iff, f3, Bool.and_eq_true, Bool.not_eq_true', ← Bool.not_eq_true, inB_iff, in_one]
    rintro ⟨⟨h1, h2⟩, h3⟩
    have := (built_in (f := f4) rfl S s x).1 (hc x h1 h2)
    simp only [f4, Bool.and_eq_true, inB_iff] at this
    exact h3 this.1
  · intro h
    have hx : ∀ x, s.1 ≤ x → x < s.2 → In x S := by
      intro x h1 h2
      by_cases c : In x S
      · exact c
      · exfalso
        have := (built_in (f := f3) rfl S s x).2 (by simp only [f3, Bool.and_eq_true, Bool.not_eq_true', ← Bool.not_eq_true, inB_iff, in_one]; exact ⟨⟨h1, h2⟩, c⟩)
        rw [h] at this
        exact in_nil x this
    by_cases e : s.1 = s.2
    · have : built f4 S s = [] := built_is rfl trivial fun x => by
        simp only [in_nil, false_iff, f4, Bool.and_eq_true, inB_iff, in_one]
        omega
      rw [this]
      simp [total]
      omega
    · have : built f4 S s = [s] := by
        refine built_is rfl (by simp [Norm]; omega) fun x => ?_
        simp only [f4, Bool.and_eq_true, inB_iff, in_one]
        exact ⟨fun h => ⟨hx x h.1 h.2, h⟩, fun h => h.2⟩
      rw [this]
      simp [total]

/-- The spans that reach into s, cut to it. -/
def clip (S : List (Int × Int)) (s : Int × Int) (a b : Nat) : List (Int × Int) := ((S.drop a).take (b - a)).map fun p => (max p.1 s.1, min p.2 s.2)

theorem clip_length {S : List (Int × Int)} {s : Int × Int} {a b : Nat} (hab : a ≤ b) (hb : b ≤ S.length) : (clip S s a b).length = b - a := by simp [clip]; omega
theorem clip_at {S : List (Int × Int)} {s : Int × Int} {a b i : Nat} (hab : a ≤ b) (hb : b ≤ S.length) (hi : i < (clip S s a b).length) : (clip S s a b)[i] = (max (S[a + i]'(by have := clip_length (s := s) hab hb; omega)).1 s.1, min (S[a + i]'(by have := clip_length (s := s) hab hb; omega)).2 s.2) := by
  simp [clip]
theorem mem_clip {S : List (Int × Int)} {s : Int × Int} {a b : Nat} (hb : b ≤ S.length) {p : Int × Int} (h : p ∈ clip S s a b) : ∃ i, ∃ hi : i < S.length, a ≤ i ∧ i < b ∧ p = (max (S[i]).1 s.1, min (S[i]).2 s.2) := by
  simp only [clip, List.mem_map] at h
  obtain ⟨q, hq, rfl⟩ := h
  obtain ⟨i, hi, h1, rfl⟩ := mem_take_at hq
  simp only [List.length_drop] at hi
  exact ⟨a + i, by omega, by omega, by omega, by simp⟩

theorem clip_le {S : List (Int × Int)} {s : Int × Int} {a b : Nat} (hS : Norm S) (hs : s.1 ≤ s.2) (ha : Place S (fun p => decide (s.1 < p.2)) a) (hb : Place S (fun p => decide (s.2 ≤ p.1)) b) : ∀ p ∈ clip S s a b, p.1 ≤ p.2 := by
  intro p hp
  obtain ⟨i, hi, h1, h2, rfl⟩ := mem_clip hb.le hp
  have := hS.at hi
  have q1 := ha.yes i hi h1
  have q2 := hb.no i hi h2
  simp at q1 q2
  show max _ _ ≤ min _ _
  omega

theorem clip_norm {S : List (Int × Int)} {s : Int × Int} {a b : Nat} (hS : Norm S) (hs : s.1 < s.2) (ha : Place S (fun p => decide (s.1 < p.2)) a) (hb : Place S (fun p => decide (s.2 ≤ p.1)) b) : Norm (clip S s a b) := by
  have hab := overlap_le hS (Int.le_of_lt hs) ha hb
  have gen : ∀ k, k ≤ (clip S s a b).length → Norm ((clip S s a b).take k) := by
    intro k hk
    induction k with
    | zero => simp [Norm]
    | succ k ih =>
      have hk' : k < (clip S s a b).length := by omega
      have hl := clip_length (s := s) hab hb.le
      rw [norm_step hk']
      refine ⟨ih (by omega), ?_, fun h0 => ?_⟩
      · have := clip_le hS (Int.le_of_lt hs) ha hb _ (List.getElem_mem hk')
        rw [clip_at hab hb.le hk'] at this ⊢
        have hi : a + k < S.length := by have := hb.le; omega
        have h1 := hS.at hi
        have q1 := ha.yes (a + k) hi (by omega)
        have q2 := hb.no (a + k) hi (by omega)
        simp at q1 q2
        show max _ _ < min _ _
        omega
      · rw [clip_at hab hb.le hk', clip_at hab hb.le (by omega)]
        have hi : a + k < S.length := by have := hb.le; omega
        have h1 := hS.lt (i := a + (k - 1)) (j := a + k) (by omega) hi
        show min _ _ < max _ _
        omega
  have := gen _ (Nat.le_refl _)
  rwa [List.take_length] at this

theorem clip_in {S : List (Int × Int)} {s : Int × Int} {a b : Nat} (hS : Norm S) (hs : s.1 ≤ s.2) (ha : Place S (fun p => decide (s.1 < p.2)) a) (hb : Place S (fun p => decide (s.2 ≤ p.1)) b) (x : Int) : In x (clip S s a b) ↔ f4 (inB x S) (inB x [s]) = true := by
  have hab := overlap_le hS hs ha hb
  have hl := clip_length (s := s) hab hb.le
  simp only [f4, Bool.and_eq_true, inB_iff, in_one]
  constructor
  · rintro ⟨p, hp, h1, h2⟩
    obtain ⟨i, hi, g1, g2, rfl⟩ := mem_clip hb.le hp
    have h1' : max (S[i]).1 s.1 ≤ x := h1
    have h2' : x < min (S[i]).2 s.2 := h2
    exact ⟨in_iff.2 ⟨i, hi, by omega, by omega⟩, by omega, by omega⟩
  · rintro ⟨hx, h1, h2⟩
    obtain ⟨i, hi, g1, g2⟩ := in_iff.1 hx
    have c1 : a ≤ i := by
      by_cases c : a ≤ i
      · exact c
      · have := ha.no i hi (by omega); simp at this; omega
    have c2 : i < b := by
      by_cases c : i < b
      · exact c
      · have := hb.yes i hi (by omega); simp at this; omega
    rw [in_iff]
    refine ⟨i - a, by omega, ?_⟩
    rw [clip_at hab hb.le (by omega)]
    have e : a + (i - a) = i := by omega
    simp only [e]
    show max _ _ ≤ x ∧ x < min _ _
    omega

/-- The sizes are the same, of an empty span too. -/
theorem clip_total {S : List (Int × Int)} {s : Int × Int} {a b : Nat} (hS : Norm S) (hs : s.1 ≤ s.2) (ha : Place S (fun p => decide (s.1 < p.2)) a) (hb : Place S (fun p => decide (s.2 ≤ p.1)) b) : total (clip S s a b) = total (built f4 S s) := by
  by_cases e : s.1 < s.2
  · rw [built_is rfl (clip_norm hS e ha hb) (clip_in hS hs ha hb)]
  · have e' : s.1 = s.2 := by omega
    have h1 : built f4 S s = [] := built_is rfl trivial fun x => by
      simp only [in_nil, false_iff, f4, Bool.and_eq_true, inB_iff, in_one]
      omega
    have h2 : ∀ T : List (Int × Int), (∀ p ∈ T, p.1 = p.2) → total T = 0 := by
      intro T
      induction T with
      | nil => intro _; rfl
      | cons p r ih =>
        intro h
        have := h p (by simp)
        have := ih (fun q hq => h q (by simp [hq]))
        simp only [total]
        omega
    rw [h1, h2]
    · rfl
    · intro p hp
      have g := clip_le hS hs ha hb p hp
      obtain ⟨i, hi, g1, g2, rfl⟩ := mem_clip hb.le hp
      have g' : max (S[i]).1 s.1 ≤ min (S[i]).2 s.2 := g
      show max _ _ = min _ _
      omega
end Go.Proofs.Ytgjcdejiolenkaa
