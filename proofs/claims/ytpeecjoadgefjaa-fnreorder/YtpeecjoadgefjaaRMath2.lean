import Derived.Test.YtpeecjoadgefjaaRMath1
namespace Go.Proofs.Ytpeecjoadgefjaa
set_option linter.unusedVariables false

theorem norm_length {T : Sp} (h : Norm T) : (T.length : Int) ≤ total T := by
  induction T with
  | nil => simp [total]
  | cons t r ih =>
    have h1 := h.head
    have h2 := ih h.tail
    simp only [total, List.length_cons]
    omega
/-- What is held, at the end. -/
theorem Hon.cut {x : Int} {z : Nat} {s : RB} {S : Sp} {k : Int} (h : Hon x z s S k) : built f2 S (x, s.read) = heldR z s := by
  obtain ⟨h1, h2, h3⟩ := heldR_norm h.win
  refine built_is rfl h1 fun t => ?_
  simp only [f2, Bool.and_eq_true, Bool.not_eq_true', ← Bool.not_eq_true, inB_iff, in_one]
  rw [h2, h.mem]
  constructor
  · intro hf
    refine ⟨.inr hf, fun hc => ?_⟩
    cases hv : s.f t with
    | none => rw [hv] at hf; simp at hf
    | some v => have := h.win t v hv; omega
  · rintro ⟨h4 | h4, h5⟩
    · exact absurd h4 h5
    · exact h4
theorem Hon.size {x : Int} {z : Nat} {s : RB} {S : Sp} {k : Int} (h : Hon x z s S k) : total (built f4 (heldR z s) (s.read, s.read + z)) = (cnt s.f z s.read : Nat) := by
  obtain ⟨h1, h2, h3⟩ := heldR_norm h.win
  rw [← h3]
  congr 1
  refine built_is rfl h1 fun t => ?_
  simp only [f4, Bool.and_eq_true, inB_iff, in_one]
  rw [h2]
  constructor
  · intro hf
    refine ⟨hf, ?_⟩
    cases hv : s.f t with
    | none => rw [hv] at hf; simp at hf
    | some v => have := h.win t v hv; omega
  · exact fun h => h.1
theorem runLen_none {z : Nat} {s : RB} (hw : InWin z s) : s.f (s.read + (runLen s.f z s.read : Nat)) = none := by
  have gen : ∀ (f : Int → Option Int) (k : Nat) (x : Int), runLen f k x < k → f (x + (runLen f k x : Nat)) = none := by
    intro f k
    induction k with
    | zero => intro x h; omega
    | succ k ih =>
      intro x h
      unfold runLen at h ⊢
      split
      · rename_i h1
        rw [if_pos h1] at h
        rw [show x + ((runLen f k (x + 1) + 1 : Nat) : Int) = x + 1 + (runLen f k (x + 1) : Nat) by omega]
        exact ih (x + 1) (by omega)
      · rename_i h1
        simpa using h1
  by_cases h1 : runLen s.f z s.read < z
  · exact gen s.f z s.read h1
  · have h2 := runLen_le s.f z s.read
    cases h3 : s.f (s.read + (runLen s.f z s.read : Nat)) with
    | none => rfl
    | some v => have := hw _ _ h3; omega
theorem Hon.gaps {x : Int} {z : Nat} {s : RB} {S : Sp} {k : Int} (h : Hon x z s S k) : ∃ hi r, built f3 (heldR z s) (s.read, s.read + z + 1) = (s.read + (runLen s.f z s.read : Nat), hi) :: r ∧ (built f3 (heldR z s) (s.read, s.read + z + 1)).length ≤ z + 1 := by
  obtain ⟨h1, h2, h3⟩ := heldR_norm h.win
  have hrl := runLen_le s.f z s.read
  have hn : Norm (built f3 (heldR z s) (s.read, s.read + z + 1)) := built_norm rfl _ _
  have hin : ∀ t, In t (built f3 (heldR z s) (s.read, s.read + z + 1)) ↔ (s.read ≤ t ∧ t < s.read + z + 1) ∧ ¬ (s.f t).isSome = true := fun t => by rw [in_gaps, h2]
  have hlen : ((built f3 (heldR z s) (s.read, s.read + z + 1)).length : Int) ≤ z + 1 := by
    have a1 := norm_length hn
    have a2 := total_split (heldR z s) (p := s.read) (q := s.read + z + 1) (by omega)
    have a3 : 0 ≤ total (built f4 (heldR z s) (s.read, s.read + z + 1)) := total_nonneg (fun p hp => by have := (built_norm (f := f4) rfl (heldR z s) (s.read, s.read + z + 1)).each p hp; omega)
    omega
  have hnx : In (s.read + (runLen s.f z s.read : Nat)) (built f3 (heldR z s) (s.read, s.read + z + 1)) := (hin _).2 ⟨⟨by omega, by omega⟩, by rw [runLen_none h.win]; simp⟩
  obtain ⟨G, hG⟩ : ∃ G, G = built f3 (heldR z s) (s.read, s.read + z + 1) := ⟨_, rfl⟩
  rw [← hG] at hn hin hlen hnx ⊢
  cases G with
  | nil => exact absurd hnx (in_nil _)
  | cons g r =>
    obtain ⟨lo, hi⟩ := g
    have hlt := hn.head
    simp only at hlt
    have hlo := (hin lo).1 ((in_cons _ _ _).2 (.inl ⟨Int.le_refl _, hlt⟩))
    have e : lo = s.read + (runLen s.f z s.read : Nat) := by
      have a1 : s.read + (runLen s.f z s.read : Nat) ≤ lo := by
        by_cases a2 : lo < s.read + (runLen s.f z s.read : Nat)
        · have := runLen_held s.f z s.read (lo - s.read).toNat (by omega)
          rw [show s.read + ((lo - s.read).toNat : Int) = lo by omega] at this
          exact absurd this hlo.2
        · omega
      rcases (in_cons _ _ _).1 hnx with a3 | a3
      · simp only at a3; omega
      · have := hn.beyond a3
        simp only at this
        omega
    refine ⟨hi, r, by rw [e], by omega⟩
theorem fits_built {f : Bool → Bool → Bool} (hf0 : f false false = false) {S : Sp} {p q : Int} (hf : Fits S) (p0 : 0 ≤ p) (p1 : p ≤ 18446744073709551615) (q0 : 0 ≤ q) (q1 : q ≤ 18446744073709551615) : Fits (built f S (p, q)) := by
  intro r hr
  have hn := (built_norm hf0 S (p, q)).each r hr
  have h1 := (built_in hf0 S (p, q) r.1).1 ⟨r, hr, Int.le_refl _, hn⟩
  have h2 := (built_in hf0 S (p, q) (r.2 - 1)).1 ⟨r, hr, by omega, by omega⟩
  have key : ∀ x, f (inB x S) (inB x [(p, q)]) = true → 0 ≤ x ∧ x < 18446744073709551615 := by
    intro x hx
    by_cases u : inB x S = true
    · obtain ⟨t, ht, a, b⟩ := inB_iff.1 u
      have := hf t ht
      omega
    · by_cases v : inB x [(p, q)] = true
      · have := (in_one _ _).1 (inB_iff.1 v)
        have h5 : p ≤ x := this.1
        have h6 : x < q := this.2
        omega
      · rw [Bool.not_eq_true] at u v
        rw [u, v, hf0] at hx
        cases hx
  have a := key _ h1
  have b := key _ h2
  omega
theorem outsR_get (z : Nat) : ∀ (es : List REv) (s : RB) (k : Nat) (h : k < es.length), (outsR z s es)[k]? = some (stepR z ((es.take k).foldl (fun s e => (stepR z s e).2) s) (es[k])).1 := by
  intro es
  induction es with
  | nil => intro s k h; simp at h
  | cons e r ih =>
    intro s k h
    cases k with
    | zero => rfl
    | succ k =>
      rw [outsR, List.getElem?_cons_succ, ih _ k (by simpa using h)]
      rfl
theorem fin_end (z : Nat) (x : Int) (es : List REv) (k : Nat) (h : (stateR z x (es.take k)).hf = 1) : (stateR z x es).hf = 1 ∧ (stateR z x es).fin = (stateR z x (es.take k)).fin := by
  have gen : ∀ (es : List REv) (s : RB), s.hf = 1 → (es.foldl (fun s e => (stepR z s e).2) s).hf = 1 ∧ (es.foldl (fun s e => (stepR z s e).2) s).fin = s.fin := by
    intro es
    induction es with
    | nil => intro s h; exact ⟨h, rfl⟩
    | cons e r ih =>
      intro s h
      obtain ⟨h1, h2⟩ := fin_step (z := z) (e := e) h
      obtain ⟨h3, h4⟩ := ih _ h1
      exact ⟨h3, h4.trans h2⟩
  have e : stateR z x es = ((es.drop k).foldl (fun s e => (stepR z s e).2) (stateR z x (es.take k))) := by
    unfold stateR
    rw [← List.foldl_append, List.take_append_drop]
  rw [e]
  exact gen _ _ h
end Go.Proofs.Ytpeecjoadgefjaa
