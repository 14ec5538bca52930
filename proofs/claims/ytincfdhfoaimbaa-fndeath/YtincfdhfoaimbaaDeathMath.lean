import Derived.Test.YtincfdhfoaimbaaSubModel
namespace Go.Proofs.Ytincfdhfoaimbaa
set_option linter.unusedVariables false

abbrev Tri := List (Int × Int × Int)
def tagsN (n : Nat) : List Int := (List.range n).map fun (i : Nat) => 7 * (i : Int)
def sendsN (n : Nat) : Tri := (List.range n).map fun (i : Nat) => ((1 : Int), 7 * (i : Int), (0 : Int))
def evsN (n t : Nat) : Tri := sendsN n ++ List.replicate t (3, 0, 0)
theorem tagsN_length (n : Nat) : (tagsN n).length = n := by simp [tagsN]
theorem tagsN_succ (n : Nat) : tagsN (n + 1) = tagsN n ++ [7 * (n : Int)] := by simp [tagsN, List.range_succ]
theorem sendsN_length (n : Nat) : (sendsN n).length = n := by simp [sendsN]
theorem sendsN_succ (n : Nat) : sendsN (n + 1) = sendsN n ++ [(1, 7 * (n : Int), 0)] := by simp [sendsN, List.range_succ]
theorem evsN_zero (n : Nat) : evsN n 0 = sendsN n := by simp [evsN]
theorem evsN_succ (n t : Nat) : evsN n (t + 1) = evsN n t ++ [(3, 0, 0)] := by simp [evsN, List.replicate_succ']
theorem evsN_length (n t : Nat) : (evsN n t).length = n + t := by simp [evsN, sendsN_length]

/-- Behind the sends. -/
theorem st_sends (c : Cf) (hc : c.Ok) : ∀ n : Nat, ((n : Nat) : Int) ≤ c.win → stAt c (sendsN n) = ⟨0, tagsN n, if n = 0 then 0 else c.rto, c.rto, 0, 0, 0⟩ := by
  intro n
  induction n with
  | zero => intro _; rfl
  | succ n ih =>
    intro h
    rw [sendsN_succ, stAt_snoc, ih (by omega)]
    simp only [stepF, sendF, if_true]
    rw [if_neg (by decide), if_neg (by simp only [tagsN_length]; omega)]
    simp only [tagsN_succ, Nat.succ_ne_zero, if_false, St.mk.injEq, true_and]
    refine ⟨?_, trivial⟩
    unfold Cf.Ok at hc
    by_cases h0 : n = 0
    · simp [h0]
    · simp only [h0, if_false]
      rw [if_neg (by omega)]
/-- The timeouts, and when they come. -/
def rtoAt (c : Cf) : Nat → Int
  | 0 => c.rto
  | j + 1 => min (2 * rtoAt c j) c.mrto
def whenAt (c : Cf) : Nat → Int
  | 0 => 0
  | j + 1 => whenAt c j + rtoAt c j
theorem rto_bounds (c : Cf) (hc : c.Ok) : ∀ j, 1 ≤ rtoAt c j ∧ rtoAt c j ≤ c.mrto := by
  intro j
  unfold Cf.Ok at hc
  induction j with
  | zero => simp only [rtoAt]; omega
  | succ j ih => simp only [rtoAt]; omega
theorem when_bounds (c : Cf) (hc : c.Ok) : ∀ j : Nat, (j : Int) ≤ whenAt c j ∧ whenAt c j ≤ 400 * (j : Int) := by
  intro j
  have hm : c.mrto ≤ 400 := by unfold Cf.Ok at hc; omega
  induction j with
  | zero => simp [whenAt]
  | succ j ih =>
    have := rto_bounds c hc j
    simp only [whenAt]
    omega
theorem when_mono (c : Cf) (hc : c.Ok) (i j : Nat) (h : i ≤ j) : whenAt c i ≤ whenAt c j := by
  induction j with
  | zero => obtain rfl : i = 0 := by omega
            exact Int.le_refl _
  | succ j ih =>
    by_cases e : i = j + 1
    · subst e; exact Int.le_refl _
    · have := ih (by omega)
      have := rto_bounds c hc j
      simp only [whenAt]
      omega
/-- How it stands behind t ticks, j timeouts among them. -/
def DAt (c : Cf) (n t j : Nat) : Prop :=
  (((j : Int) < c.da ∧ whenAt c j ≤ t ∧ (t : Int) < whenAt c (j + 1)) ∧ stAt c (evsN n t) = ⟨0, tagsN n, whenAt c (j + 1) - t, rtoAt c j, j, 0, 0⟩) ∨
  (((j : Int) = c.da ∧ whenAt c j ≤ t) ∧ ∃ r, stAt c (evsN n t) = ⟨0, tagsN n, 0, r, c.da, c.pe - ((t : Int) - whenAt c j) % c.pe, 1⟩)
theorem dat_start (c : Cf) (hc : c.Ok) (n : Nat) (h1 : 1 ≤ n) (h2 : (n : Int) ≤ c.win) : DAt c n 0 0 := by
  refine .inl ⟨?_, ?_⟩
  · have := rto_bounds c hc 0
    unfold Cf.Ok at hc
    simp only [whenAt]
    omega
  · rw [evsN_zero, st_sends c hc n h2]
    simp only [whenAt, rtoAt, if_neg (show n ≠ 0 by omega)]
    simp
/-- What a tick brings. -/
def tickO (c : Cf) (n t : Nat) : Ot := (tickF c (stAt c (evsN n t))).1
theorem st_tick (c : Cf) (n t : Nat) : stAt c (evsN n (t + 1)) = (tickF c (stAt c (evsN n t))).2 := by
  rw [evsN_succ, stAt_snoc]
  rfl
theorem dat_step (c : Cf) (hc : c.Ok) (n t j : Nat) (h1 : 1 ≤ n) (h : DAt c n t j) :
    ((j : Int) < c.da ∧ whenAt c (j + 1) = (t : Int) + 1 ∧ (j : Int) + 1 < c.da ∧ tickO c n t = ⟨0, againF c 0 (tagsN n), [], 0, 0⟩ ∧ DAt c n (t + 1) (j + 1)) ∨
    ((j : Int) < c.da ∧ whenAt c (j + 1) = (t : Int) + 1 ∧ (j : Int) + 1 = c.da ∧ tickO c n t = ⟨0, [], [], 1, 0⟩ ∧ DAt c n (t + 1) (j + 1)) ∨
    ((j : Int) < c.da ∧ (t : Int) + 1 < whenAt c (j + 1) ∧ tickO c n t = ⟨0, [], [], 0, 0⟩ ∧ DAt c n (t + 1) j) ∨
    ((j : Int) = c.da ∧ whenAt c j < (t : Int) + 1 ∧ ((t : Int) + 1 - whenAt c j) % c.pe = 0 ∧ tickO c n t = ⟨0, [(3, seqOf c 0, 0)], [], 0, 0⟩ ∧ DAt c n (t + 1) j) ∨
    ((j : Int) = c.da ∧ whenAt c j < (t : Int) + 1 ∧ ((t : Int) + 1 - whenAt c j) % c.pe ≠ 0 ∧ tickO c n t = ⟨0, [], [], 0, 0⟩ ∧ DAt c n (t + 1) j) := by
  have hr := rto_bounds c hc j
  have hr1 := rto_bounds c hc (j + 1)
  have hcu := hc
  unfold Cf.Ok at hcu
  have hct : ((t + 1 : Nat) : Int) = (t : Int) + 1 := by omega
  rcases h with ⟨⟨hj, hw, ht⟩, hs⟩ | ⟨⟨hj, hw⟩, r, hs⟩
  · by_cases hx : whenAt c (j + 1) = (t : Int) + 1
    · have ht1 : whenAt c (j + 1) - (t : Int) = 1 := by omega
      by_cases hd : (j : Int) + 1 = c.da
      · refine .inr (.inl ⟨hj, hx, hd, ?_, .inr ⟨⟨by omega, by omega⟩, rtoAt c j, ?_⟩⟩)
        · unfold tickO
          rw [hs, ht1]
          simp [tickF, hd]
        · rw [st_tick, hs, ht1]
          have e0 : ((t + 1 : Nat) : Int) - whenAt c (j + 1) = 0 := by omega
          rw [e0]
          simp [tickF, hd]
      · refine .inl ⟨hj, hx, by omega, ?_, .inl ⟨⟨by omega, by omega, by rw [hct]; simp only [whenAt] at hx ⊢; simp only [rtoAt] at hr1 ⊢; omega⟩, ?_⟩⟩
        · unfold tickO
          rw [hs, ht1]
          have hd' : ¬ c.da ≤ (j : Int) + 1 := by omega
          simp [tickF, hd']
        · rw [st_tick, hs, ht1]
          have hd' : ¬ c.da ≤ (j : Int) + 1 := by omega
          have e1 : whenAt c (j + 1 + 1) - ((t + 1 : Nat) : Int) = min (2 * rtoAt c j) c.mrto := by
            rw [hct, show whenAt c (j + 1 + 1) = whenAt c (j + 1) + rtoAt c (j + 1) from rfl, hx]
            simp only [rtoAt]; omega
          rw [e1]
          simp [tickF, hd', rtoAt]
    · refine .inr (.inr (.inl ⟨hj, by omega, ?_, .inl ⟨⟨hj, by omega, by omega⟩, ?_⟩⟩))
      · unfold tickO
        rw [hs]
        have h0 : ¬ whenAt c (j + 1) - (t : Int) = 0 := by omega
        have h2 : 0 < whenAt c (j + 1) - (t : Int) - 1 := by omega
        simp only [tickF]
        rw [if_neg (by decide), if_neg h0, if_pos h2]
      · rw [st_tick, hs]
        have h0 : ¬ whenAt c (j + 1) - (t : Int) = 0 := by omega
        have h2 : 0 < whenAt c (j + 1) - (t : Int) - 1 := by omega
        simp only [tickF]
        rw [if_neg (by decide), if_neg h0, if_pos h2]
        simp only [St.mk.injEq, true_and, and_true]
        omega
  · obtain ⟨m, hm⟩ : ∃ m, m = ((t : Int) - whenAt c j) % c.pe := ⟨_, rfl⟩
    have hpe : 0 < c.pe := by omega
    have m0 := Int.emod_nonneg ((t : Int) - whenAt c j) (show c.pe ≠ 0 by omega)
    have m1 := Int.emod_lt_of_pos ((t : Int) - whenAt c j) hpe
    rw [← hm] at m0 m1 hs
    have e : ((t : Int) + 1 - whenAt c j) % c.pe = if m + 1 = c.pe then 0 else m + 1 := by
      rw [show (t : Int) + 1 - whenAt c j = ((t : Int) - whenAt c j) + 1 by omega, Int.add_emod, ← hm]
      by_cases h : m + 1 = c.pe
      · rw [if_pos h]
        by_cases hp1 : c.pe = 1
        · have : m = 0 := by omega
          rw [this, hp1]; rfl
        · rw [Int.emod_eq_of_lt (a := 1) (by omega) (by omega), h, Int.emod_self]
      · rw [if_neg h, Int.emod_eq_of_lt (a := 1) (by omega) (by omega), Int.emod_eq_of_lt (by omega) (by omega)]
    by_cases h : m + 1 = c.pe
    · rw [if_pos h] at e
      refine .inr (.inr (.inr (.inl ⟨hj, by omega, e, ?_, .inr ⟨⟨hj, by omega⟩, r, ?_⟩⟩)))
      · unfold tickO
        rw [hs]
        have h2 : ¬ 0 < c.pe - m - 1 := by omega
        simp only [tickF]
        rw [if_pos (by decide), if_neg h2]
      · rw [st_tick, hs, hct, e]
        have h2 : ¬ 0 < c.pe - m - 1 := by omega
        simp only [tickF]
        rw [if_pos (by decide), if_neg h2]
        simp
    · rw [if_neg h] at e
      refine .inr (.inr (.inr (.inr ⟨hj, by omega, by omega, ?_, .inr ⟨⟨hj, by omega⟩, r, ?_⟩⟩)))
      · unfold tickO
        rw [hs]
        have h2 : 0 < c.pe - m - 1 := by omega
        simp only [tickF]
        rw [if_pos (by decide), if_pos h2]
      · rw [st_tick, hs, hct, e]
        have h2 : 0 < c.pe - m - 1 := by omega
        simp only [tickF]
        rw [if_pos (by decide), if_pos h2]
        simp only [St.mk.injEq, true_and, and_true]
        omega
end Go.Proofs.Ytincfdhfoaimbaa
