import Derived.Test.YtincfdhfoaimbaaDeathMath
namespace Go.Proofs.Ytincfdhfoaimbaa
set_option linter.unusedVariables false

theorem outs_at (c : Cf) : ∀ (es : Tri) (s : St) (i : Nat), i < es.length → (outsF c s es)[i]? = some (stepF c ((es.take i).foldl (fun s e => (stepF c s e).2) s) (es.getD i (0, 0, 0))).1 := by
  intro es
  induction es with
  | nil => intro s i h; simp at h
  | cons e r ih =>
    intro s i h
    cases i with
    | zero => simp [outsF]
    | succ i => simpa [outsF] using ih (stepF c s e).2 i (by simpa using h)
def fullN (c : Cf) (n t : Nat) : Tri := evsN n t ++ [(1, 99, 0)] ++ [(2, 0, (c.isn + 1) % 4294967296)]
theorem fullN_length (c : Cf) (n t : Nat) : (fullN c n t).length = n + t + 2 := by simp [fullN, evsN_length]
theorem evsN_take (n t T : Nat) (h : t ≤ T) : (evsN n T).take (n + t) = evsN n t := by
  unfold evsN
  rw [List.take_append, sendsN_length, List.take_of_length_le (by rw [sendsN_length]; omega), List.take_replicate]
  congr 2
  omega
theorem full_tick (c : Cf) (n t T : Nat) (h : t < T) : (outsF c (startF c) (fullN c n T))[n + t]? = some (tickO c n t) := by
  rw [outs_at c _ _ _ (by rw [fullN_length]; omega)]
  have e1 : (fullN c n T).take (n + t) = evsN n t := by
    unfold fullN
    rw [List.append_assoc, List.take_append_of_le_length (by rw [evsN_length]; omega), evsN_take n t T (by omega)]
  have e2 : (fullN c n T).getD (n + t) (0, 0, 0) = (3, 0, 0) := by
    unfold fullN evsN
    rw [List.getD_eq_getElem?_getD, List.append_assoc, List.append_assoc, List.getElem?_append_right (by rw [sendsN_length]; omega), sendsN_length, List.getElem?_append_left (by simp; omega), List.getElem?_replicate]
    rw [if_pos (by omega)]
    rfl
  rw [e1, e2]
  rfl
theorem dat_all (c : Cf) (hc : c.Ok) (n : Nat) (h1 : 1 ≤ n) (h2 : (n : Int) ≤ c.win) : ∀ t, ∃ j, DAt c n t j := by
  intro t
  induction t with
  | zero => exact ⟨0, dat_start c hc n h1 h2⟩
  | succ t ih =>
    obtain ⟨j, hj⟩ := ih
    rcases dat_step c hc n t j h1 hj with ⟨_, _, _, _, h⟩ | ⟨_, _, _, _, h⟩ | ⟨_, _, _, h⟩ | ⟨_, _, _, _, h⟩ | ⟨_, _, _, _, h⟩
    all_goals exact ⟨_, h⟩
theorem dat_dead (c : Cf) (hc : c.Ok) (n : Nat) (h1 : 1 ≤ n) (h2 : (n : Int) ≤ c.win) (D T : Nat) (hD : (D : Int) = c.da) (hT : whenAt c D ≤ T) : ∃ r p, stAt c (evsN n T) = ⟨0, tagsN n, 0, r, c.da, p, 1⟩ := by
  obtain ⟨j, hj⟩ := dat_all c hc n h1 h2 T
  rcases hj with ⟨⟨hj, hw, ht⟩, _⟩ | ⟨_, r, hs⟩
  · have := when_mono c hc (j + 1) D (by omega)
    omega
  · exact ⟨r, _, hs⟩
theorem full_send (c : Cf) (hc : c.Ok) (n : Nat) (h1 : 1 ≤ n) (h2 : (n : Int) ≤ c.win) (D T : Nat) (hD : (D : Int) = c.da) (hT : whenAt c D ≤ T) : (outsF c (startF c) (fullN c n T))[n + T]? = some ⟨10, [], [], 0, 0⟩ := by
  rw [outs_at c _ _ _ (by rw [fullN_length]; omega)]
  have e1 : (fullN c n T).take (n + T) = evsN n T := by
    unfold fullN
    rw [List.append_assoc, List.take_append_of_le_length (by rw [evsN_length]; omega), List.take_of_length_le (by rw [evsN_length]; omega)]
  have e2 : (fullN c n T).getD (n + T) (0, 0, 0) = (1, 99, 0) := by
    unfold fullN
    rw [List.getD_eq_getElem?_getD, List.append_assoc, List.getElem?_append_right (by rw [evsN_length]; omega), evsN_length]
    simp
  obtain ⟨r, p, hs⟩ := dat_dead c hc n h1 h2 D T hD hT
  rw [e1, e2]
  have : (List.foldl (fun s e => (stepF c s e).2) (startF c) (evsN n T)) = stAt c (evsN n T) := rfl
  rw [this, hs]
  simp [stepF, sendF]
theorem far_one (c : Cf) (hi : 0 ≤ c.isn ∧ c.isn ≤ 4294967295) (s : St) (hd : s.done = 0) : farF c s ((c.isn + 1) % 4294967296) = 1 := by
  unfold farF seqOf
  rw [hd]
  omega
theorem full_ack (c : Cf) (hc : c.Ok) (hi : 0 ≤ c.isn ∧ c.isn ≤ 4294967295) (n : Nat) (h1 : 1 ≤ n) (h2 : (n : Int) ≤ c.win) (D T : Nat) (hD : (D : Int) = c.da) (hT : whenAt c D ≤ T) : (outsF c (startF c) (fullN c n T))[n + T + 1]? = some ⟨0, againF c 1 ((tagsN n).drop 1), (tagsN n).take 1, 0, 1⟩ := by
  rw [outs_at c _ _ _ (by rw [fullN_length]; omega)]
  have e1 : (fullN c n T).take (n + T + 1) = evsN n T ++ [(1, 99, 0)] := by
    unfold fullN
    rw [List.take_append_of_le_length (by simp [evsN_length]), List.take_of_length_le (by simp [evsN_length])]
  have e2 : (fullN c n T).getD (n + T + 1) (0, 0, 0) = (2, 0, (c.isn + 1) % 4294967296) := by
    unfold fullN
    rw [List.getD_eq_getElem?_getD, List.getElem?_append_right (by simp [evsN_length])]
    simp [evsN_length]
  obtain ⟨r, p, hs⟩ := dat_dead c hc n h1 h2 D T hD hT
  rw [e1, e2]
  have : (List.foldl (fun s e => (stepF c s e).2) (startF c) (evsN n T ++ [(1, 99, 0)])) = stAt c (evsN n T ++ [(1, 99, 0)]) := rfl
  rw [this, stAt_snoc, hs]
  have e3 : (stepF c ⟨0, tagsN n, 0, r, c.da, p, 1⟩ (1, 99, 0)).2 = ⟨0, tagsN n, 0, r, c.da, p, 1⟩ := by simp [stepF, sendF]
  rw [e3]
  have hf := far_one c hi ⟨0, tagsN n, 0, r, c.da, p, 1⟩ rfl
  simp only [stepF, hearF]
  rw [if_neg (by decide), if_pos trivial, hf, if_neg (by simp only [tagsN_length]; omega), if_pos trivial]
theorem again_at (c : Cf) (d : Nat) (ts : List Int) (k : Nat) (h : k < (againF c d ts).length) : (againF c d ts)[k] = (2, seqOf c (d + k), ts.getD k 0) := by
  have h2 : k < ts.length := by simpa [againF] using h
  simp [againF, h2]
/-- Frames as the law wants them. -/
def FrOk (c : Cf) (F : Tri) (kd : Int) : Prop := ∀ k, ∀ h : k < F.length, (F[k]).1 = kd ∧ (F[k]).2.1 = (c.isn + (k : Int)) % 4294967296 ∧ (kd = 2 → (F[k]).2.2 = 7 * (k : Int))
theorem frOk_nil (c : Cf) (kd : Int) : FrOk c [] kd := fun k h => by simp at h
theorem tags_at (n k : Nat) (h : k < n) : (tagsN n).getD k 0 = 7 * (k : Int) := by simp [tagsN, h]
theorem frOk_again (c : Cf) (n : Nat) : FrOk c (againF c 0 (tagsN n)) 2 := by
  intro k h
  rw [again_at]
  have h2 : k < n := by simpa [againF, tagsN_length] using h
  refine ⟨rfl, ?_, fun _ => tags_at n k h2⟩
  simp [seqOf]
theorem frOk_probe (c : Cf) : FrOk c [(3, seqOf c 0, 0)] 3 := by
  intro k h
  obtain rfl : k = 0 := by simpa using h
  exact ⟨rfl, by simp [seqOf], fun e => by omega⟩
theorem again_length (c : Cf) (d : Nat) (ts : List Int) : (againF c d ts).length = ts.length := by simp [againF]
end Go.Proofs.Ytincfdhfoaimbaa
