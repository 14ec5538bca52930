import Derived.Test.YtincfdhfoaimbaaDeathMath2
namespace Go.Proofs.Ytincfdhfoaimbaa
set_option linter.unusedVariables false

/-- The tags of the frames that are sent for the first time. -/
def firsts (F : Tri) : List Int := (F.filter fun f => f.1 = 1).map (·.2.2)
def sentsF (os : List Ot) : List Int := os.flatMap fun o => firsts o.frames
def ackedF (os : List Ot) : List Int := os.flatMap (·.acked)
theorem sentsF_snoc (os : List Ot) (o : Ot) : sentsF (os ++ [o]) = sentsF os ++ firsts o.frames := by simp [sentsF]
theorem ackedF_snoc (os : List Ot) (o : Ot) : ackedF (os ++ [o]) = ackedF os ++ o.acked := by simp [ackedF]
theorem firsts_snoc (F : Tri) (f : Int × Int × Int) : firsts (F ++ [f]) = firsts F ++ (if f.1 = 1 then [f.2.2] else []) := by
  unfold firsts
  rw [List.filter_append, List.map_append]
  by_cases h : f.1 = 1 <;> simp [h]
theorem firsts_again (c : Cf) (d : Nat) (ts : List Int) : firsts (againF c d ts) = [] := by
  unfold firsts
  rw [List.map_eq_nil_iff, List.filter_eq_nil_iff]
  intro f hf
  simp only [againF, List.mem_mapIdx] at hf
  obtain ⟨i, hi, rfl⟩ := hf
  simp
/-- A frame that was sent: its number tells its place among the tags that were ever sent. -/
def SentOk (c : Cf) (S : List Int) (q t : Int) : Prop := ∃ i : Nat, i < S.length ∧ q = seqOf c i ∧ t = S.getD i 0
theorem SentOk.more {c : Cf} {S : List Int} {q t : Int} (h : SentOk c S q t) (R : List Int) : SentOk c (S ++ R) q t := by
  obtain ⟨i, hi, h1, h2⟩ := h
  refine ⟨i, by rw [List.length_append]; omega, h1, ?_⟩
  rw [h2, List.getD_eq_getElem?_getD, List.getD_eq_getElem?_getD, List.getElem?_append_left hi]
/-- What holds of the answers at any time. -/
structure Sent (c : Cf) (os : List Ot) (s : St) : Prop where
  all : sentsF os = ackedF os ++ s.tags
  done : (ackedF os).length = s.done
  fr : ∀ o ∈ os, ∀ f ∈ o.frames, f.1 ≠ 3 → SentOk c (sentsF os) f.2.1 f.2.2
theorem Sent.next {c : Cf} {os : List Ot} {s : St} (h : Sent c os s) {o : Ot} {s' : St} (h1 : firsts o.frames ++ [] = firsts o.frames → ackedF os ++ s.tags ++ firsts o.frames = ackedF os ++ o.acked ++ s'.tags) (h2 : s'.done = s.done + o.acked.length)
    (h3 : ∀ f ∈ o.frames, f.1 ≠ 3 → SentOk c (sentsF os ++ firsts o.frames) f.2.1 f.2.2) : Sent c (os ++ [o]) s' := by
  refine ⟨?_, ?_, ?_⟩
  · rw [sentsF_snoc, ackedF_snoc, h.all]
    exact h1 (by simp)
  · rw [ackedF_snoc, List.length_append, h.done, h2]
  · intro o' ho f hf hk
    rw [sentsF_snoc]
    rcases List.mem_append.1 ho with ho | ho
    · exact (h.fr o' ho f hf hk).more _
    · simp only [List.mem_singleton] at ho
      subst ho
      exact h3 f hf hk
theorem again_ok {c : Cf} {os : List Ot} {s : St} (h : Sent c os s) (k : Nat) (hk : k ≤ s.tags.length) : ∀ f ∈ againF c (s.done + k) (s.tags.drop k), SentOk c (sentsF os) f.2.1 f.2.2 := by
  intro f hf
  simp only [againF, List.mem_mapIdx] at hf
  obtain ⟨i, hi, rfl⟩ := hf
  rw [List.length_drop] at hi
  refine ⟨s.done + k + i, by rw [h.all, List.length_append, h.done]; omega, rfl, ?_⟩
  rw [h.all, List.getD_eq_getElem?_getD, List.getElem?_append_right (by rw [h.done]; omega), h.done, show s.done + k + i - s.done = k + i by omega, ← List.getElem?_drop, List.getElem?_eq_getElem (by rw [List.length_drop]; omega)]
  rfl
theorem sent_step {c : Cf} {os : List Ot} {s : St} (h : Sent c os s) (e : Int × Int × Int) : Sent c (os ++ [(stepF c s e).1]) (stepF c s e).2 := by
  have plain : ∀ (o : Ot) (s' : St), o.frames = [] → o.acked = [] → s'.tags = s.tags → s'.done = s.done → Sent c (os ++ [o]) s' := fun o s' h1 h2 h3 h4 => by
    refine h.next (fun _ => ?_) (by rw [h4, h2]; rfl) (by rw [h1]; simp)
    rw [h1, h2, h3]
    simp [firsts]
  have agn : ∀ (o : Ot) (s' : St), o.frames = againF c s.done s.tags → o.acked = [] → s'.tags = s.tags → s'.done = s.done → Sent c (os ++ [o]) s' := fun o s' h1 h2 h3 h4 => by
    refine h.next (fun _ => ?_) (by rw [h4, h2]; rfl) (fun f hf _ => ?_)
    · rw [h1, h2, h3, firsts_again]
      simp
    · rw [h1] at hf
      exact (again_ok h 0 (by omega) f (by simpa using hf)).more _
  unfold stepF
  split
  · unfold sendF
    split
    · exact plain _ _ rfl rfl rfl rfl
    split
    · exact plain _ _ rfl rfl rfl rfl
    · refine h.next (fun _ => ?_) (by simp) (fun f hf _ => ?_)
      · simp [firsts]
      · simp only [List.mem_singleton] at hf
        subst hf
        refine ⟨s.done + s.tags.length, by simp [h.all, h.done, firsts], rfl, ?_⟩
        have e1 : (sentsF os).length = s.done + s.tags.length := by rw [h.all, List.length_append, h.done]
        rw [List.getD_eq_getElem?_getD, List.getElem?_append_right (by omega), e1, Nat.sub_self]
        simp [firsts]
  split
  · unfold hearF
    split
    · exact plain _ _ rfl rfl rfl rfl
    · rename_i hf
      split
      · refine h.next (fun _ => ?_) ?_ (fun f hf2 _ => ?_)
        · simp only [firsts_again, restartF, cutF]
          simp
        · simp only [restartF, cutF, List.length_take]
          omega
        · exact (again_ok h _ (by omega) f hf2).more _
      split
      · refine h.next (fun _ => ?_) ?_ (by simp)
        · simp [firsts, restartF, cutF]
        · simp only [restartF, cutF, List.length_take]
          omega
      · exact plain _ _ rfl rfl rfl rfl
  split
  · unfold tickF
    split
    · split
      · exact plain _ _ rfl rfl rfl rfl
      · refine h.next (fun _ => ?_) (by simp) (fun f hf hk => ?_)
        · simp [firsts]
        · simp only [List.mem_singleton] at hf
          subst hf
          exact absurd rfl hk
    split
    · exact plain _ _ rfl rfl rfl rfl
    split
    · exact plain _ _ rfl rfl rfl rfl
    split
    · exact plain _ _ rfl rfl rfl rfl
    · exact agn _ _ rfl rfl rfl rfl
  · exact plain _ _ rfl rfl rfl rfl
theorem sent_at (c : Cf) (es : Tri) : Sent c (outsF c (startF c) es) (stAt c es) := by
  suffices H : ∀ k, k ≤ es.length → Sent c (outsF c (startF c) (es.take k)) (stAt c (es.take k)) by
    have := H es.length (Nat.le_refl _)
    rwa [List.take_length] at this
  intro k
  induction k with
  | zero => intro _; exact ⟨rfl, rfl, by simp [outsF]⟩
  | succ k ih =>
    intro hk
    rw [outsF_take c es k (by omega), stAt_take c es k (by omega)]
    exact sent_step (ih (by omega)) _
/-- The last acknowledgement. -/
theorem last_ack (c : Cf) (hi : 0 ≤ c.isn ∧ c.isn ≤ 4294967295) (s : St) (m : Nat) (hm : m ≤ s.done + s.tags.length) (hb : s.done + s.tags.length ≤ 100000) :
    (m < s.done → (stepF c s (2, 0, (c.isn + (m : Int)) % 4294967296)).1.code = 11 ∧ (stepF c s (2, 0, (c.isn + (m : Int)) % 4294967296)).2 = s) ∧
    (¬ m < s.done → (stepF c s (2, 0, (c.isn + (m : Int)) % 4294967296)).1.code = 0 ∧ (stepF c s (2, 0, (c.isn + (m : Int)) % 4294967296)).1.acked = s.tags.take (m - s.done) ∧ (stepF c s (2, 0, (c.isn + (m : Int)) % 4294967296)).2.tags = s.tags.drop (m - s.done)) := by
  refine ⟨fun h => ?_, fun h => ?_⟩
  · have hf : s.tags.length < farF c s ((c.isn + (m : Int)) % 4294967296) := by unfold farF seqOf; omega
    simp only [stepF, hearF]
    rw [if_neg (by decide), if_pos trivial, if_pos hf]
    exact ⟨rfl, rfl⟩
  · have hf : farF c s ((c.isn + (m : Int)) % 4294967296) = m - s.done := by unfold farF seqOf; omega
    simp only [stepF, hearF]
    rw [if_neg (by decide), if_pos trivial, hf, if_neg (by omega)]
    by_cases hd : s.dead = 1
    · rw [if_pos hd]
      exact ⟨rfl, rfl, rfl⟩
    · rw [if_neg hd]
      by_cases h0 : 0 < m - s.done
      · rw [if_pos h0]
        exact ⟨rfl, rfl, rfl⟩
      · rw [if_neg h0]
        have e : m - s.done = 0 := by omega
        rw [e]
        exact ⟨rfl, by simp, by simp⟩
end Go.Proofs.Ytincfdhfoaimbaa
