import Derived.Test.YtincfdhfoaimbaaSpState
import Derived.Test.YtincfdhfoaimbaaLawRow3
namespace Go.Proofs.Ytincfdhfoaimbaa
open Go.ChangeShapes Go.WideShapes Go.ChangeAt Go.RowKit
set_option linter.unusedVariables false

abbrev nilV : Value := .slice none 0 0
theorem Outs.forget {w : World} {base : Nat} {v ov : Value} {G : Got} (h : Outs w base v ov G) : Outs w base nilV ov G := ⟨h.row, h.fr, h.ak, h.fn, h.an, fun p hp k hk e => by cases e⟩
theorem OutsS.forget {w : World} {base : Nat} {v ov : Value} {G : Got} (h : OutsS w base v ov G) : OutsS w base nilV ov G := ⟨h.row, h.fr, h.ak, fun p hp k hk e => by cases e⟩
theorem OutsS.kept {w w' : World} {base : Nat} {ov : Value} {G : Got} (h : OutsS w base nilV ov G) (hb : ∀ k, base ≤ k → k < w.heap.size → w'.heap[k]? = w.heap[k]?) : OutsS w' base nilV ov G := by
  have hr : ∀ {e : TypeId} {size : Nat} {u : Value} {n : Nat} {xs : List Value}, w.ownsRow base e size u n xs → w'.ownsRow base e size u n xs := fun {e size u n xs} ho => by
    refine ⟨ho.1, ?_⟩
    rcases ho.2 with hn | ⟨g, cap, cur, rfl, hg, hh, rest⟩
    · exact .inl hn
    · exact .inr ⟨g, cap, cur, rfl, hg, (hb g hg (Array.getElem?_eq_some_iff.1 hh).1).trans hh, rest⟩
  exact ⟨hr h.row, fun p hp => hr (h.fr p hp), fun p hp => (h.ak p hp).kept fun k hk => hb k ((h.ak p hp).lt hk).1 ((h.ak p hp).lt hk).2, fun p hp k hk e => by cases e⟩
theorem Outs.kept {w w' : World} {base : Nat} {ov : Value} {G : Got} (h : Outs w base nilV ov G) (hb : ∀ k, base ≤ k → k < w.heap.size → w'.heap[k]? = w.heap[k]?) : Outs w' base nilV ov G := by
  have hr : ∀ {e : TypeId} {size : Nat} {u : Value} {n : Nat} {xs : List Value}, w.ownsRow base e size u n xs → w'.ownsRow base e size u n xs := fun {e size u n xs} ho => by
    refine ⟨ho.1, ?_⟩
    rcases ho.2 with hn | ⟨g, cap, cur, rfl, hg, hh, rest⟩
    · exact .inl hn
    · exact .inr ⟨g, cap, cur, rfl, hg, (hb g hg (Array.getElem?_eq_some_iff.1 hh).1).trans hh, rest⟩
  exact ⟨hr h.row, fun p hp => hr (h.fr p hp), fun p hp => hr (h.ak p hp), h.fn, h.an, fun p hp k hk e => by cases e⟩

/-- Of two places one block is held by one at most. -/
theorem apart_of {α β : Type} {f : α → Option β} {G : List α} (h : (G.filterMap f).Nodup) {i j : Nat} (hi : i < G.length) (hj : j < G.length) (hij : i ≠ j) {k : β} (h1 : f G[i] = some k) (h2 : f G[j] = some k) : False := by
  rw [List.Nodup, List.pairwise_filterMap, List.pairwise_iff_getElem] at h
  rcases Nat.lt_or_gt_of_ne hij with hl | hl
  · exact h i j hi hj hl k h1 k h2 rfl
  · exact h j i hj hi hl k h2 k h1 rfl
theorem filterMap_set {α β : Type} {f : α → Option β} (G : List α) (i : Nat) (p : α) (hi : i < G.length) (h : f p = f G[i]) : (G.set i p).filterMap f = G.filterMap f := by
  induction G generalizing i with
  | nil => simp at hi
  | cons q r ih =>
    cases i with
    | zero => simp only [List.set_cons_zero, List.filterMap_cons]; rw [h]; rfl
    | succ i =>
      simp only [List.set_cons_succ, List.filterMap_cons]
      rw [ih i (by simpa using hi) (by simpa using h)]

theorem flatO_set (G : Got) (i : Nat) (p : Ot × Value × Value) (hi : i < G.length) : (((((flatO G).set (i * 5) (.int .i64 p.1.code)).set (i * 5 + 1) p.2.1).set (i * 5 + 2) p.2.2).set (i * 5 + 3) (.int .i64 p.1.died)).set (i * 5 + 4) (.int .i64 p.1.revived) = flatO (G.set i p) := by
  induction G generalizing i with
  | nil => simp at hi
  | cons q r ih =>
    cases i with
    | zero => rfl
    | succ j =>
      have e0 : ∀ q : Ot × Value × Value, ∀ r : Got, flatO (q :: r) = .int .i64 q.1.code :: q.2.1 :: q.2.2 :: .int .i64 q.1.died :: .int .i64 q.1.revived :: flatO r := fun _ _ => rfl
      have e1 : (j + 1) * 5 = j * 5 + 1 + 1 + 1 + 1 + 1 := by omega
      rw [List.set_cons_succ, e0, e0, ← ih j (by simpa using hi), e1]
      rw [show j * 5 + 1 + 1 + 1 + 1 + 1 + 1 = (j * 5 + 1) + 1 + 1 + 1 + 1 + 1 by omega, show j * 5 + 1 + 1 + 1 + 1 + 1 + 2 = (j * 5 + 2) + 1 + 1 + 1 + 1 + 1 by omega, show j * 5 + 1 + 1 + 1 + 1 + 1 + 3 = (j * 5 + 3) + 1 + 1 + 1 + 1 + 1 by omega, show j * 5 + 1 + 1 + 1 + 1 + 1 + 4 = (j * 5 + 4) + 1 + 1 + 1 + 1 + 1 by omega]
      simp only [List.set_cons_succ]

theorem mem_set_iff {α : Type} {G : List α} {i : Nat} {p q : α} (h : q ∈ G.set i p) : q = p ∨ q ∈ G := by
  rcases List.mem_or_eq_of_mem_set h with h | h
  · exact .inr h
  · exact .inl h

/-- One number of one answer is stored. -/
theorem Outs.store {w : World} {base g cap : Nat} {G : Got} (h : Outs w base nilV (.slice (some ⟨g, 0, none⟩) G.length cap) G) (i : Nat) (hi : i < G.length) (j : Nat) (x : Value) (o' : Ot) (hf : o'.frames = (G[i]).1.frames) (ha : o'.acked = (G[i]).1.acked) (hx : (flatO G).set (i * 5 + j) x = flatO (G.set i (o', (G[i]).2))) :
    Outs (w.setCell ⟨g, i * 5 + j, none⟩ x) base nilV (.slice (some ⟨g, 0, none⟩) G.length cap) (G.set i (o', (G[i]).2)) := by
  have hg := grown_set w g (i * 5 + j) x
  have hk : ∀ {e : TypeId} {size : Nat} {u : Value} {n : Nat} {xs : List Value}, w.ownsRow base e size u n xs → e ≠ 47 → (w.setCell ⟨g, i * 5 + j, none⟩ x).ownsRow base e size u n xs := fun {e size u n xs} ho he => ho.kept hg (by
    cases hu : u.ownBlock with
    | none => exact .inl rfl
    | some k =>
      refine .inr fun e2 => ?_
      obtain ⟨cs, hc⟩ := row_block ho hu
      obtain ⟨ct, hct⟩ := row_block h.row (k := g) rfl
      exact type_ne hc hct he (by simpa using e2))
  have hrow := (h.row.stored (i * 5 + j) x).1
  rw [hx] at hrow
  refine ⟨by rw [List.length_set]; exact hrow, fun p hp => ?_, fun p hp => ?_, ?_, ?_, fun p hp k hk e => by cases e⟩
  · rcases mem_set_iff hp with rfl | hp
    · have := hk (h.fr _ (List.getElem_mem hi)) (by decide)
      simp only [hf]
      exact this
    · exact hk (h.fr p hp) (by decide)
  · rcases mem_set_iff hp with rfl | hp
    · have := hk (h.ak _ (List.getElem_mem hi)) (by decide)
      simp only [ha]
      exact this
    · exact hk (h.ak p hp) (by decide)
  · have e := filterMap_set (f := fun p : Ot × Value × Value => p.2.1.ownBlock) G i (o', (G[i]).2) hi rfl
    rw [e]; exact h.fn
  · have e := filterMap_set (f := fun p : Ot × Value × Value => p.2.2.ownBlock) G i (o', (G[i]).2) hi rfl
    rw [e]; exact h.an

/-- All frames of one answer are stored. -/
theorem Outs.frames {w w' : World} {base : Nat} {ov : Value} {G : Got} (h : Outs w base nilV ov G) (i : Nat) (hi : i < G.length) (F : Triples) (hF : F.length = (G[i]).1.frames.length) (hg : w.grownBy w' (G[i]).2.1.ownBlock) (hnew : w'.ownsRow base 49 3 (G[i]).2.1 (G[i]).1.frames.length (flat3 .i64 .u32 .i64 F)) :
    Outs w' base nilV ov (G.set i ({ (G[i]).1 with frames := F }, (G[i]).2)) := by
  have hfi := h.fr _ (List.getElem_mem hi)
  have hk : ∀ {e : TypeId} {size : Nat} {u : Value} {n : Nat} {xs : List Value}, w.ownsRow base e size u n xs → e ≠ 49 → w'.ownsRow base e size u n xs := fun {e size u n xs} ho he => ho.kept hg (by
    cases hu : u.ownBlock with
    | none => exact .inl rfl
    | some k =>
      refine .inr fun e2 => ?_
      obtain ⟨cs, hc⟩ := row_block ho hu
      obtain ⟨ct, hct⟩ := row_block hfi e2.symm
      exact type_ne hc hct he rfl)
  have hx : flatO (G.set i ({ (G[i]).1 with frames := F }, (G[i]).2)) = flatO G := by
    rw [← flatO_set G i _ hi]
    obtain ⟨f0, f1, f2, f3, f4⟩ := flatO_at hi
    have hs : ∀ (l : List Value) (j : Nat) (x : Value), l[j]? = some x → l.set j x = l := fun l j x hj => by
      obtain ⟨hl, he⟩ := List.getElem?_eq_some_iff.1 hj
      rw [← he, List.set_getElem_self]
    rw [hs _ _ _ f0, hs _ _ _ f1, hs _ _ _ f2, hs _ _ _ f3, hs _ _ _ f4]
  refine ⟨by rw [List.length_set, hx]; exact hk h.row (by decide), fun p hp => ?_, fun p hp => ?_, ?_, ?_, fun p hp k hk e => by cases e⟩
  · obtain ⟨j, hj, rfl⟩ := List.getElem_of_mem hp
    rw [List.length_set] at hj
    by_cases hij : i = j
    · subst hij
      rw [List.getElem_set_self]
      simp only [hF]
      exact hnew
    · rw [List.getElem_set_ne hij]
      refine (h.fr _ (List.getElem_mem hj)).kept hg ?_
      cases hu : (G[j]).2.1.ownBlock with
      | none => exact .inl rfl
      | some k => exact .inr fun e2 => apart_of (f := fun p : Ot × Value × Value => p.2.1.ownBlock) h.fn hi hj hij e2.symm hu
  · rcases mem_set_iff hp with rfl | hp
    · have := hk (h.ak _ (List.getElem_mem hi)) (by decide)
      exact this
    · exact hk (h.ak p hp) (by decide)
  · have e := filterMap_set (f := fun p : Ot × Value × Value => p.2.1.ownBlock) G i ({ (G[i]).1 with frames := F }, (G[i]).2) hi rfl
    rw [e]; exact h.fn
  · have e := filterMap_set (f := fun p : Ot × Value × Value => p.2.2.ownBlock) G i ({ (G[i]).1 with frames := F }, (G[i]).2) hi rfl
    rw [e]; exact h.an

/-- All acknowledged tags of one answer are stored. -/
theorem Outs.acked {w w' : World} {base : Nat} {ov : Value} {G : Got} (h : Outs w base nilV ov G) (i : Nat) (hi : i < G.length) (F : List Int) (hF : F.length = (G[i]).1.acked.length) (hg : w.grownBy w' (G[i]).2.2.ownBlock) (hnew : w'.ownsRow base 2 1 (G[i]).2.2 (G[i]).1.acked.length (F.map (.int .i64))) :
    Outs w' base nilV ov (G.set i ({ (G[i]).1 with acked := F }, (G[i]).2)) := by
  have hfi := h.ak _ (List.getElem_mem hi)
  have hk : ∀ {e : TypeId} {size : Nat} {u : Value} {n : Nat} {xs : List Value}, w.ownsRow base e size u n xs → e ≠ 2 → w'.ownsRow base e size u n xs := fun {e size u n xs} ho he => ho.kept hg (by
    cases hu : u.ownBlock with
    | none => exact .inl rfl
    | some k =>
      refine .inr fun e2 => ?_
      obtain ⟨cs, hc⟩ := row_block ho hu
      obtain ⟨ct, hct⟩ := row_block hfi e2.symm
      exact type_ne hc hct he rfl)
  have hx : flatO (G.set i ({ (G[i]).1 with acked := F }, (G[i]).2)) = flatO G := by
    rw [← flatO_set G i _ hi]
    obtain ⟨f0, f1, f2, f3, f4⟩ := flatO_at hi
    have hs : ∀ (l : List Value) (j : Nat) (x : Value), l[j]? = some x → l.set j x = l := fun l j x hj => by
      obtain ⟨hl, he⟩ := List.getElem?_eq_some_iff.1 hj
      rw [← he, List.set_getElem_self]
    rw [hs _ _ _ f0, hs _ _ _ f1, hs _ _ _ f2, hs _ _ _ f3, hs _ _ _ f4]
  refine ⟨by rw [List.length_set, hx]; exact hk h.row (by decide), fun p hp => ?_, fun p hp => ?_, ?_, ?_, fun p hp k hk e => by cases e⟩
  · rcases mem_set_iff hp with rfl | hp
    · have := hk (h.fr _ (List.getElem_mem hi)) (by decide)
      exact this
    · exact hk (h.fr p hp) (by decide)
  · obtain ⟨j, hj, rfl⟩ := List.getElem_of_mem hp
    rw [List.length_set] at hj
    by_cases hij : i = j
    · subst hij
      rw [List.getElem_set_self]
      simp only [hF]
      exact hnew
    · rw [List.getElem_set_ne hij]
      refine (h.ak _ (List.getElem_mem hj)).kept hg ?_
      cases hu : (G[j]).2.2.ownBlock with
      | none => exact .inl rfl
      | some k => exact .inr fun e2 => apart_of (f := fun p : Ot × Value × Value => p.2.2.ownBlock) h.an hi hj hij e2.symm hu
  · have e := filterMap_set (f := fun p : Ot × Value × Value => p.2.1.ownBlock) G i ({ (G[i]).1 with acked := F }, (G[i]).2) hi rfl
    rw [e]; exact h.fn
  · have e := filterMap_set (f := fun p : Ot × Value × Value => p.2.2.ownBlock) G i ({ (G[i]).1 with acked := F }, (G[i]).2) hi rfl
    rw [e]; exact h.an

/-- What marking makes of an answer, and where it goes on. -/
def markO (s : Int) (o : Ot) : Ot := ⟨s, marked3 (s + 1) o.frames.length, markedW (s + 1 + 3 * (o.frames.length : Int)) o.acked.length, s + 1 + 3 * (o.frames.length : Int) + (o.acked.length : Int), s + 1 + 3 * (o.frames.length : Int) + (o.acked.length : Int) + 1⟩
def nextS (s : Int) (o : Ot) : Int := s + 1 + 3 * (o.frames.length : Int) + (o.acked.length : Int) + 1 + 1
def sAt (s : Int) (G : Got) (i : Nat) : Int := (G.take i).foldl (fun s p => nextS s p.1) s
theorem sAt_succ (s : Int) (G : Got) (i : Nat) (h : i < G.length) : sAt s G (i + 1) = nextS (sAt s G i) (G[i]).1 := by
  unfold sAt
  rw [List.take_succ_eq_append_getElem h, List.foldl_append]
  rfl
def markG (s : Int) (G : Got) (i : Nat) : Got := (G.take i).mapIdx (fun j p => (markO (sAt s G j) p.1, p.2)) ++ G.drop i
theorem markG_zero (s : Int) (G : Got) : markG s G 0 = G := by simp [markG]
theorem markG_length (s : Int) (G : Got) (i : Nat) (h : i ≤ G.length) : (markG s G i).length = G.length := by simp [markG]; omega
theorem markG_at (s : Int) (G : Got) (i j : Nat) (hi : i ≤ G.length) (hj : j < (markG s G i).length) : (markG s G i)[j] = if j < i then (markO (sAt s G j) (G[j]'(by rw [markG_length s G i hi] at hj; exact hj)).1, (G[j]'(by rw [markG_length s G i hi] at hj; exact hj)).2) else G[j]'(by rw [markG_length s G i hi] at hj; exact hj) := by
  have hj2 := hj
  rw [markG_length s G i hi] at hj2
  by_cases h : j < i
  · rw [if_pos h]
    simp only [markG]
    rw [List.getElem_append_left (by simp; omega)]
    simp
  · rw [if_neg h]
    simp only [markG]
    rw [List.getElem_append_right (by simp; omega)]
    simp only [List.length_mapIdx, List.length_take, List.getElem_drop]
    congr 1
    omega
theorem markG_succ (s : Int) (G : Got) (i : Nat) (h : i < G.length) : (markG s G i).set i (markO (sAt s G i) (G[i]).1, (G[i]).2) = markG s G (i + 1) := by
  refine List.ext_getElem (by rw [List.length_set, markG_length s G i (by omega), markG_length s G (i + 1) (by omega)]) fun j h1 h2 => ?_
  rw [List.length_set] at h1
  by_cases hij : i = j
  · subst hij
    rw [List.getElem_set_self, markG_at s G (i + 1) i (by omega) h2, if_pos (by omega)]
  · rw [List.getElem_set_ne hij, markG_at s G i j (by omega) h1, markG_at s G (i + 1) j (by omega) h2]
    by_cases hj : j < i
    · rw [if_pos hj, if_pos (by omega)]
    · rw [if_neg hj, if_neg (by omega)]

/-- Answers that are not too long. -/
def Small (G : Got) : Prop := ∀ p ∈ G, p.1.frames.length ≤ 5000 ∧ p.1.acked.length ≤ 5000
theorem sAt_bounds (G : Got) (hG : Small G) (i : Nat) (hi : i ≤ G.length) : 1 ≤ sAt 1 G i ∧ sAt 1 G i ≤ 1 + 20003 * (i : Int) := by
  induction i with
  | zero => simp [sAt]
  | succ i ih =>
    obtain ⟨h1, h2⟩ := ih (by omega)
    rw [sAt_succ 1 G i (by omega)]
    have := hG _ (List.getElem_mem (show i < G.length by omega))
    unfold nextS
    omega
end Go.Proofs.Ytincfdhfoaimbaa
