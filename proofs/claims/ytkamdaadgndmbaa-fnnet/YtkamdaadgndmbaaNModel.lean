import Derived.Test.YtkamdaadgndmbaaRows1
namespace Go.Proofs.Ytkamdaadgndmbaa
set_option linter.unusedVariables false

/-! ### The network as plain lists -/
structure NEv where
  kd : Int
  pa : Int
  di : Int
  ix : Int
  dat : List Int
structure NOut where
  code : Int
  dat : List Int
/-- The paths that are cut, and what is in flight. -/
structure NS where
  cut : Int → Int
  bag : Int → Int → List (List Int)
def startN : NS := ⟨fun _ => 0, fun _ _ => []⟩
def NS.put (s : NS) (p d : Int) (l : List (List Int)) : NS := ⟨s.cut, fun p' d' => if p' = p ∧ d' = d then l else s.bag p' d'⟩
def NS.cutOff (s : NS) (p : Int) : NS := ⟨fun p' => if p' = p then 1 else s.cut p', fun p' d => if p' = p then [] else s.bag p' d⟩
def NS.up (s : NS) (p : Int) : NS := ⟨fun p' => if p' = p then 0 else s.cut p', s.bag⟩
def sendN (s : NS) (e : NEv) : NOut × NS :=
  if 64 < e.dat.length then (⟨2, []⟩, s)
  else if s.cut e.pa = 1 then (⟨8, []⟩, s)
  else if 64 ≤ (s.bag e.pa e.di).length then (⟨9, []⟩, s)
  else (⟨0, []⟩, s.put e.pa e.di (s.bag e.pa e.di ++ [e.dat]))
def handleN (s : NS) (e : NEv) : NOut × NS :=
  if e.ix < 0 ∨ ((s.bag e.pa e.di).length : Int) ≤ e.ix then (⟨7, []⟩, s)
  else if e.kd = 2 then (⟨0, (s.bag e.pa e.di).getD e.ix.toNat []⟩, s.put e.pa e.di ((s.bag e.pa e.di).eraseIdx e.ix.toNat))
  else if e.kd = 3 then (⟨0, []⟩, s.put e.pa e.di ((s.bag e.pa e.di).eraseIdx e.ix.toNat))
  else if 64 ≤ (s.bag e.pa e.di).length then (⟨9, []⟩, s)
  else (⟨0, []⟩, s.put e.pa e.di (s.bag e.pa e.di ++ [(s.bag e.pa e.di).getD e.ix.toNat []]))
def stepN (n : Int) (s : NS) (e : NEv) : NOut × NS :=
  if e.kd < 1 ∨ 6 < e.kd then (⟨1, []⟩, s)
  else if e.pa < 0 ∨ n ≤ e.pa then (⟨6, []⟩, s)
  else if e.kd = 5 then (⟨0, []⟩, s.cutOff e.pa)
  else if e.kd = 6 then (⟨0, []⟩, s.up e.pa)
  else if e.di ≠ 0 ∧ e.di ≠ 1 then (⟨1, []⟩, s)
  else if e.kd = 1 then sendN s e
  else handleN s e
def outsN (n : Int) : NS → List NEv → List NOut
  | _, [] => []
  | s, e :: es => (stepN n s e).1 :: outsN n (stepN n s e).2 es
def stateN (n : Int) (es : List NEv) : NS := es.foldl (fun s e => (stepN n s e).2) startN
/-- What is always so. -/
structure InvN (s : NS) : Prop where
  cut : ∀ p, s.cut p = 0 ∨ s.cut p = 1
  len : ∀ p d, (s.bag p d).length ≤ 64
  dat : ∀ p d, ∀ y ∈ s.bag p d, y.length ≤ 64 ∧ ∀ v ∈ y, 0 ≤ v ∧ v ≤ 255
theorem invN_start : InvN startN := ⟨fun _ => .inl rfl, fun _ _ => by simp [startN], fun _ _ y hy => by simp [startN] at hy⟩
theorem InvN.put {s : NS} (h : InvN s) {p d : Int} {l : List (List Int)} (hl : l.length ≤ 64) (hd : ∀ y ∈ l, y.length ≤ 64 ∧ ∀ v ∈ y, 0 ≤ v ∧ v ≤ 255) : InvN (s.put p d l) := by
  refine ⟨h.cut, fun p' d' => ?_, fun p' d' y hy => ?_⟩
  · simp only [NS.put]; split
    · exact hl
    · exact h.len _ _
  · simp only [NS.put] at hy; split at hy
    · exact hd y hy
    · exact h.dat _ _ y hy
theorem getD_mem_or {α : Type} (l : List α) (i : Nat) (d : α) : l.getD i d ∈ l ∨ l.getD i d = d := by
  rw [List.getD_eq_getElem?_getD]
  by_cases h : i < l.length
  · rw [List.getElem?_eq_getElem h]; exact .inl (List.getElem_mem h)
  · rw [List.getElem?_eq_none (by omega)]; exact .inr rfl
theorem InvN.get {s : NS} (h : InvN s) (p d : Int) (i : Nat) : ((s.bag p d).getD i []).length ≤ 64 ∧ ∀ v ∈ (s.bag p d).getD i [], 0 ≤ v ∧ v ≤ 255 := by
  rcases getD_mem_or (s.bag p d) i [] with h1 | h1
  · exact h.dat p d _ h1
  · rw [h1]; simp
theorem invN_step {n : Int} {s : NS} (h : InvN s) (e : NEv) (hd : ∀ v ∈ e.dat, 0 ≤ v ∧ v ≤ 255) : InvN (stepN n s e).2 ∧ ((stepN n s e).1.dat.length ≤ 64 ∧ ∀ v ∈ (stepN n s e).1.dat, 0 ≤ v ∧ v ≤ 255) := by
  have he : ∀ i, ∀ y ∈ (s.bag e.pa e.di).eraseIdx i, y.length ≤ 64 ∧ ∀ v ∈ y, 0 ≤ v ∧ v ≤ 255 := fun i y hy => h.dat _ _ y (List.mem_of_mem_eraseIdx hy)
  have hel : ∀ i, ((s.bag e.pa e.di).eraseIdx i).length ≤ 64 := fun i => by have := h.len e.pa e.di; rw [List.length_eraseIdx]; split <;> omega
  have hg := h.get e.pa e.di e.ix.toNat
  unfold stepN
  split
  · exact ⟨h, by simp⟩
  split
  · exact ⟨h, by simp⟩
  split
  · refine ⟨⟨fun p => ?_, fun p d => ?_, fun p d y hy => ?_⟩, by simp⟩
    · simp only [NS.cutOff]; split
      · exact .inr rfl
      · exact h.cut p
    · simp only [NS.cutOff]; split
      · simp
      · exact h.len p d
    · simp only [NS.cutOff] at hy; split at hy
      · simp at hy
      · exact h.dat p d y hy
  split
  · refine ⟨⟨fun p => ?_, h.len, h.dat⟩, by simp⟩
    simp only [NS.up]; split
    · exact .inl rfl
    · exact h.cut p
  split
  · exact ⟨h, by simp⟩
  split
  · unfold sendN
    split
    · exact ⟨h, by simp⟩
    split
    · exact ⟨h, by simp⟩
    split
    · exact ⟨h, by simp⟩
    · refine ⟨h.put (by simp; omega) fun y hy => ?_, by simp⟩
      rcases List.mem_append.1 hy with hy | hy
      · exact h.dat _ _ y hy
      · simp at hy; subst hy; exact ⟨by omega, hd⟩
  · unfold handleN
    split
    · exact ⟨h, by simp⟩
    split
    · exact ⟨h.put (hel _) (he _), hg⟩
    split
    · exact ⟨h.put (hel _) (he _), by simp⟩
    split
    · exact ⟨h, by simp⟩
    · refine ⟨h.put (by simp; omega) fun y hy => ?_, by simp⟩
      rcases List.mem_append.1 hy with hy | hy
      · exact h.dat _ _ y hy
      · simp at hy; subst hy; exact hg
theorem stateN_take (n : Int) (es : List NEv) (k : Nat) (h : k < es.length) : stateN n (es.take (k + 1)) = (stepN n (stateN n (es.take k)) (es[k])).2 := by
  rw [stateN, List.take_succ_eq_append_getElem h, List.foldl_append]
  rfl
theorem outsN_snoc (n : Int) (es : List NEv) (e : NEv) : ∀ s, outsN n s (es ++ [e]) = outsN n s es ++ [(stepN n (es.foldl (fun s e => (stepN n s e).2) s) e).1] := by
  induction es with
  | nil => intro s; rfl
  | cons x es ih => intro s; simp [outsN, ih]
theorem outsN_take (n : Int) (es : List NEv) (k : Nat) (h : k < es.length) : outsN n startN (es.take (k + 1)) = outsN n startN (es.take k) ++ [(stepN n (stateN n (es.take k)) (es[k])).1] := by
  rw [List.take_succ_eq_append_getElem h, outsN_snoc]
  rfl
theorem outsN_length (n : Int) (es : List NEv) : ∀ s, (outsN n s es).length = es.length := by
  induction es with
  | nil => intro s; rfl
  | cons x es ih => intro s; simp [outsN, ih]
theorem invN_all (n : Int) (es : List NEv) (hd : ∀ e ∈ es, ∀ v ∈ e.dat, 0 ≤ v ∧ v ≤ 255) : ∀ s, InvN s → InvN (es.foldl (fun s e => (stepN n s e).2) s) ∧ ∀ o ∈ outsN n s es, o.dat.length ≤ 64 ∧ ∀ v ∈ o.dat, 0 ≤ v ∧ v ≤ 255 := by
  induction es with
  | nil => intro s h; exact ⟨h, by simp [outsN]⟩
  | cons x es ih =>
    intro s h
    have h1 := invN_step (n := n) h x (hd x (List.mem_cons_self ..))
    have h2 := ih (fun e he => hd e (List.mem_cons_of_mem _ he)) _ h1.1
    refine ⟨h2.1, fun o ho => ?_⟩
    simp only [outsN, List.mem_cons] at ho
    rcases ho with rfl | ho
    · exact h1.2
    · exact h2.2 o ho
end Go.Proofs.Ytkamdaadgndmbaa
