import Derived.Test.YtincfdhfoaimbaaBase
namespace Go.Proofs.Ytincfdhfoaimbaa
set_option linter.unusedVariables false

/-- How a sender is set up. -/
structure Cf where
  isn : Int
  win : Int
  rto : Int
  mrto : Int
  da : Int
  pe : Int
/-- It may be set up so. -/
abbrev Cf.Ok (c : Cf) : Prop := 1 ≤ c.win ∧ c.win ≤ 16 ∧ 1 ≤ c.rto ∧ c.rto ≤ 50 ∧ c.rto ≤ c.mrto ∧ c.mrto ≤ 400 ∧ 1 ≤ c.da ∧ c.da ≤ 8 ∧ 1 ≤ c.pe ∧ c.pe ≤ 50
/-- What a sender knows: how many frames are through, the tags of those that are not, its clocks. -/
structure St where
  done : Nat
  tags : List Int
  timer : Int
  rto : Int
  count : Int
  probe : Int
  dead : Int
/-- What comes of an event. -/
structure Ot where
  code : Int
  frames : List (Int × Int × Int)
  acked : List Int
  died : Int
  revived : Int
/-- The number of the i-th frame of all. -/
def seqOf (c : Cf) (i : Nat) : Int := (c.isn + i) % 4294967296
/-- All that is outstanding, once more. -/
def againF (c : Cf) (done : Nat) (tags : List Int) : List (Int × Int × Int) := tags.mapIdx fun i t => (2, seqOf c (done + i), t)
def startF (c : Cf) : St := ⟨0, [], 0, c.rto, 0, 0, 0⟩
def restartF (c : Cf) (s : St) : St := { s with rto := c.rto, count := 0, timer := if s.tags = [] then 0 else c.rto }
def sendF (c : Cf) (s : St) (t : Int) : Ot × St :=
  if s.dead = 1 then (⟨10, [], [], 0, 0⟩, s)
  else if c.win ≤ s.tags.length then (⟨9, [], [], 0, 0⟩, s)
  else (⟨0, [(1, seqOf c (s.done + s.tags.length), t)], [], 0, 0⟩, { s with tags := s.tags ++ [t], timer := if s.timer = 0 then s.rto else s.timer })
/-- How many frames an acknowledgement takes away. -/
def farF (c : Cf) (s : St) (seq : Int) : Nat := ((seq - seqOf c s.done) % 4294967296).toNat
/-- Without the oldest k frames. -/
def cutF (s : St) (k : Nat) : St := { s with done := s.done + k, tags := s.tags.drop k }
def hearF (c : Cf) (s : St) (seq : Int) : Ot × St :=
  if s.tags.length < farF c s seq then (⟨11, [], [], 0, 0⟩, s)
  else if s.dead = 1 then (⟨0, againF c (s.done + farF c s seq) (s.tags.drop (farF c s seq)), s.tags.take (farF c s seq), 0, 1⟩, restartF c { cutF s (farF c s seq) with dead := 0, probe := 0 })
  else if 0 < farF c s seq then (⟨0, [], s.tags.take (farF c s seq), 0, 0⟩, restartF c (cutF s (farF c s seq)))
  else (⟨0, [], [], 0, 0⟩, s)
def tickF (c : Cf) (s : St) : Ot × St :=
  if s.dead = 1 then
    if 0 < s.probe - 1 then (⟨0, [], [], 0, 0⟩, { s with probe := s.probe - 1 })
    else (⟨0, [(3, seqOf c s.done, 0)], [], 0, 0⟩, { s with probe := c.pe })
  else if s.timer = 0 then (⟨0, [], [], 0, 0⟩, s)
  else if 0 < s.timer - 1 then (⟨0, [], [], 0, 0⟩, { s with timer := s.timer - 1 })
  else if c.da ≤ s.count + 1 then (⟨0, [], [], 1, 0⟩, { s with timer := 0, count := s.count + 1, dead := 1, probe := c.pe })
  else (⟨0, againF c s.done s.tags, [], 0, 0⟩, { s with count := s.count + 1, rto := min (2 * s.rto) c.mrto, timer := min (2 * s.rto) c.mrto })
/-- kind, tag, number. -/
def stepF (c : Cf) (s : St) (e : Int × Int × Int) : Ot × St :=
  if e.1 = 1 then sendF c s e.2.1
  else if e.1 = 2 then hearF c s e.2.2
  else if e.1 = 3 then tickF c s
  else (⟨1, [], [], 0, 0⟩, s)
def stAt (c : Cf) (es : List (Int × Int × Int)) : St := es.foldl (fun s e => (stepF c s e).2) (startF c)
def outsF (c : Cf) : St → List (Int × Int × Int) → List Ot
  | _, [] => []
  | s, e :: es => (stepF c s e).1 :: outsF c (stepF c s e).2 es

/-- What holds of a sender all the time, behind k events. -/
structure Good (c : Cf) (s : St) (k : Nat) : Prop where
  all : s.done + s.tags.length ≤ k
  win : (s.tags.length : Int) ≤ c.win
  t0 : 0 ≤ s.timer
  t1 : s.timer ≤ 400
  r0 : 1 ≤ s.rto
  r1 : s.rto ≤ 400
  c0 : 0 ≤ s.count
  c1 : s.count ≤ c.da
  p0 : 0 ≤ s.probe
  p1 : s.probe ≤ 50
  d : s.dead = 0 ∨ s.dead = 1
  live : s.dead = 0 → s.count < c.da
  gone : s.dead = 1 → 1 ≤ s.probe

theorem good_start (c : Cf) (h : c.Ok) : Good c (startF c) 0 := by
  unfold Cf.Ok at h
  constructor <;> simp [startF] <;> omega
theorem Good.mono {c : Cf} {s : St} {k m : Nat} (h : Good c s k) (hk : k ≤ m) : Good c s m := { h with all := Nat.le_trans h.all hk }
theorem good_restart {c : Cf} (hc : c.Ok) {s : St} {k : Nat} (ha : s.done + s.tags.length ≤ k) (hw : (s.tags.length : Int) ≤ c.win) (p0 : 0 ≤ s.probe) (p1 : s.probe ≤ 50) (hd : s.dead = 0) : Good c (restartF c s) k := by
  unfold Cf.Ok at hc
  constructor <;> simp only [restartF] <;> try omega
  all_goals (split <;> omega)
theorem good_cut {c : Cf} {s : St} {k j : Nat} (h : Good c s k) (hj : j ≤ s.tags.length) : Good c (cutF s j) k := by
  have := h.all
  have := h.win
  exact { h with all := by simp [cutF]; omega, win := by simp [cutF]; omega }
theorem good_step {c : Cf} (hc : c.Ok) {s : St} {k : Nat} (h : Good c s k) (e : Int × Int × Int) : Good c (stepF c s e).2 (k + 1) := by
  have hc' := hc
  unfold Cf.Ok at hc'
  have h0 := h.mono (Nat.le_succ k)
  have a1 := h.all
  have a2 := h.win
  have a3 := h.t0
  have a4 := h.t1
  have a5 := h.r0
  have a6 := h.r1
  have a7 := h.c0
  have a8 := h.c1
  have a9 := h.p0
  have b1 := h.p1
  have b2 := h.d
  have b3 := h.live
  have b4 := h.gone
  unfold stepF
  split
  · unfold sendF
    split
    · exact h0
    split
    · exact h0
    · constructor <;> simp only [List.length_append, List.length_singleton] <;> try omega
      all_goals (split <;> omega)
  split
  · unfold hearF
    split
    · exact h0
    split
    · exact good_restart hc (good_cut h0 (j := farF c s e.2.2) (by omega)).all (good_cut h0 (j := farF c s e.2.2) (by omega)).win (by simp) (by simp) rfl
    split
    · exact good_restart hc (good_cut h0 (j := farF c s e.2.2) (by omega)).all (good_cut h0 (j := farF c s e.2.2) (by omega)).win a9 b1 (by simp [cutF]; omega)
    · exact h0
  split
  · unfold tickF
    split
    · split
      · exact { h0 with p0 := by simp; omega, p1 := by simp; omega, gone := fun _ => by simp; omega }
      · exact { h0 with p0 := by simp; omega, p1 := by simp; omega, gone := fun _ => by simp; omega }
    split
    · exact h0
    split
    · exact { h0 with t0 := by simp; omega, t1 := by simp; omega }
    split
    · exact { h0 with t0 := by simp, t1 := by simp, c0 := by simp; omega, c1 := by simp; omega, p0 := by simp; omega, p1 := by simp; omega, d := .inr rfl, live := by simp, gone := fun _ => by simp; omega }
    · exact { h0 with t0 := by simp; omega, t1 := by simp; omega, r0 := by simp; omega, r1 := by simp; omega, c0 := by simp; omega, c1 := by simp; omega, live := fun _ => by simp; omega }
  · exact h0
theorem stAt_snoc (c : Cf) (es : List (Int × Int × Int)) (e : Int × Int × Int) : stAt c (es ++ [e]) = (stepF c (stAt c es) e).2 := by simp [stAt]
theorem good_at {c : Cf} (hc : c.Ok) (es : List (Int × Int × Int)) : Good c (stAt c es) es.length := by
  suffices h : ∀ (es : List (Int × Int × Int)) (s : St) (k : Nat), Good c s k → Good c (es.foldl (fun s e => (stepF c s e).2) s) (k + es.length) by
    have := h es (startF c) 0 (good_start c hc)
    rwa [Nat.zero_add] at this
  intro es
  induction es with
  | nil => intro s k h; exact h
  | cons e es ih =>
    intro s k h
    have := ih _ (k + 1) (good_step hc h e)
    rw [List.length_cons, show k + (es.length + 1) = k + 1 + es.length by omega]
    exact this
theorem stAt_take (c : Cf) (es : List (Int × Int × Int)) (k : Nat) (h : k < es.length) : stAt c (es.take (k + 1)) = (stepF c (stAt c (es.take k)) (es.getD k (0, 0, 0))).2 := by
  rw [List.take_succ_eq_append_getElem h, stAt_snoc]
  simp [h]
theorem outsF_snoc (c : Cf) (es : List (Int × Int × Int)) (e : Int × Int × Int) : ∀ s, outsF c s (es ++ [e]) = outsF c s es ++ [(stepF c (es.foldl (fun s e => (stepF c s e).2) s) e).1] := by
  induction es with
  | nil => intro s; rfl
  | cons x es ih => intro s; simp [outsF, ih]
theorem outsF_take (c : Cf) (es : List (Int × Int × Int)) (k : Nat) (h : k < es.length) : outsF c (startF c) (es.take (k + 1)) = outsF c (startF c) (es.take k) ++ [(stepF c (stAt c (es.take k)) (es.getD k (0, 0, 0))).1] := by
  rw [List.take_succ_eq_append_getElem h, outsF_snoc]
  simp [h, stAt]
theorem outsF_length (c : Cf) (es : List (Int × Int × Int)) : ∀ s, (outsF c s es).length = es.length := by
  induction es with
  | nil => intro s; rfl
  | cons x es ih => intro s; simp [outsF, ih]
end Go.Proofs.Ytincfdhfoaimbaa
