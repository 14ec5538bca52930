import Derived.Test.YtpeecjoadgefjaaBase
namespace Go.Proofs.Ytpeecjoadgefjaa
set_option linter.unusedVariables false

/-! ### The reorder buffer as a Lean function -/
/-- An event; an answer; a buffer of z places: what is held from read on, and the end where it is known. -/
structure REv where
  kd : Int
  off : Int
  dat : List Int
  n : Int
structure ROut where
  code : Int
  n : Int
  dat : List Int
structure RB where
  read : Int
  f : Int → Option Int
  hf : Int
  fin : Int
def upd (f : Int → Option Int) (x : Int) (v : Int) : Int → Option Int := fun y => if y = x then some v else f y
/-- The bytes of a piece, one behind the other; how many were new. -/
def putRun (read : Int) : Int → List Int → (Int → Option Int) → Int → Int × (Int → Option Int)
  | _, [], f, k => (k, f)
  | x, v :: r, f, k => if read ≤ x ∧ f x = none then putRun read (x + 1) r (upd f x v) (k + 1) else putRun read (x + 1) r f k
def putR (z : Int) (s : RB) (off : Int) (dat : List Int) : ROut × RB :=
  if dat.length < 1 ∨ 32 < dat.length then (⟨1, 0, []⟩, s)
  else if s.read + z < off ∨ s.read + z - off < dat.length then (⟨4, 0, []⟩, s)
  else if s.hf = 1 ∧ s.fin < off + dat.length then (⟨12, 0, []⟩, s)
  else (⟨0, (putRun s.read off dat s.f 0).1, []⟩, { s with f := (putRun s.read off dat s.f 0).2 })
/-- How many are held without a gap from x on, k places at most. -/
def runLen (f : Int → Option Int) : Nat → Int → Nat
  | 0, _ => 0
  | k + 1, x => if (f x).isSome then runLen f k (x + 1) + 1 else 0
def bytesAt (f : Int → Option Int) (x : Int) (k : Nat) : List Int := (List.range k).map fun (i : Nat) => (f (x + i)).getD 0
def takeN (z : Nat) (s : RB) (n : Int) : Nat := min n.toNat (runLen s.f z s.read)
def takeR (z : Nat) (s : RB) (n : Int) : ROut × RB :=
  if takeN z s n = 0 ∧ s.hf = 1 ∧ s.read = s.fin then (⟨15, 0, []⟩, s)
  else (⟨0, takeN z s n, bytesAt s.f s.read (takeN z s n)⟩, { s with read := s.read + takeN z s n, f := fun x => if x < s.read + takeN z s n then none else s.f x })
/-- Whether any of k places from x on is held. -/
def holdsB (f : Int → Option Int) : Nat → Int → Bool
  | 0, _ => false
  | k + 1, x => (f x).isSome || holdsB f k (x + 1)
def endR (z : Int) (s : RB) (off : Int) : ROut × RB :=
  if s.hf = 1 ∧ s.fin ≠ off then (⟨12, 0, []⟩, s)
  else if off < s.read ∨ holdsB s.f (s.read + z - off).toNat off = true then (⟨12, 0, []⟩, s)
  else if s.read + z < off then (⟨4, 0, []⟩, s)
  else (⟨0, 0, []⟩, { s with hf := 1, fin := off })
def stepR (z : Nat) (s : RB) (e : REv) : ROut × RB :=
  if e.kd = 1 then putR z s e.off e.dat
  else if e.kd = 2 then takeR z s e.n
  else if e.kd = 3 then endR z s e.off
  else (⟨1, 0, []⟩, s)
def startR (x : Int) : RB := ⟨x, fun _ => none, 0, 0⟩
def stateR (z : Nat) (x : Int) (es : List REv) : RB := es.foldl (fun s e => (stepR z s e).2) (startR x)
def outsR (z : Nat) (s : RB) : List REv → List ROut
  | [] => []
  | e :: r => (stepR z s e).1 :: outsR z (stepR z s e).2 r

/-- What always holds of a buffer that began at x and took m events. -/
structure RInv (x : Int) (z : Nat) (m : Nat) (s : RB) : Prop where
  lo : x ≤ s.read
  hi : s.read ≤ x + m * z
  at_ : ∀ t v, s.f t = some v → s.read ≤ t ∧ t < s.read + z ∧ 0 ≤ v ∧ v ≤ 255
  hf : s.hf = 0 ∨ s.hf = 1
  f0 : 0 ≤ s.fin
  f1 : s.fin ≤ x + m * z + z

theorem runLen_le (f : Int → Option Int) : ∀ k x, runLen f k x ≤ k := by
  intro k
  induction k with
  | zero => intro x; simp [runLen]
  | succ k ih =>
    intro x
    unfold runLen
    split
    · have := ih (x + 1); omega
    · omega
theorem runLen_held (f : Int → Option Int) : ∀ k x i, i < runLen f k x → (f (x + i)).isSome = true := by
  intro k
  induction k with
  | zero => intro x i h; simp [runLen] at h
  | succ k ih =>
    intro x i h
    unfold runLen at h
    split at h
    · cases i with
      | zero => simpa using ‹_›
      | succ i =>
        have := ih (x + 1) i (by omega)
        rw [show x + ((i + 1 : Nat) : Int) = x + 1 + (i : Int) by omega]
        exact this
    · omega
theorem putRun_at {read x : Int} {z : Nat} {dat : List Int} : ∀ {f : Int → Option Int} {k : Int}, (∀ t v, f t = some v → read ≤ t ∧ t < read + z ∧ 0 ≤ v ∧ v ≤ 255) → (∀ v ∈ dat, 0 ≤ v ∧ v ≤ 255) → x + dat.length ≤ read + z → (∀ t v, (putRun read x dat f k).2 t = some v → read ≤ t ∧ t < read + z ∧ 0 ≤ v ∧ v ≤ 255) := by
  induction dat generalizing x with
  | nil => intro f k hf _ _; exact hf
  | cons a r ih =>
    intro f k hf hd hl
    simp only [List.length_cons] at hl
    unfold putRun
    split
    · rename_i h
      refine ih ?_ (fun v hv => hd v (List.mem_cons_of_mem _ hv)) (by omega)
      intro t v ht
      unfold upd at ht
      split at ht
      · rename_i e
        simp only [Option.some.injEq] at ht
        have := hd a (List.mem_cons_self ..)
        subst e ht
        exact ⟨h.1, by omega, this.1, this.2⟩
      · exact hf t v ht
    · exact ih hf (fun v hv => hd v (List.mem_cons_of_mem _ hv)) (by omega)
theorem rinv_start (x : Int) (z : Nat) (h : 0 ≤ x) : RInv x z 0 (startR x) := ⟨Int.le_refl _, by simp [startR], by intro t v h; simp [startR] at h, .inl rfl, by simp [startR], by simp [startR]; omega⟩
theorem RInv.more {x : Int} {z m : Nat} {s : RB} (h : RInv x z m s) : RInv x z (m + 1) s := by
  have e : ((m + 1 : Nat) : Int) * z = m * z + z := by rw [Int.natCast_add, Int.add_mul]; simp
  exact ⟨h.lo, by rw [e]; have := h.hi; omega, h.at_, h.hf, h.f0, by rw [e]; have := h.f1; omega⟩
theorem rinv_step {x : Int} {z m : Nat} {s : RB} (hx : 0 ≤ x) (h : RInv x z m s) (e : REv) (hd : ∀ v ∈ e.dat, 0 ≤ v ∧ v ≤ 255) : RInv x z (m + 1) (stepR z s e).2 := by
  have em : ((m + 1 : Nat) : Int) * z = m * z + z := by rw [Int.natCast_add, Int.add_mul]; simp
  have h0 := h.more
  unfold stepR
  split
  · unfold putR
    split
    · exact h0
    · split
      · exact h0
      · split
        · exact h0
        · rename_i h1 h2 h3
          refine ⟨h0.lo, h0.hi, ?_, h0.hf, h0.f0, h0.f1⟩
          exact putRun_at h.at_ hd (by omega)
  · split
    · unfold takeR
      split
      · exact h0
      · have hk : takeN z s e.n ≤ z := by unfold takeN; have := runLen_le s.f z s.read; omega
        refine ⟨?_, ?_, ?_, h0.hf, h0.f0, h0.f1⟩
        · have := h.lo; simp only; omega
        · have := h.hi; simp only; rw [em]; omega
        · intro t v ht
          simp only at ht
          split at ht
          · simp at ht
          · have := h.at_ t v ht
            simp only
            omega
    · split
      · unfold endR
        split
        · exact h0
        · split
          · exact h0
          · split
            · exact h0
            · rename_i h1 h2 h3
              refine ⟨h0.lo, h0.hi, h0.at_, .inr rfl, ?_, ?_⟩
              · have := h.lo; simp only; omega
              · have := h.hi; simp only; rw [em]; omega
      · exact h0
theorem rinv_at {x : Int} {z : Nat} (hx : 0 ≤ x) (es : List REv) (hd : ∀ e ∈ es, ∀ v ∈ e.dat, 0 ≤ v ∧ v ≤ 255) : RInv x z es.length (stateR z x es) := by
  have gen : ∀ (es : List REv) (m : Nat) (s : RB), RInv x z m s → (∀ e ∈ es, ∀ v ∈ e.dat, 0 ≤ v ∧ v ≤ 255) → RInv x z (m + es.length) (es.foldl (fun s e => (stepR z s e).2) s) := by
    intro es
    induction es with
    | nil => intro m s h _; simpa using h
    | cons e r ih =>
      intro m s h hd
      have h1 := rinv_step hx h e (hd e (List.mem_cons_self ..))
      have := ih (m + 1) _ h1 (fun e' he' => hd e' (List.mem_cons_of_mem _ he'))
      simp only [List.length_cons, List.foldl_cons]
      rw [show m + (r.length + 1) = m + 1 + r.length by omega]
      exact this
  have := gen es 0 (startR x) (rinv_start x z hx) hd
  simpa [stateR] using this
end Go.Proofs.Ytpeecjoadgefjaa
