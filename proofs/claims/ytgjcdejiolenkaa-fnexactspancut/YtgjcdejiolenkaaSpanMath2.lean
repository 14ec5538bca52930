import Derived.Test.YtgjcdejiolenkaaSpanMath
namespace Go.Proofs.Ytgjcdejiolenkaa
set_option linter.unusedVariables false

/-! ### Points in rising order, each once -/
def ins (x : Int) : List Int → List Int
  | [] => [x]
  | y :: r => if x ≤ y then (if x = y then y :: r else x :: y :: r) else y :: ins x r

theorem mem_ins {x z : Int} {l : List Int} : z ∈ ins x l ↔ z = x ∨ z ∈ l := by
  induction l with
  | nil => simp [ins]
  | cons y r ih =>
    unfold ins
    split
    · split
      · subst_vars; simp
      · simp
    · simp [ih]; constructor
      · rintro (h | h | h) <;> simp [h]
      · rintro (h | h | h) <;> simp [h]

def Rising : List Int → Prop
  | [] => True
  | x :: r => (∀ y ∈ r, x < y) ∧ Rising r

theorem rising_ins {x : Int} {l : List Int} (h : Rising l) : Rising (ins x l) := by
  induction l with
  | nil => simp [ins, Rising]
  | cons y r ih =>
    unfold ins
    split
    · split
      · exact h
      · refine ⟨?_, h⟩
        intro z hz
        rcases List.mem_cons.1 hz with rfl | hz
        · omega
        · have := h.1 z hz; omega
    · refine ⟨?_, ih h.2⟩
      intro z hz
      rcases mem_ins.1 hz with rfl | hz
      · omega
      · exact h.1 z hz

/-- Nothing of l is as great as x: x comes behind it. -/
theorem ins_behind {x : Int} {l : List Int} (h : ∀ y ∈ l, y < x) : ins x l = l ++ [x] := by
  induction l with
  | nil => rfl
  | cons y r ih =>
    unfold ins
    rw [if_neg (by have := h y (by simp); omega), ih (fun z hz => h z (by simp [hz]))]
    rfl
/-- The first that is as great stands behind l. -/
theorem ins_at {x y : Int} {l : List Int} (h : ∀ z ∈ l, z < x) (hy : x ≤ y) : ins x (l ++ [y]) = if x = y then l ++ [y] else l ++ [x, y] := by
  induction l with
  | nil => simp [ins, hy]
  | cons z r ih =>
    have hz := h z (by simp)
    simp only [List.cons_append]
    unfold ins
    rw [if_neg (by omega), ih (fun u hu => h u (by simp [hu]))]
    split <;> rfl
/-- One that is as great stands in l. -/
theorem ins_past {x y : Int} {l : List Int} (h : ∃ z ∈ l, x ≤ z) : ins x (l ++ [y]) = ins x l ++ [y] := by
  induction l with
  | nil => simp at h
  | cons z r ih =>
    simp only [List.cons_append]
    unfold ins
    by_cases hz : x ≤ z
    · rw [if_pos hz, if_pos hz]
      split <;> rfl
    · rw [if_neg hz, if_neg hz]
      obtain ⟨u, hu, hxu⟩ := h
      rcases List.mem_cons.1 hu with rfl | hu
      · omega
      · rw [ih ⟨u, hu, hxu⟩]
        rfl
theorem length_ins (x : Int) (l : List Int) : (ins x l).length ≤ l.length + 1 := by
  induction l with
  | nil => simp [ins]
  | cons y r ih =>
    unfold ins
    split
    · split <;> simp
    · simp; omega

def ends (S : List (Int × Int)) : List Int := S.flatMap fun p => [p.1, p.2]
def pointsOf (all : List Int) : List Int := all.foldl (fun o x => ins x o) []

theorem pointsOf_snoc (all : List Int) (x : Int) : pointsOf (all ++ [x]) = ins x (pointsOf all) := by simp [pointsOf]
theorem mem_pointsOf {all : List Int} {z : Int} : z ∈ pointsOf all ↔ z ∈ all := by
  have gen : ∀ (l o : List Int), z ∈ l.foldl (fun o x => ins x o) o ↔ z ∈ o ∨ z ∈ l := by
    intro l
    induction l with
    | nil => simp
    | cons x r ih =>
      intro o
      simp only [List.foldl_cons, ih, mem_ins, List.mem_cons]
      constructor
      · rintro ((h | h) | h) <;> simp [h]
      · rintro (h | h | h) <;> simp [h]
  simpa [pointsOf] using gen all []
theorem rising_pointsOf (all : List Int) : Rising (pointsOf all) := by
  have gen : ∀ (l o : List Int), Rising o → Rising (l.foldl (fun o x => ins x o) o) := by
    intro l
    induction l with
    | nil => intro o h; exact h
    | cons x r ih => intro o h; exact ih _ (rising_ins h)
  exact gen all [] trivial
theorem length_pointsOf (all : List Int) : (pointsOf all).length ≤ all.length := by
  have gen : ∀ (l o : List Int), (l.foldl (fun o x => ins x o) o).length ≤ o.length + l.length := by
    intro l
    induction l with
    | nil => simp
    | cons x r ih =>
      intro o
      have := ih (ins x o)
      have := length_ins x o
      simp only [List.foldl_cons, List.length_cons]
      omega
  simpa [pointsOf] using gen all []

theorem Rising.lt {P : List Int} (h : Rising P) {i j : Nat} (hij : i < j) (hj : j < P.length) : P[i]'(by omega) < P[j] := by
  induction P generalizing i j with
  | nil => simp at hj
  | cons p r ih =>
    cases j with
    | zero => omega
    | succ j =>
      cases i with
      | zero => exact h.1 _ (by simp)
      | succ i => exact ih h.2 (by omega) (by simpa using hj)

/-! ### Membership as a Bool -/
def inB (x : Int) (S : List (Int × Int)) : Bool := S.any fun p => decide (p.1 ≤ x) && decide (x < p.2)
theorem inB_iff {x : Int} {S : List (Int × Int)} : inB x S = true ↔ In x S := by simp [inB, In]
theorem inB_snoc (x : Int) (A : List (Int × Int)) (p : Int × Int) : inB x (A ++ [p]) = (inB x A || (decide (p.1 ≤ x) && decide (x < p.2))) := by simp [inB]

/-! ### Stretches -/
/-- A stretch more at the end: it joins the last span where they touch. -/
def addOn (out : List (Int × Int)) (lo hi : Int) : List (Int × Int) :=
  match out.getLast? with
  | some p => if p.2 = lo then out.dropLast ++ [(p.1, hi)] else out ++ [(lo, hi)]
  | none => [(lo, hi)]

def buildTo (P : List Int) (pass : Int → Bool) : Nat → List (Int × Int)
  | 0 => []
  | k + 1 => if pass (P.getD k 0) then addOn (buildTo P pass k) (P.getD k 0) (P.getD (k + 1) 0) else buildTo P pass k

theorem addOn_cases (out : List (Int × Int)) (lo hi : Int) : (out = [] ∧ addOn out lo hi = [(lo, hi)]) ∨ (∃ A p, out = A ++ [p] ∧ ((p.2 = lo ∧ addOn out lo hi = A ++ [(p.1, hi)]) ∨ (p.2 ≠ lo ∧ addOn out lo hi = A ++ [p] ++ [(lo, hi)]))) := by
  rcases List.eq_nil_or_concat out with h | ⟨A, p, h⟩
  · left; subst h; exact ⟨rfl, rfl⟩
  · right
    rw [List.concat_eq_append] at h
    refine ⟨A, p, h, ?_⟩
    subst h
    unfold addOn
    simp only [List.getLast?_append, List.getLast?_singleton, Option.some_or, List.dropLast_concat]
    by_cases e : p.2 = lo
    · left; exact ⟨e, by simp [e]⟩
    · right; exact ⟨e, by simp [e]⟩

theorem addOn_norm {out : List (Int × Int)} {lo hi : Int} (h : Norm out) (hle : ∀ p ∈ out, p.2 ≤ lo) (hlt : lo < hi) : Norm (addOn out lo hi) ∧ (∀ p ∈ addOn out lo hi, p.2 ≤ hi) ∧ ∀ x, In x (addOn out lo hi) ↔ In x out ∨ (lo ≤ x ∧ x < hi) := by
  rcases addOn_cases out lo hi with ⟨h0, h1⟩ | ⟨A, p, h0, ⟨e, h1⟩ | ⟨e, h1⟩⟩
  · rw [h1, h0]
    refine ⟨by simp [Norm]; exact hlt, by simp, fun x => by rw [in_one]; simp [in_nil]⟩
  · rw [h1]
    subst h0
    have hn := norm_snoc.1 h
    refine ⟨norm_snoc.2 ⟨hn.1, by show p.1 < hi; have := hn.2.1; omega, hn.2.2⟩, ?_, fun x => ?_⟩
    · intro q hq
      rcases List.mem_append.1 hq with hq | hq
      · have := hle q (by simp [hq]); omega
      · simp at hq; subst hq; exact Int.le_refl _
    · rw [in_append, in_append, in_one, in_one]
      have := hn.2.1
      constructor
      · rintro (h | ⟨h, h'⟩)
        · exact .inl (.inl h)
        · by_cases hx : x < p.2
          · exact .inl (.inr ⟨h, hx⟩)
          · exact .inr ⟨by omega, h'⟩
      · rintro ((h | ⟨h, h'⟩) | ⟨h, h'⟩)
        · exact .inl h
        · exact .inr ⟨h, by show x < hi; omega⟩
        · exact .inr ⟨by show p.1 ≤ x; omega, h'⟩
  · rw [h1]
    subst h0
    refine ⟨norm_snoc.2 ⟨h, hlt, fun q hq => ?_⟩, ?_, fun x => ?_⟩
    · have := hle q hq
      by_cases hp : q = p
      · subst hp; show q.2 < lo; omega
      · have hqA : q ∈ A := by
          rcases List.mem_append.1 hq with hq | hq
          · exact hq
          · simp at hq; exact absurd hq hp
        have h2 := (norm_snoc.1 h).2.2 q hqA
        have h3 := (norm_snoc.1 h).2.1
        have h4 := hle p (by simp)
        show q.2 < lo
        omega
    · intro q hq
      rcases List.mem_append.1 hq with hq | hq
      · have := hle q hq; omega
      · simp at hq; subst hq; exact Int.le_refl _
    · rw [in_append, in_one]

/-- What has been built behind k stretches. -/
theorem buildTo_norm {P : List Int} {pass : Int → Bool} (hP : Rising P) (k : Nat) (hk : k < P.length) :
    Norm (buildTo P pass k) ∧ (∀ p ∈ buildTo P pass k, p.2 ≤ P.getD k 0) ∧ ∀ x, In x (buildTo P pass k) ↔ ∃ i, i < k ∧ P.getD i 0 ≤ x ∧ x < P.getD (i + 1) 0 ∧ pass (P.getD i 0) = true := by
  induction k with
  | zero => exact ⟨trivial, by simp [buildTo], fun x => by simp [buildTo, in_nil]⟩
  | succ k ih =>
    obtain ⟨h1, h2, h3⟩ := ih (by omega)
    have hlt : P.getD k 0 < P.getD (k + 1) 0 := by
      have := hP.lt (i := k) (j := k + 1) (by omega) hk
      simpa [hk, show k < P.length by omega] using this
    unfold buildTo
    by_cases hp : pass (P.getD k 0) = true
    · rw [if_pos hp]
      obtain ⟨g1, g2, g3⟩ := addOn_norm h1 h2 hlt
      refine ⟨g1, g2, fun x => ?_⟩
      rw [g3, h3]
      constructor
      · rintro (⟨i, hi, a, b, c⟩ | ⟨a, b⟩)
        · exact ⟨i, by omega, a, b, c⟩
        · exact ⟨k, by omega, a, b, hp⟩
      · rintro ⟨i, hi, a, b, c⟩
        by_cases e : i = k
        · subst e; exact .inr ⟨a, b⟩
        · exact .inl ⟨i, by omega, a, b, c⟩
    · rw [if_neg hp]
      refine ⟨h1, fun p hpp => by have := h2 p hpp; omega, fun x => ?_⟩
      rw [h3]
      constructor
      · rintro ⟨i, hi, a, b, c⟩
        exact ⟨i, by omega, a, b, c⟩
      · rintro ⟨i, hi, a, b, c⟩
        by_cases e : i = k
        · subst e; exact absurd c hp
        · exact ⟨i, by omega, a, b, c⟩
end Go.Proofs.Ytgjcdejiolenkaa
