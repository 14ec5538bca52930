import Derived.Test.YtgjcdejiolenkaaSpanMath2
namespace Go.Proofs.Ytgjcdejiolenkaa
set_option linter.unusedVariables false

theorem mem_ends {S : List (Int × Int)} {z : Int} : z ∈ ends S ↔ ∃ p ∈ S, z = p.1 ∨ z = p.2 := by simp [ends]

/-- The points of a set and a span. -/
def pts (S : List (Int × Int)) (s : Int × Int) : List Int := pointsOf (s.1 :: s.2 :: ends S)

theorem pts_lo (S : List (Int × Int)) (s : Int × Int) : s.1 ∈ pts S s := mem_pointsOf.2 (by simp)
theorem pts_hi (S : List (Int × Int)) (s : Int × Int) : s.2 ∈ pts S s := mem_pointsOf.2 (by simp)
theorem pts_end {S : List (Int × Int)} {s p : Int × Int} (h : p ∈ S) : p.1 ∈ pts S s ∧ p.2 ∈ pts S s :=
  ⟨mem_pointsOf.2 (by simp only [List.mem_cons]; exact .inr (.inr (mem_ends.2 ⟨p, h, .inl rfl⟩))), mem_pointsOf.2 (by simp only [List.mem_cons]; exact .inr (.inr (mem_ends.2 ⟨p, h, .inr rfl⟩)))⟩

/-- No point lies inside a stretch. -/
theorem stretch {P : List Int} (hP : Rising P) {i : Nat} (hi : i + 1 < P.length) {z : Int} (hz : z ∈ P) : z ≤ P.getD i 0 ∨ P.getD (i + 1) 0 ≤ z := by
  obtain ⟨j, hj, rfl⟩ := List.mem_iff_getElem.1 hz
  have e0 : P.getD i 0 = P[i] := by simp [show i < P.length by omega]
  have e1 : P.getD (i + 1) 0 = P[i + 1] := by simp [hi]
  rw [e0, e1]
  by_cases h : j ≤ i
  · left
    by_cases e : j = i
    · subst e; exact Int.le_refl _
    · have := hP.lt (i := j) (j := i) (by omega) (by omega); omega
  · right
    by_cases e : j = i + 1
    · subst e; exact Int.le_refl _
    · have := hP.lt (i := i + 1) (j := j) (by omega) hj; omega

/-- Between a point that is not above x and one that is, there is the stretch of x. -/
theorem stretch_of {P : List Int} (hP : Rising P) {x a b : Int} (ha : a ∈ P) (hb : b ∈ P) (h1 : a ≤ x) (h2 : x < b) : ∃ i, i + 1 < P.length ∧ P.getD i 0 ≤ x ∧ x < P.getD (i + 1) 0 := by
  induction P generalizing a with
  | nil => simp at ha
  | cons p r ih =>
    cases r with
    | nil => simp at ha hb; omega
    | cons q t =>
      by_cases hq : x < q
      · refine ⟨0, by simp, ?_, by simpa using hq⟩
        have : p ≤ x := by
          rcases List.mem_cons.1 ha with rfl | ha
          · exact h1
          · rcases List.mem_cons.1 ha with rfl | ha
            · omega
            · have := hP.2.1 a ha; omega
        simpa using this
      · have hb' : b ∈ q :: t := by
          rcases List.mem_cons.1 hb with rfl | hb
          · have := hP.1 q (by simp); omega
          · exact hb
        obtain ⟨i, hi, h3, h4⟩ := ih (a := q) hP.2 (by simp) hb' (by omega)
        exact ⟨i + 1, by simpa using hi, by simpa using h3, by simpa using h4⟩

/-- What is built of a set and a span by a test that says no outside both: just the offsets that pass. -/
theorem build_in (S : List (Int × Int)) (s : Int × Int) (f : Bool → Bool → Bool) (hf : f false false = false) :
    Norm (buildTo (pts S s) (fun x => f (inB x S) (inB x [s])) ((pts S s).length - 1)) ∧
    ∀ x, In x (buildTo (pts S s) (fun x => f (inB x S) (inB x [s])) ((pts S s).length - 1)) ↔ f (inB x S) (inB x [s]) = true := by
  have hP : Rising (pts S s) := rising_pointsOf _
  have hne : 0 < (pts S s).length := List.length_pos_of_mem (pts_lo S s)
  obtain ⟨h1, h2, h3⟩ := buildTo_norm (pass := fun x => f (inB x S) (inB x [s])) hP ((pts S s).length - 1) (by omega)
  refine ⟨h1, fun x => ?_⟩
  rw [h3]
  have same : ∀ i, i + 1 < (pts S s).length → (pts S s).getD i 0 ≤ x → x < (pts S s).getD (i + 1) 0 → inB ((pts S s).getD i 0) S = inB x S ∧ inB ((pts S s).getD i 0) [s] = inB x [s] := by
    intro i hi a b
    have key : ∀ z, z ∈ pts S s → (z ≤ (pts S s).getD i 0 ↔ z ≤ x) := by
      intro z hz
      rcases stretch hP hi hz with h | h
      · exact ⟨fun _ => by omega, fun _ => h⟩
      · exact ⟨fun _ => by omega, fun _ => by omega⟩
    constructor
    · rw [Bool.eq_iff_iff, inB_iff, inB_iff]
      unfold In
      constructor
      · rintro ⟨p, hp, u, v⟩
        have k1 := (key p.1 (pts_end hp).1).1 u
        have k2 := key p.2 (pts_end hp).2
        exact ⟨p, hp, k1, by omega⟩
      · rintro ⟨p, hp, u, v⟩
        have k1 := (key p.1 (pts_end hp).1).2 u
        have k2 := key p.2 (pts_end hp).2
        exact ⟨p, hp, k1, by omega⟩
    · rw [Bool.eq_iff_iff, inB_iff, inB_iff, in_one, in_one]
      have k1 := key s.1 (pts_lo S s)
      have k2 := key s.2 (pts_hi S s)
      omega
  constructor
  · rintro ⟨i, hi, a, b, c⟩
    obtain ⟨e1, e2⟩ := same i (by omega) a b
    rw [← e1, ← e2]
    exact c
  · intro hx
    have hxs : In x S ∨ In x [s] := by
      by_cases u : inB x S = true
      · exact .inl (inB_iff.1 u)
      · by_cases v : inB x [s] = true
        · exact .inr (inB_iff.1 v)
        · rw [Bool.not_eq_true] at u v
          rw [u, v, hf] at hx
          cases hx
    have hst : ∃ i, i + 1 < (pts S s).length ∧ (pts S s).getD i 0 ≤ x ∧ x < (pts S s).getD (i + 1) 0 := by
      rcases hxs with ⟨p, hp, u, v⟩ | h
      · exact stretch_of hP (pts_end hp).1 (pts_end hp).2 u v
      · rw [in_one] at h
        exact stretch_of hP (pts_lo S s) (pts_hi S s) h.1 h.2
    obtain ⟨i, hi, a, b⟩ := hst
    obtain ⟨e1, e2⟩ := same i hi a b
    refine ⟨i, by omega, a, b, ?_⟩
    show f (inB ((pts S s).getD i 0) S) (inB ((pts S s).getD i 0) [s]) = true
    rw [e1, e2]
    exact hx

/-- The four tests. -/
def f1 (a b : Bool) : Bool := a || b
def f2 (a b : Bool) : Bool := a && !b
def f3 (a b : Bool) : Bool := b && !a
def f4 (a b : Bool) : Bool := a && b
def built (f : Bool → Bool → Bool) (S : List (Int × Int)) (s : Int × Int) : List (Int × Int) := buildTo (pts S s) (fun x => f (inB x S) (inB x [s])) ((pts S s).length - 1)

/-- Whatever is a span set and has just the offsets that pass is what is built. -/
theorem built_is {f : Bool → Bool → Bool} (hf : f false false = false) {S T : List (Int × Int)} {s : Int × Int} (hT : Norm T) (h : ∀ x, In x T ↔ f (inB x S) (inB x [s]) = true) : built f S s = T :=
  norm_unique (build_in S s f hf).1 hT fun x => by rw [h]; exact (build_in S s f hf).2 x
theorem built_norm {f : Bool → Bool → Bool} (hf : f false false = false) (S : List (Int × Int)) (s : Int × Int) : Norm (built f S s) := (build_in S s f hf).1
theorem built_in {f : Bool → Bool → Bool} (hf : f false false = false) (S : List (Int × Int)) (s : Int × Int) (x : Int) : In x (built f S s) ↔ f (inB x S) (inB x [s]) = true := (build_in S s f hf).2 x
end Go.Proofs.Ytgjcdejiolenkaa
