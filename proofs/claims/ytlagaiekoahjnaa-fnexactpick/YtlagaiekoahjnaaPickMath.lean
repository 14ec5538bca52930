import Derived.Test.YtlagaiekoahjnaaViewBase
import Derived.Test.YtlagaiekoahjnaaMapBits
namespace Go.Proofs.Ytlagaiekoahjnaa
open Go.ChangeShapes Go.WideShapes Go.ChangeAt Go.RowKit
set_option linter.unusedVariables false

def okV (v : Vw) : Prop := (0 ≤ v.ali ∧ v.ali ≤ 1) ∧ (0 ≤ v.bck ∧ v.bck ≤ 16) ∧ (0 ≤ v.rom ∧ v.rom ≤ 16)
def OkV (V : Vws) (k : Nat) : Prop := ∀ i, ∀ h : i < V.length, i < k → okV V[i]
def ValidV (V : Vws) : Prop := OkV V V.length
theorem OkV.start (V : Vws) : OkV V 0 := fun i _ h => by omega
theorem OkV.next {V : Vws} {k : Nat} (h : OkV V k) (hk : k < V.length) (hs : okV V[k]) : OkV V (k + 1) := by
  intro i hi hlt
  by_cases e : i = k
  · subst e; exact hs
  · exact h i hi (by omega)
theorem OkV.all {V : Vws} {k : Nat} (h : OkV V k) (hk : ¬ k < V.length) : ValidV V := fun i hi _ => h i hi (by omega)
theorem not_validV {V : Vws} {k : Nat} (hk : k < V.length) (hs : ¬ okV V[k]) : ¬ ValidV V := fun h => hs (h k hk hk)

/-- Is path i eligible? -/
def el (V : Vws) (B i : Nat) : Bool := match V[i]? with
  | some v => decide (v.ali = 1) && decide (0 < v.rom) && !B.testBit i
  | none => false
theorem el_at {V : Vws} {B i : Nat} (h : i < V.length) {c0 c1 c2 : Int} (hn : V[i] = ⟨c0, c1, c2⟩) : el V B i = (decide (c0 = 1) && decide (0 < c2) && !B.testBit i) := by
  unfold el
  rw [List.getElem?_eq_getElem h, hn]
/-- The eligible paths among the first k. -/
def elig (V : Vws) (B k : Nat) : List Nat := (List.range k).filter (el V B)
theorem elig_zero (V : Vws) (B : Nat) : elig V B 0 = [] := rfl
theorem elig_yes {V : Vws} {B k : Nat} (h : el V B k = true) : elig V B (k + 1) = elig V B k ++ [k] := by simp [elig, List.range_succ, List.filter_append, h]
theorem elig_no {V : Vws} {B k : Nat} (h : el V B k = false) : elig V B (k + 1) = elig V B k := by simp [elig, List.range_succ, List.filter_append, h]
theorem elig_lt {V : Vws} {B k i : Nat} (h : i ∈ elig V B k) : i < k := by
  simp only [elig, List.mem_filter, List.mem_range] at h
  exact h.1
theorem elig_length (V : Vws) (B k : Nat) : (elig V B k).length ≤ k := by
  have := List.length_filter_le (el V B) (List.range k)
  simpa [elig] using this
theorem elig_nodup (V : Vws) (B k : Nat) : (elig V B k).Nodup := List.Pairwise.filter _ List.nodup_range

/-- What a walk over l that keeps those of the least rank has in its hands. -/
structure Best (r : Nat → Int) (l ch : List Nat) (least : Int) : Prop where
  is : ch = l.filter fun i => decide (r i = least)
  low : ∀ j ∈ l, least ≤ r j
  some : l ≠ [] → ch ≠ []
theorem Best.start (r : Nat → Int) (x : Int) : Best r [] [] x := ⟨rfl, by simp, fun h => absurd rfl h⟩
theorem Best.nil {r : Nat → Int} {l ch : List Nat} {x : Int} (h : Best r l ch x) : ch = [] ↔ l = [] := by
  constructor
  · intro e
    cases l with
    | nil => rfl
    | cons a t => exact absurd e (h.some (by simp))
  · rintro rfl
    rw [h.is]; rfl
theorem Best.first {r : Nat → Int} {l ch : List Nat} {x : Int} (h : Best r l ch x) (e : ch = []) (i : Nat) : Best r (l ++ [i]) [i] (r i) := by
  have := h.nil.1 e
  subst this
  exact ⟨by simp, by simp, by simp⟩
theorem Best.less {r : Nat → Int} {l ch : List Nat} {x : Int} (h : Best r l ch x) (i : Nat) (hi : r i < x) : Best r (l ++ [i]) [i] (r i) := by
  refine ⟨?_, ?_, by simp⟩
  · rw [List.filter_append]
    have : l.filter (fun j => decide (r j = r i)) = [] := by
      rw [List.filter_eq_nil_iff]
      intro j hj
      have := h.low j hj
      simp only [decide_eq_true_eq]
      omega
    rw [this]
    simp
  · intro j hj
    rcases List.mem_append.1 hj with hj | hj
    · have := h.low j hj
      omega
    · simp at hj
      subst hj
      exact Int.le_refl _
theorem Best.same {r : Nat → Int} {l ch : List Nat} {x : Int} (h : Best r l ch x) (i : Nat) (hi : r i = x) : Best r (l ++ [i]) (ch ++ [i]) x := by
  refine ⟨?_, ?_, by simp⟩
  · rw [List.filter_append, ← h.is]
    simp [hi]
  · intro j hj
    rcases List.mem_append.1 hj with hj | hj
    · exact h.low j hj
    · simp at hj
      subst hj
      omega
theorem Best.more {r : Nat → Int} {l ch : List Nat} {x : Int} (h : Best r l ch x) (e : ch ≠ []) (i : Nat) (hi : x < r i) : Best r (l ++ [i]) ch x := by
  refine ⟨?_, ?_, fun _ => e⟩
  · rw [List.filter_append, ← h.is]
    simp [show ¬ r i = x by omega]
  · intro j hj
    rcases List.mem_append.1 hj with hj | hj
    · exact h.low j hj
    · simp at hj
      subst hj
      omega
theorem Best.length {r : Nat → Int} {l ch : List Nat} {x : Int} (h : Best r l ch x) : ch.length ≤ l.length := by
  rw [h.is]
  exact List.length_filter_le _ _
theorem Best.sub {r : Nat → Int} {l ch : List Nat} {x : Int} (h : Best r l ch x) {i : Nat} (hi : i ∈ ch) : i ∈ l := by
  rw [h.is] at hi
  exact (List.mem_filter.1 hi).1
/-- All of one rank. -/
theorem Best.all {l ch : List Nat} {x : Int} (h : Best (fun _ => 0) l ch x) : ch = l := by
  cases l with
  | nil => exact h.nil.2 rfl
  | cons a t =>
    have hne := h.some (by simp)
    obtain ⟨j, hj⟩ := List.exists_mem_of_ne_nil _ hne
    have hi := h.is
    rw [hi] at hj
    have hx : (0 : Int) = x := by simpa using (List.mem_filter.1 hj).2
    rw [hi, List.filter_eq_self]
    intro k _
    simp [hx]
theorem filter_only {l : List Nat} (hn : l.Nodup) {b : Nat} (hb : b ∈ l) : l.filter (fun i => decide (i = b)) = [b] := by
  induction l with
  | nil => simp at hb
  | cons a t ih =>
    rw [List.nodup_cons] at hn
    rcases List.mem_cons.1 hb with e | e
    · subst e
      have : t.filter (fun i => decide (i = b)) = [] := by
        rw [List.filter_eq_nil_iff]
        intro j hj
        simp only [decide_eq_true_eq]
        rintro rfl
        exact hn.1 hj
      simp [this]
    · have hne : ¬ a = b := by rintro rfl; exact hn.1 e
      simp [hne, ih hn.2 e]
/-- b has the least rank. -/
def IsMin (r : Nat → Int) (l : List Nat) (b : Nat) : Prop := b ∈ l ∧ ∀ j ∈ l, r b ≤ r j
theorem Best.one {r s : Nat → Int} {l ch : List Nat} {x : Int} {n : Nat} (h : Best r l ch x) (hn : l.Nodup) (hl : ∀ i ∈ l, i < n) (hinj : ∀ i j, i < n → j < n → r i = r j → i = j) (hord : ∀ i j, i < n → j < n → (s i ≤ s j ↔ r i ≤ r j)) {b : Nat} (hb : IsMin s l b) : ch = [b] := by
  have hne : l ≠ [] := by rintro rfl; simp [IsMin] at hb
  obtain ⟨j, hj⟩ := List.exists_mem_of_ne_nil _ (h.some hne)
  rw [h.is] at hj
  obtain ⟨hjl, hjx⟩ := List.mem_filter.1 hj
  have hjx : r j = x := by simpa using hjx
  have h1 := (hord b j (hl b hb.1) (hl j hjl)).1 (hb.2 j hjl)
  have h2 := h.low b hb.1
  have hbj : b = j := hinj b j (hl b hb.1) (hl j hjl) (by omega)
  subst hbj
  rw [h.is, ← filter_only hn hb.1]
  refine List.filter_congr fun i hi => ?_
  rw [Bool.eq_iff_iff]
  simp only [decide_eq_true_eq]
  constructor
  · intro e
    exact hinj i b (hl i hi) (hl b hb.1) (by omega)
  · rintro rfl
    exact hjx

/-- The ranks: the specification's and the program's. -/
def rkRound (t n : Int) (i : Nat) : Int := ((i : Int) - t + n) % n
def rkBack (V : Vws) (m : Int) (i : Nat) : Int := (match V[i]? with | some v => v.bck | none => 0) * m + i
def rkPick (k : Int) (i : Nat) : Int := if (i : Int) = k then -1 else i
theorem rkBack_at {V : Vws} {m : Int} {i : Nat} (h : i < V.length) {c0 c1 c2 : Int} (hn : V[i] = ⟨c0, c1, c2⟩) : rkBack V m i = c1 * m + i := by
  unfold rkBack
  rw [List.getElem?_eq_getElem h, hn]
theorem rkRound_inj {t : Int} {n : Nat} (t0 : 0 ≤ t) (t1 : t < n) : ∀ i j, i < n → j < n → rkRound t n i = rkRound t n j → i = j := by
  intro i j hi hj h
  unfold rkRound at h
  have e : ∀ k : Nat, k < n → ((k : Int) - t + n) % n = if t ≤ k then (k : Int) - t else (k : Int) - t + n := by
    intro k hk
    split
    · rw [Int.add_emod_right]
      exact Int.emod_eq_of_lt (by omega) (by omega)
    · exact Int.emod_eq_of_lt (by omega) (by omega)
  rw [e i hi, e j hj] at h
  split at h <;> split at h <;> omega
theorem rkBack_inj {V : Vws} {m : Nat} (hm : V.length ≤ m) : ∀ i j, i < V.length → j < V.length → rkBack V m i = rkBack V m j → i = j := by
  intro i j hi hj h
  rw [rkBack_at hi (c0 := V[i].ali) (c1 := V[i].bck) (c2 := V[i].rom) rfl, rkBack_at hj (c0 := V[j].ali) (c1 := V[j].bck) (c2 := V[j].rom) rfl] at h
  have h1 : (i : Int) % m = (j : Int) % m := by
    have a : (V[i].bck * m + i) % m = (i : Int) % m := by rw [Int.add_comm, Int.add_mul_emod_self_right]
    have b : (V[j].bck * m + j) % m = (j : Int) % m := by rw [Int.add_comm, Int.add_mul_emod_self_right]
    rw [← a, ← b, h]
  rw [Int.emod_eq_of_lt (by omega) (by omega), Int.emod_eq_of_lt (by omega) (by omega)] at h1
  omega
theorem back_le {a b : Int} {m : Nat} {i j : Nat} (hi : i < m) (hj : j < m) : a * m + i ≤ b * m + j ↔ (a < b ∨ (a = b ∧ i ≤ j)) := by
  constructor
  · intro h
    rcases Int.lt_trichotomy a b with g | g | g
    · exact .inl g
    · subst g
      exact .inr ⟨rfl, by omega⟩
    · exfalso
      have : (b + 1) * m ≤ a * m := Int.mul_le_mul_of_nonneg_right (by omega) (by omega)
      rw [Int.add_mul] at this
      omega
  · rintro (g | ⟨rfl, g⟩)
    · have : (a + 1) * m ≤ b * m := Int.mul_le_mul_of_nonneg_right (by omega) (by omega)
      rw [Int.add_mul] at this
      omega
    · omega
theorem rkBack_ord {V : Vws} {m m' : Nat} (hm : V.length ≤ m) (hm' : V.length ≤ m') : ∀ i j, i < V.length → j < V.length → (rkBack V m i ≤ rkBack V m j ↔ rkBack V m' i ≤ rkBack V m' j) := by
  intro i j hi hj
  rw [rkBack_at hi (c0 := V[i].ali) (c1 := V[i].bck) (c2 := V[i].rom) rfl, rkBack_at hj (c0 := V[j].ali) (c1 := V[j].bck) (c2 := V[j].rom) rfl, rkBack_at hi (c0 := V[i].ali) (c1 := V[i].bck) (c2 := V[i].rom) rfl, rkBack_at hj (c0 := V[j].ali) (c1 := V[j].bck) (c2 := V[j].rom) rfl,
    back_le (by omega) (by omega), back_le (by omega) (by omega)]
theorem rkPick_inj (k : Int) : ∀ i j : Nat, rkPick k i = rkPick k j → i = j := by
  intro i j h
  unfold rkPick at h
  split at h <;> split at h <;> omega
end Go.Proofs.Ytlagaiekoahjnaa
