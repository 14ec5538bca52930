import Derived.Test.YtkamdaadgndmbaaNOuts
import Derived.Deep.RegionLaw
import Derived.Deep.AppendLies
namespace Go.Proofs.Ytkamdaadgndmbaa
open Go.ChangeShapes Go.WideShapes Go.ChangeAt Go.RowKit
set_option linter.unusedVariables false

/-! ### All datagrams that ever were in the network -/
structure SI where
  pa : Int
  di : Int
  dat : List Int
  gone : Bool
def liveI (p d : Int) (i : SI) : Bool := !i.gone && (i.pa == p && i.di == d)
def bagS (I : List SI) (p d : Int) : List (List Int) := (I.filter (liveI p d)).map (·.dat)
def idxF (p d : Int) : Nat → List SI → List Nat
  | _, [] => []
  | o, i :: r => if liveI p d i then o :: idxF p d (o + 1) r else idxF p d (o + 1) r
def goneI (i : SI) : SI := { i with gone := true }
theorem live_gone (p d : Int) (i : SI) : liveI p d (goneI i) = false := rfl
theorem live_one {p d p' d' : Int} {i : SI} (h : liveI p d i = true) (hn : ¬ (p' = p ∧ d' = d)) : liveI p' d' i = false := by
  simp only [liveI, Bool.and_eq_true, Bool.not_eq_true', beq_iff_eq] at h
  obtain ⟨h1, rfl, rfl⟩ := h
  simp only [liveI, h1, Bool.not_false, Bool.true_and]
  rw [Bool.and_eq_false_iff]
  by_cases e : i.pa = p'
  · exact .inr (by simp; intro e2; exact hn ⟨e.symm, e2.symm⟩)
  · exact .inl (by simpa using e)
theorem bagS_cons (i : SI) (I : List SI) (p d : Int) : bagS (i :: I) p d = if liveI p d i then i.dat :: bagS I p d else bagS I p d := by
  unfold bagS
  rw [List.filter_cons]
  split <;> rfl
theorem bagS_snoc (I : List SI) (i : SI) (p d : Int) : bagS (I ++ [i]) p d = bagS I p d ++ if liveI p d i then [i.dat] else [] := by
  unfold bagS
  rw [List.filter_append, List.map_append]
  congr 1
  rw [List.filter_cons]
  split <;> rfl
theorem idxF_snoc (p d : Int) (i : SI) : ∀ (I : List SI) (o : Nat), idxF p d o (I ++ [i]) = idxF p d o I ++ if liveI p d i then [o + I.length] else [] := by
  intro I
  induction I with
  | nil => intro o; simp [idxF]
  | cons x r ih =>
    intro o
    simp only [List.cons_append, idxF, ih, List.length_cons]
    have e : o + 1 + r.length = o + (r.length + 1) := by omega
    rw [e]
    split <;> rfl
theorem idxF_length (p d : Int) : ∀ (I : List SI) (o : Nat), (idxF p d o I).length = (bagS I p d).length := by
  intro I
  induction I with
  | nil => intro o; rfl
  | cons x r ih =>
    intro o
    rw [bagS_cons, idxF]
    split <;> simp [ih]
theorem idxF_at (p d : Int) : ∀ (I : List SI) (o k : Nat), k < (bagS I p d).length → ∃ j i, (idxF p d o I)[k]? = some (o + j) ∧ I[j]? = some i ∧ i.dat = (bagS I p d).getD k [] ∧ bagS (I.set j (goneI i)) p d = (bagS I p d).eraseIdx k ∧ ∀ p' d', ¬ (p' = p ∧ d' = d) → bagS (I.set j (goneI i)) p' d' = bagS I p' d' := by
  intro I
  induction I with
  | nil => intro o k hk; simp [bagS] at hk
  | cons x r ih =>
    intro o k hk
    rw [bagS_cons] at hk ⊢
    rw [idxF]
    by_cases hx : liveI p d x = true
    · rw [if_pos hx] at hk ⊢
      rw [if_pos hx]
      cases k with
      | zero =>
        refine ⟨0, x, by simp, rfl, rfl, ?_, fun p' d' hn => ?_⟩
        · rw [List.set_cons_zero, bagS_cons, live_gone]; rfl
        · rw [List.set_cons_zero, bagS_cons, live_gone, bagS_cons, live_one hx hn]; rfl
      | succ k =>
        obtain ⟨j, i, h1, h2, h3, h4, h5⟩ := ih (o + 1) k (by simpa using hk)
        refine ⟨j + 1, i, by simp [h1]; omega, by simpa using h2, by simpa using h3, ?_, fun p' d' hn => ?_⟩
        · rw [List.set_cons_succ, bagS_cons, if_pos hx, h4]; rfl
        · rw [List.set_cons_succ, bagS_cons, bagS_cons, h5 p' d' hn]
    · rw [if_neg hx] at hk ⊢
      rw [if_neg hx]
      obtain ⟨j, i, h1, h2, h3, h4, h5⟩ := ih (o + 1) k hk
      refine ⟨j + 1, i, by rw [h1]; congr 1; omega, by simpa using h2, h3, ?_, fun p' d' hn => ?_⟩
      · rw [List.set_cons_succ, bagS_cons, if_neg hx, h4]
      · rw [List.set_cons_succ, bagS_cons, bagS_cons, h5 p' d' hn]
def cutI (p : Int) (i : SI) : SI := if i.pa = p then goneI i else i
theorem bagS_cut (I : List SI) (p p' d : Int) : bagS (I.map (cutI p)) p' d = if p' = p then [] else bagS I p' d := by
  induction I with
  | nil => simp [bagS]
  | cons x r ih =>
    rw [List.map_cons, bagS_cons, bagS_cons, ih]
    unfold cutI
    by_cases hx : x.pa = p
    · rw [if_pos hx, live_gone]
      by_cases hp : p' = p
      · rw [if_pos hp, if_pos hp]; rfl
      · have : liveI p' d x = false := by simp [liveI]; intro _ e; exact absurd (e.symm.trans hx) hp
        rw [if_neg hp, if_neg hp, this]; rfl
    · rw [if_neg hx]
      by_cases hp : p' = p
      · have : liveI p' d x = false := by simp [liveI]; intro _ e; exact absurd (e.trans hp) hx
        rw [if_pos hp, if_pos hp, this]; rfl
      · rw [if_neg hp, if_neg hp]

/-! ### In memory -/
abbrev SIs := List (SI × Value)
def flatI (I : SIs) : List Value := I.flatMap fun p => [.int .i64 p.1.pa, .int .i64 p.1.di, p.2, .bool p.1.gone]
theorem flatI_cons (p : SI × Value) (I : SIs) : flatI (p :: I) = .int .i64 p.1.pa :: .int .i64 p.1.di :: p.2 :: .bool p.1.gone :: flatI I := rfl
theorem flatI_snoc (I : SIs) (p : SI × Value) : flatI (I ++ [p]) = flatI I ++ [.int .i64 p.1.pa, .int .i64 p.1.di, p.2, .bool p.1.gone] := by simp [flatI]
theorem flatI_at {I : SIs} {i : Nat} (h : i < I.length) : (flatI I)[i * 4]? = some (.int .i64 (I[i]).1.pa) ∧ (flatI I)[i * 4 + 1]? = some (.int .i64 (I[i]).1.di) ∧ (flatI I)[i * 4 + 2]? = some (I[i]).2 ∧ (flatI I)[i * 4 + 3]? = some (.bool (I[i]).1.gone) := by
  induction I generalizing i with
  | nil => simp at h
  | cons p r ih =>
    cases i with
    | zero => exact ⟨rfl, rfl, rfl, rfl⟩
    | succ i =>
      have := ih (i := i) (by simpa using h)
      rw [show (i + 1) * 4 = i * 4 + 4 by omega, flatI_cons]
      simpa using this
theorem flatI_gone (I : SIs) (i : Nat) (h : i < I.length) : (flatI I).set (i * 4 + 3) (.bool true) = flatI (I.set i (goneI (I[i]).1, (I[i]).2)) := by
  induction I generalizing i with
  | nil => simp at h
  | cons p r ih =>
    cases i with
    | zero => rfl
    | succ i =>
      have := ih i (by simpa using h)
      rw [show (i + 1) * 4 + 3 = i * 4 + 3 + 4 by omega, flatI_cons]
      simp only [List.set_cons_succ, List.getElem_cons_succ, flatI_cons]
      rw [this]
/-- The specification's network in memory: cv the cuts, av all items. -/
structure SpN (w : World) (B base n : Nat) (s : NS) (cv av : Value) (C : List Int) (I : SIs) : Prop where
  blk : w.heap[B]? = some (.cells #[.int .i64 (n : Int), cv, av] 70 (0, 0))
  cut : w.ownsRow base 2 1 cv n (C.map (.int .i64))
  all : w.ownsRow base 100 4 av I.length (flatI I)
  dat : ∀ p ∈ I, w.ownsRow base 5 1 p.2 p.1.dat.length (p.1.dat.map (.int .u8))
  cl : C.length = n
  cs : ∀ i : Nat, i < n → C.getD i 0 = s.cut i
  bs : ∀ p d, bagS (I.map (·.1)) p d = s.bag p d
/-- What a step leaves of the memory. -/
structure KeepS (w w' : World) (B base : Nat) : Prop where
  os : w'.os = w.os
  tape : w'.tape = w.tape
  output : w'.output = w.output
  size : w.heap.size ≤ w'.heap.size
  block : ∀ k, k < w.heap.size → k ≠ B → (k < base ∨ ∀ cs, w.heap[k]? ≠ some (.cells cs 2 (0, 0)) ∧ w.heap[k]? ≠ some (.cells cs 100 (0, 0))) → w'.heap[k]? = w.heap[k]?
theorem KeepS.refl (w : World) (B base : Nat) : KeepS w w B base := ⟨rfl, rfl, rfl, Nat.le_refl _, fun _ _ _ _ => rfl⟩
theorem KeepS.trans {w w1 w2 : World} {B base : Nat} (h : KeepS w w1 B base) (h2 : KeepS w1 w2 B base) : KeepS w w2 B base :=
  ⟨h2.os.trans h.os, h2.tape.trans h.tape, h2.output.trans h.output, Nat.le_trans h.size h2.size, fun k hk h3 h4 => by
    have e := h.block k hk h3 h4
    exact (h2.block k (Nat.lt_of_lt_of_le hk h.size) h3 (h4.imp id fun h5 cs => by rw [e]; exact h5 cs)).trans e⟩
theorem KeepS.ofBelow {w w' : World} {B base : Nat} (h : Below w.heap.size w w') : KeepS w w' B base := ⟨h.os, h.tape, h.output, h.size, fun k hk _ _ => h.block k hk⟩
theorem KeepS.grown {w w1 w2 : World} {B base : Nat} {r : Option Nat} (h : KeepS w w1 B base) (g : w1.grownBy w2 r) (hr : ∀ k, r = some k → w.heap.size ≤ k ∨ k = B ∨ (base ≤ k ∧ ∃ cs, w1.heap[k]? = some (.cells cs 2 (0, 0)) ∨ w1.heap[k]? = some (.cells cs 100 (0, 0)))) : KeepS w w2 B base :=
  ⟨g.os.trans h.os, g.tape.trans h.tape, g.output.trans h.output, Nat.le_trans h.size g.size, fun k hk h3 h4 => by
    have e := h.block k hk h3 h4
    refine (g.block k (Nat.lt_of_lt_of_le hk h.size) fun e2 => ?_).trans e
    rcases hr k e2.symm with h5 | h5 | ⟨h5, cs, h6⟩
    · omega
    · exact h3 h5
    · rcases h4 with h4 | h4
      · omega
      · rcases h6 with h6 | h6
        · exact (h4 cs).1 (e.symm.trans h6)
        · exact (h4 cs).2 (e.symm.trans h6)⟩
section
variable {w w' : World} {B base n : Nat} {s : NS} {cv av : Value} {C : List Int} {I : SIs}
theorem SpN.stays (h : SpN w B base n s cv av C I) (hb : ∀ (k : Nat) (cs : Array Value) (t : TypeId), (t = 70 ∨ t = 2 ∨ t = 100 ∨ t = 5) → w.heap[k]? = some (.cells cs t (0, 0)) → w'.heap[k]? = w.heap[k]?) : SpN w' B base n s cv av C I :=
  ⟨(hb B _ _ (.inl rfl) h.blk).trans h.blk, row_stays h.cut fun k hk => (by obtain ⟨cs, hc⟩ := row_block h.cut hk; exact hb k cs _ (.inr (.inl rfl)) hc), row_stays h.all fun k hk => (by obtain ⟨cs, hc⟩ := row_block h.all hk; exact hb k cs _ (.inr (.inr (.inl rfl))) hc),
    fun p hp => row_stays (h.dat p hp) fun k hk => (by obtain ⟨cs, hc⟩ := row_block (h.dat p hp) hk; exact hb k cs _ (.inr (.inr (.inr rfl))) hc), h.cl, h.cs, h.bs⟩
theorem SpN.moved (h : SpN w B base n s cv av C I) (hb : Below w.heap.size w w') : SpN w' B base n s cv av C I := h.stays fun k cs t _ hk => hb.block k (Array.getElem?_eq_some_iff.1 hk).1
theorem SpN.lt (h : SpN w B base n s cv av C I) : B < w.heap.size := (Array.getElem?_eq_some_iff.1 h.blk).1
theorem SpN.cells (h : SpN w B base n s cv av C I) : (w.cell? ⟨B, 0, none⟩ = some (.int .i64 (n : Int)) ∧ w.cell? ⟨B, 1, none⟩ = some cv ∧ w.cell? ⟨B, 2, none⟩ = some av) ∧ w.frozen? ⟨B, 0, none⟩ = false ∧ w.frozen? ⟨B, 1, none⟩ = false ∧ w.frozen? ⟨B, 2, none⟩ = false := cells3r h.blk
theorem own_cell {w : World} {base : Nat} {e : TypeId} {size g n cap : Nat} {xs : List Value} (h : w.ownsRow base e size (.slice (some ⟨g, 0, none⟩) n cap) n xs) {j : Nat} {x : Value} (hx : xs[j]? = some x) : w.cell? ⟨g, j, none⟩ = some x ∧ w.frozen? ⟨g, j, none⟩ = false := by
  rcases h.2 with ⟨e, _⟩ | ⟨g', cap', cur, e, _, hg, h1, h2, h3, h4⟩
  · cases e
  · simp only [Value.slice.injEq, Option.some.injEq, Addr.mk.injEq, and_true] at e
    obtain ⟨rfl, _, rfl⟩ := e
    refine ⟨(Go.Joins.cell_of_block hg j).trans ?_, Go.Joins.unfrozen_of_block hg _⟩
    rw [← h4, List.getElem?_take] at hx
    split at hx
    · simpa using hx
    · cases hx
end
end Go.Proofs.Ytkamdaadgndmbaa
