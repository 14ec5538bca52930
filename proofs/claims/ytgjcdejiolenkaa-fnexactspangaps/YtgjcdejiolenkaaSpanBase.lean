import Derived.Test.YtgjcdejiolenkaaBase
import Derived.Test.YtgjcdejiolenkaaSpanMath4
namespace Go.Proofs.Ytgjcdejiolenkaa
open Go.ChangeShapes Go.WideShapes Go.ChangeAt Go.RowKit
set_option linter.unusedVariables false

abbrev Sp := List (Int × Int)
def Fits (S : Sp) : Prop := ∀ p ∈ S, 0 ≤ p.1 ∧ p.1 ≤ 18446744073709551615 ∧ 0 ≤ p.2 ∧ p.2 ≤ 18446744073709551615

/-- The spans S lie at a, two cells each. -/
def Spans (w : World) (a : Option Addr) (S : Sp) : Prop :=
  S = [] ∨ ∃ b off, a = some ⟨b, off, none⟩ ∧ ∀ i, ∀ h : i < S.length, w.cell? ⟨b, off + i * 2, none⟩ = some (.int .u64 (S[i]).1) ∧ w.cell? ⟨b, off + i * 2 + 1, none⟩ = some (.int .u64 (S[i]).2)

theorem Spans.moved {w w' : World} {a : Option Addr} {S : Sp} (h : Spans w a S) (hb : Below w.heap.size w w') : Spans w' a S := by
  rcases h with h | ⟨b, off, ha, hc⟩
  · exact .inl h
  · refine .inr ⟨b, off, ha, fun i hi => ?_⟩
    obtain ⟨h1, h2⟩ := hc i hi
    rw [hb.cell (World.block_lt_of_cell? w _ h1), hb.cell (World.block_lt_of_cell? w _ h2)]
    exact ⟨h1, h2⟩

/-- One of them, its ends under names of their own. -/
theorem Spans.at {w : World} {b off : Nat} {S : Sp} {k : Nat} (hf : Fits S) (hc : ∀ i, ∀ h : i < S.length, w.cell? ⟨b, off + i * 2, none⟩ = some (.int .u64 (S[i]).1) ∧ w.cell? ⟨b, off + i * 2 + 1, none⟩ = some (.int .u64 (S[i]).2)) (h : k < S.length) :
    ∃ c d : Int, Hid (S[k] = (c, d)) ∧ 0 ≤ c ∧ c ≤ 18446744073709551615 ∧ 0 ≤ d ∧ d ≤ 18446744073709551615 ∧ w.cell? ⟨b, off + k * 2, none⟩ = some (.int .u64 c) ∧ w.cell? ⟨b, off + k * 2 + 1, none⟩ = some (.int .u64 d) := by
  obtain ⟨h1, h2, h3, h4⟩ := hf _ (List.getElem_mem h)
  exact ⟨(S[k]).1, (S[k]).2, rfl, h1, h2, h3, h4, (hc k h).1, (hc k h).2⟩

def flat (S : Sp) : List Value := S.flatMap fun p => [.int .u64 p.1, .int .u64 p.2]
theorem flat_length (S : Sp) : (flat S).length = S.length * 2 := by
  induction S with
  | nil => rfl
  | cons p r ih => simp [flat] at ih ⊢; omega
theorem flat_append (A B : Sp) : flat (A ++ B) = flat A ++ flat B := by simp [flat]
theorem flat_one (p : Int × Int) : flat [p] = [.int .u64 p.1, .int .u64 p.2] := rfl
theorem flat_at {S : Sp} {i : Nat} (h : i < S.length) : (flat S)[i * 2]? = some (.int .u64 (S[i]).1) ∧ (flat S)[i * 2 + 1]? = some (.int .u64 (S[i]).2) := by
  induction S generalizing i with
  | nil => simp at h
  | cons p r ih =>
    cases i with
    | zero => exact ⟨rfl, rfl⟩
    | succ i =>
      have := ih (i := i) (by simpa using h)
      have e1 : (i + 1) * 2 = i * 2 + 2 := by omega
      have e2 : flat (p :: r) = .int .u64 p.1 :: .int .u64 p.2 :: flat r := rfl
      rw [e1, e2]
      simpa using this

theorem Spans.owned {w : World} {base : Nat} {e : TypeId} {g cap : Nat} {S : Sp} (h : w.ownsRow base e 2 (.slice (some ⟨g, 0, none⟩) S.length cap) S.length (flat S)) : Spans w (some ⟨g, 0, none⟩) S := by
  refine .inr ⟨g, 0, rfl, fun i hi => ?_⟩
  rw [Nat.zero_add, h.cellAt (i * 2) (by omega), h.cellAt (i * 2 + 1) (by omega)]
  exact flat_at hi

theorem info_span : (Try.prog.info? 31).map (fun i => (i.zero, i.size, i.bytes)) = some (some (.agg #[.int .u64 0, .int .u64 0]), 2, 16) := by kernel_rfl

theorem eqSpan_same (c d : Int) (w : World) : Calls Try.prog 29 #[.agg #[.int .u64 c, .int .u64 d], .agg #[.int .u64 c, .int .u64 d]] w fun e w' => e = .returned (.bool true) ∧ Below w.heap.size w w' := by
  go_enter Try.func29, Try.ntmps29
  go_wp2
  go_ret
  exact ⟨rfl, ((Below.refl _ _).alloc (Nat.le_refl _) _).alloc (by simp) _⟩

/-- What a copying loop has made of a zero row behind j rounds. -/
def partS (S : Sp) (j : Nat) : Sp := S.take j ++ List.replicate (S.length - j) (0, 0)
theorem partS_zero (S : Sp) : partS S 0 = List.replicate S.length (0, 0) := by simp [partS]
theorem partS_all (S : Sp) : partS S S.length = S := by simp [partS]
theorem partS_length (S : Sp) {j : Nat} (h : j ≤ S.length) : (partS S j).length = S.length := by simp [partS]; omega
theorem partS_succ (S : Sp) (j : Nat) (h : j < S.length) : (partS S j).set j S[j] = partS S (j + 1) := by
  unfold partS
  rw [List.set_append]
  simp only [List.length_take]
  rw [if_neg (by omega)]
  have e : S.length - j = (S.length - (j + 1)) + 1 := by omega
  have e2 : j - min j S.length = 0 := by omega
  rw [e2, e, List.replicate_succ, List.set_cons_zero, List.take_succ_eq_append_getElem h]
  simp only [List.append_assoc, List.singleton_append]

theorem flat_set (S : Sp) (j : Nat) (p : Int × Int) (h : j < S.length) : ((flat S).set (j * 2) (.int .u64 p.1)).set (j * 2 + 1) (.int .u64 p.2) = flat (S.set j p) := by
  induction S generalizing j with
  | nil => simp at h
  | cons q r ih =>
    cases j with
    | zero => rfl
    | succ j =>
      have e1 : (j + 1) * 2 = j * 2 + 2 := by omega
      have e2 : flat (q :: r) = .int .u64 q.1 :: .int .u64 q.2 :: flat r := rfl
      rw [e1, e2]
      simp only [List.set_cons_succ, show j * 2 + 2 + 1 = (j * 2 + 1) + 1 + 1 by omega]
      rw [ih j (by simpa using h)]
      rfl
theorem flat_replicate (n : Nat) : flat (List.replicate n (0, 0)) = (madeCells #[.int .u64 0, .int .u64 0] (n * 2)).toList := by
  have h1 : flat (List.replicate n (0, 0)) = List.replicate (n * 2) (.int .u64 0) := by
    rw [List.eq_replicate_iff]
    refine ⟨by rw [flat_length]; simp, fun v hv => ?_⟩
    simp only [flat, List.mem_flatMap, List.mem_replicate] at hv
    obtain ⟨p, ⟨_, rfl⟩, hv⟩ := hv
    simpa using hv
  have h2 : (madeCells #[.int .u64 0, .int .u64 0] (n * 2)).toList = List.replicate (n * 2) (.int .u64 0) := by
    rw [List.eq_replicate_iff]
    refine ⟨by simp [madeCells], fun v hv => ?_⟩
    simp only [madeCells, Array.toList_map, List.mem_map] at hv
    obtain ⟨i, _, rfl⟩ := hv
    rcases (show i % 2 = 0 ∨ i % 2 = 1 by omega) with h | h
    · simp [h]
    · simp [h]
  rw [h1, h2]

/-- What the walk wants of a place that it stores into. -/
theorem place2 {w : World} {base : Nat} {e : TypeId} {g n cap : Nat} {xs : List Value} (h : w.ownsRow base e 2 (.slice (some ⟨g, 0, none⟩) n cap) n xs) {j : Nat} (hj : j < n) :
    w.frozen? ⟨g, j * 2, none⟩ = false ∧ w.frozen? ⟨g, j * 2 + 1, none⟩ = false ∧ (∃ u, w.cell? ⟨g, j * 2, none⟩ = some u) ∧ ∃ u, w.cell? ⟨g, j * 2 + 1, none⟩ = some u := by
  refine ⟨h.frozenAt _, h.frozenAt _, ?_, ?_⟩
  · rw [h.cellAt (j * 2) (by omega)]
    exact ⟨_, List.getElem?_eq_getElem (by have := h.1; omega)⟩
  · rw [h.cellAt (j * 2 + 1) (by omega)]
    exact ⟨_, List.getElem?_eq_getElem (by have := h.1; omega)⟩

/-- Both ends of one span of an owned row are stored. -/
theorem stored2 {w : World} {base : Nat} {e : TypeId} {g cap : Nat} {S : Sp} (h : w.ownsRow base e 2 (.slice (some ⟨g, 0, none⟩) S.length cap) S.length (flat S)) (j : Nat) (hj : j < S.length) (c d : Int) :
    ((w.setCell ⟨g, j * 2, none⟩ (.int .u64 c)).setCell ⟨g, j * 2 + 1, none⟩ (.int .u64 d)).ownsRow base e 2 (.slice (some ⟨g, 0, none⟩) S.length cap) S.length (flat (S.set j (c, d))) := by
  have h1 := (h.stored (j * 2) (.int .u64 c)).1
  have h2 := (h1.stored (j * 2 + 1) (.int .u64 d)).1
  rwa [flat_set S j (c, d) hj] at h2

end Go.Proofs.Ytgjcdejiolenkaa
