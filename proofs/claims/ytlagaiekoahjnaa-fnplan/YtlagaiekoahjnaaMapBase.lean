import Derived.Test.YtlagaiekoahjnaaRows1
import Derived.Deep.RegionHeld3
import Derived.Laws.AppendOwnNone
namespace Go.Proofs.Ytlagaiekoahjnaa
open Go.ChangeShapes Go.WideShapes Go.ChangeAt Go.RowKit
set_option linter.unusedVariables false

structure Mp where
  off : Int
  len : Int
  fin : Int
  car : Int
  que : Int

abbrev Mp.vals (m : Mp) : List Value := [.int .u64 m.off, .int .i64 m.len, .int .i64 m.fin, .int .i64 m.car, .int .i64 m.que]
abbrev Mps := List Mp
def Mp.ok (m : Mp) : Prop := (0 ≤ m.off ∧ m.off ≤ 18446744073709551615) ∧ (-9223372036854775808 ≤ m.len ∧ m.len ≤ 9223372036854775807) ∧ (-9223372036854775808 ≤ m.fin ∧ m.fin ≤ 9223372036854775807) ∧ (-9223372036854775808 ≤ m.car ∧ m.car ≤ 9223372036854775807) ∧ (-9223372036854775808 ≤ m.que ∧ m.que ≤ 9223372036854775807)
def FitsM (S : Mps) : Prop := ∀ m ∈ S, m.ok

/-- The structs S lie at a. -/
def LieM (w : World) (a : Option Addr) (S : Mps) : Prop :=
  S = [] ∨ ∃ b off, a = some ⟨b, off, none⟩ ∧ ∀ i, ∀ h : i < S.length, w.cell? ⟨b, off + i * 5, none⟩ = some (.int .u64 (S[i]).off) ∧ w.cell? ⟨b, off + i * 5 + 1, none⟩ = some (.int .i64 (S[i]).len) ∧ w.cell? ⟨b, off + i * 5 + 2, none⟩ = some (.int .i64 (S[i]).fin) ∧ w.cell? ⟨b, off + i * 5 + 3, none⟩ = some (.int .i64 (S[i]).car) ∧ w.cell? ⟨b, off + i * 5 + 4, none⟩ = some (.int .i64 (S[i]).que)

theorem LieM.moved {w w' : World} {a : Option Addr} {S : Mps} (h : LieM w a S) (hb : Below w.heap.size w w') : LieM w' a S := by
  rcases h with h | ⟨b, off, ha, hc⟩
  · exact .inl h
  · refine .inr ⟨b, off, ha, fun i hi => ?_⟩
    obtain ⟨h0, h1, h2, h3, h4⟩ := hc i hi
    rw [hb.cell (World.block_lt_of_cell? w _ h0), hb.cell (World.block_lt_of_cell? w _ h1), hb.cell (World.block_lt_of_cell? w _ h2), hb.cell (World.block_lt_of_cell? w _ h3), hb.cell (World.block_lt_of_cell? w _ h4)]
    exact ⟨h0, h1, h2, h3, h4⟩

/-- One of them, its fields under names of their own. -/
theorem LieM.at {w : World} {b off : Nat} {S : Mps} {k : Nat} (hf : FitsM S) (hc : ∀ i, ∀ h : i < S.length, w.cell? ⟨b, off + i * 5, none⟩ = some (.int .u64 (S[i]).off) ∧ w.cell? ⟨b, off + i * 5 + 1, none⟩ = some (.int .i64 (S[i]).len) ∧ w.cell? ⟨b, off + i * 5 + 2, none⟩ = some (.int .i64 (S[i]).fin) ∧ w.cell? ⟨b, off + i * 5 + 3, none⟩ = some (.int .i64 (S[i]).car) ∧ w.cell? ⟨b, off + i * 5 + 4, none⟩ = some (.int .i64 (S[i]).que)) (h : k < S.length) :
    ∃ c0 c1 c2 c3 c4 : Int, Hid (S[k] = ⟨c0, c1, c2, c3, c4⟩) ∧ (Mp.mk c0 c1 c2 c3 c4).ok ∧ w.cell? ⟨b, off + k * 5, none⟩ = some (.int .u64 c0) ∧ w.cell? ⟨b, off + k * 5 + 1, none⟩ = some (.int .i64 c1) ∧ w.cell? ⟨b, off + k * 5 + 2, none⟩ = some (.int .i64 c2) ∧ w.cell? ⟨b, off + k * 5 + 3, none⟩ = some (.int .i64 c3) ∧ w.cell? ⟨b, off + k * 5 + 4, none⟩ = some (.int .i64 c4) := by
  exact ⟨(S[k]).off, (S[k]).len, (S[k]).fin, (S[k]).car, (S[k]).que, rfl, hf _ (List.getElem_mem h), hc k h⟩

def flatM (S : Mps) : List Value := S.flatMap Mp.vals
theorem flatM_length (S : Mps) : (flatM S).length = S.length * 5 := by
  induction S with
  | nil => rfl
  | cons p r ih => simp [flatM] at ih ⊢; omega
theorem flatM_append (A B : Mps) : flatM (A ++ B) = flatM A ++ flatM B := by simp [flatM]
theorem flatM_one (p : Mp) : flatM [p] = p.vals := rfl
theorem flatM_cons (p : Mp) (r : Mps) : flatM (p :: r) = .int .u64 p.off :: .int .i64 p.len :: .int .i64 p.fin :: .int .i64 p.car :: .int .i64 p.que :: flatM r := rfl
theorem flatM_at {S : Mps} {i : Nat} (h : i < S.length) : (flatM S)[i * 5]? = some (.int .u64 (S[i]).off) ∧ (flatM S)[i * 5 + 1]? = some (.int .i64 (S[i]).len) ∧ (flatM S)[i * 5 + 2]? = some (.int .i64 (S[i]).fin) ∧ (flatM S)[i * 5 + 3]? = some (.int .i64 (S[i]).car) ∧ (flatM S)[i * 5 + 4]? = some (.int .i64 (S[i]).que) := by
  induction S generalizing i with
  | nil => simp at h
  | cons p r ih =>
    cases i with
    | zero => exact ⟨rfl, rfl, rfl, rfl, rfl⟩
    | succ i =>
      have := ih (i := i) (by simpa using h)
      have e1 : (i + 1) * 5 = i * 5 + 5 := by omega
      rw [e1, flatM_cons]
      simpa using this

theorem LieM.owned {w : World} {base : Nat} {e : TypeId} {g cap : Nat} {S : Mps} (h : w.ownsRow base e 5 (.slice (some ⟨g, 0, none⟩) S.length cap) S.length (flatM S)) : LieM w (some ⟨g, 0, none⟩) S := by
  refine .inr ⟨g, 0, rfl, fun i hi => ?_⟩
  rw [Nat.zero_add, h.cellAt (i * 5) (by omega), h.cellAt (i * 5 + 1) (by omega), h.cellAt (i * 5 + 2) (by omega), h.cellAt (i * 5 + 3) (by omega), h.cellAt (i * 5 + 4) (by omega)]
  exact flatM_at hi

theorem LieM.ofRow {w : World} {base : Nat} {e : TypeId} {av : Option Addr} {n cap : Nat} {S : Mps} (hn : S.length = n) (h : w.ownsRow base e 5 (.slice av n cap) n (flatM S)) : LieM w av S := by
  subst hn
  rcases h.2 with ⟨h', h0⟩ | ⟨g, cap', cur, h', rest⟩
  · exact .inl (List.eq_nil_of_length_eq_zero (by omega))
  · simp only [Value.slice.injEq] at h'
    obtain ⟨rfl, _, rfl⟩ := h'
    exact LieM.owned h

theorem infoM : (Try.prog.info? 55).map (fun i => (i.zero, i.size, i.bytes)) = some (some (.agg #[.int .u64 0, .int .i64 0, .int .i64 0, .int .i64 0, .int .i64 0]), 5, 40) := by kernel_rfl

theorem toM_any (c0 c1 c2 c3 c4 : Int) (w : World) : Calls Try.prog 38 #[.agg #[.int .u64 c0, .int .i64 c1, .int .i64 c2, .int .i64 c3, .int .i64 c4]] w fun e w' => e = .returned (.agg #[.int .u64 c0, .int .i64 c1, .int .i64 c2, .int .i64 c3, .int .i64 c4]) ∧ Below w.heap.size w w' := by
  go_enter Try.func38, Try.ntmps38
  go_wp2
  exact bodyPost_ret (v := .agg #[.int .u64 c0, .int .i64 c1, .int .i64 c2, .int .i64 c3, .int .i64 c4]) (by simp [results, Try.results38, go_sem]) rfl ⟨rfl, (((Below.refl _ _).alloc (Nat.le_refl _) _).alloc (by simp) _).alloc (by simp; omega) _⟩

theorem eqM_same (c0 c1 c2 c3 c4 : Int) (w : World) : Calls Try.prog 44 #[.agg #[.int .u64 c0, .int .i64 c1, .int .i64 c2, .int .i64 c3, .int .i64 c4], .agg #[.int .u64 c0, .int .i64 c1, .int .i64 c2, .int .i64 c3, .int .i64 c4]] w fun e w' => e = .returned (.bool true) ∧ Below w.heap.size w w' := by
  go_enter Try.func44, Try.ntmps44
  go_wp2
  go_ret
  exact ⟨rfl, ((Below.refl _ _).alloc (Nat.le_refl _) _).alloc (by simp) _⟩

def zeroM : Mp := ⟨0, 0, 0, 0, 0⟩
/-- What a copying loop has made of a zero row behind j rounds. -/
def partM (S : Mps) (j : Nat) : Mps := S.take j ++ List.replicate (S.length - j) zeroM
theorem partM_zero (S : Mps) : partM S 0 = List.replicate S.length zeroM := by simp [partM]
theorem partM_all (S : Mps) : partM S S.length = S := by simp [partM]
theorem partM_length (S : Mps) {j : Nat} (h : j ≤ S.length) : (partM S j).length = S.length := by simp [partM]; omega
theorem partM_succ (S : Mps) (j : Nat) (h : j < S.length) : (partM S j).set j S[j] = partM S (j + 1) := by
  unfold partM
  rw [List.set_append]
  simp only [List.length_take]
  rw [if_neg (by omega)]
  have e : S.length - j = (S.length - (j + 1)) + 1 := by omega
  have e2 : j - min j S.length = 0 := by omega
  rw [e2, e, List.replicate_succ, List.set_cons_zero, List.take_succ_eq_append_getElem h]
  simp only [List.append_assoc, List.singleton_append]

theorem flatM_set (S : Mps) (j : Nat) (p : Mp) (h : j < S.length) : (((((flatM S).set (j * 5) (.int .u64 p.off)).set (j * 5 + 1) (.int .i64 p.len)).set (j * 5 + 2) (.int .i64 p.fin)).set (j * 5 + 3) (.int .i64 p.car)).set (j * 5 + 4) (.int .i64 p.que) = flatM (S.set j p) := by
  induction S generalizing j with
  | nil => simp at h
  | cons q r ih =>
    cases j with
    | zero => rfl
    | succ j =>
      have key : ∀ (i : Nat) (v : Value) (l : List Value), (q.vals ++ l).set (i + 5) v = q.vals ++ l.set i v := fun _ _ _ => rfl
      have e1 : (j + 1) * 5 = j * 5 + 5 := by omega
      rw [e1, show flatM (q :: r) = q.vals ++ flatM r from rfl, show (q :: r).set (j + 1) p = q :: r.set j p from rfl, show flatM (q :: r.set j p) = q.vals ++ flatM (r.set j p) from rfl, ← ih j (by simpa using h)]
      rw [show j * 5 + 5 + 1 = j * 5 + 1 + 5 by omega, show j * 5 + 5 + 2 = j * 5 + 2 + 5 by omega, show j * 5 + 5 + 3 = j * 5 + 3 + 5 by omega, show j * 5 + 5 + 4 = j * 5 + 4 + 5 by omega]
      rw [key, key, key, key, key]
theorem flatM_replicate (n : Nat) : flatM (List.replicate n zeroM) = (madeCells #[.int .u64 0, .int .i64 0, .int .i64 0, .int .i64 0, .int .i64 0] (n * 5)).toList := by
  refine List.ext_getElem? fun i => ?_
  by_cases hi : i < n * 5
  · have hq : i / 5 < (List.replicate n zeroM).length := by simp; omega
    obtain ⟨h0, h1, h2, h3, h4⟩ := flatM_at (S := List.replicate n zeroM) hq
    have hr : (madeCells #[.int .u64 0, .int .i64 0, .int .i64 0, .int .i64 0, .int .i64 0] (n * 5)).toList[i]? = #[.int .u64 0, .int .i64 0, .int .i64 0, .int .i64 0, .int .i64 0][i % 5]? := by
      simp only [madeCells, Array.toList_map, List.getElem?_map]
      rcases (show i % 5 = 0 ∨ i % 5 = 1 ∨ i % 5 = 2 ∨ i % 5 = 3 ∨ i % 5 = 4 by omega) with h | h | h | h | h <;> simp [h, hi]
    rw [hr]
    rcases (show i = i / 5 * 5 ∧ i % 5 = 0 ∨ i = i / 5 * 5 + 1 ∧ i % 5 = 1 ∨ i = i / 5 * 5 + 2 ∧ i % 5 = 2 ∨ i = i / 5 * 5 + 3 ∧ i % 5 = 3 ∨ i = i / 5 * 5 + 4 ∧ i % 5 = 4 by omega) with h | h | h | h | h
    · rw [← h.1] at h0; rw [h0, h.2]; simp [zeroM]
    · rw [← h.1] at h1; rw [h1, h.2]; simp [zeroM]
    · rw [← h.1] at h2; rw [h2, h.2]; simp [zeroM]
    · rw [← h.1] at h3; rw [h3, h.2]; simp [zeroM]
    · rw [← h.1] at h4; rw [h4, h.2]; simp [zeroM]
  · rw [List.getElem?_eq_none (by rw [flatM_length]; simp; omega), List.getElem?_eq_none (by simp [madeCells]; omega)]

/-- What the walk wants of a place that it stores into. -/
theorem placeM {w : World} {base : Nat} {e : TypeId} {g n cap : Nat} {xs : List Value} (h : w.ownsRow base e 5 (.slice (some ⟨g, 0, none⟩) n cap) n xs) {j : Nat} (hj : j < n) :
    w.frozen? ⟨g, j * 5, none⟩ = false ∧ w.frozen? ⟨g, j * 5 + 1, none⟩ = false ∧ w.frozen? ⟨g, j * 5 + 2, none⟩ = false ∧ w.frozen? ⟨g, j * 5 + 3, none⟩ = false ∧ w.frozen? ⟨g, j * 5 + 4, none⟩ = false ∧ (∃ u, w.cell? ⟨g, j * 5, none⟩ = some u) ∧ (∃ u, w.cell? ⟨g, j * 5 + 1, none⟩ = some u) ∧ (∃ u, w.cell? ⟨g, j * 5 + 2, none⟩ = some u) ∧ (∃ u, w.cell? ⟨g, j * 5 + 3, none⟩ = some u) ∧ (∃ u, w.cell? ⟨g, j * 5 + 4, none⟩ = some u) := by
  have hl := h.1
  refine ⟨h.frozenAt _, h.frozenAt _, h.frozenAt _, h.frozenAt _, h.frozenAt _, ?_, ?_, ?_, ?_, ?_⟩
  · rw [h.cellAt (j * 5) (by omega)]; exact ⟨_, List.getElem?_eq_getElem (by omega)⟩
  · rw [h.cellAt (j * 5 + 1) (by omega)]; exact ⟨_, List.getElem?_eq_getElem (by omega)⟩
  · rw [h.cellAt (j * 5 + 2) (by omega)]; exact ⟨_, List.getElem?_eq_getElem (by omega)⟩
  · rw [h.cellAt (j * 5 + 3) (by omega)]; exact ⟨_, List.getElem?_eq_getElem (by omega)⟩
  · rw [h.cellAt (j * 5 + 4) (by omega)]; exact ⟨_, List.getElem?_eq_getElem (by omega)⟩

/-- All fields of one struct of an owned row are stored. -/
theorem storedM {w : World} {base : Nat} {e : TypeId} {g cap : Nat} {S : Mps} (h : w.ownsRow base e 5 (.slice (some ⟨g, 0, none⟩) S.length cap) S.length (flatM S)) (j : Nat) (hj : j < S.length) (c0 c1 c2 c3 c4 : Int) :
    (((((w.setCell ⟨g, j * 5, none⟩ (.int .u64 c0)).setCell ⟨g, j * 5 + 1, none⟩ (.int .i64 c1)).setCell ⟨g, j * 5 + 2, none⟩ (.int .i64 c2)).setCell ⟨g, j * 5 + 3, none⟩ (.int .i64 c3)).setCell ⟨g, j * 5 + 4, none⟩ (.int .i64 c4)).ownsRow base e 5 (.slice (some ⟨g, 0, none⟩) S.length cap) S.length (flatM (S.set j ⟨c0, c1, c2, c3, c4⟩)) := by
  have h1 := (h.stored (j * 5) (.int .u64 c0)).1
  have h2 := (h1.stored (j * 5 + 1) (.int .i64 c1)).1
  have h3 := (h2.stored (j * 5 + 2) (.int .i64 c2)).1
  have h4 := (h3.stored (j * 5 + 3) (.int .i64 c3)).1
  have h5 := (h4.stored (j * 5 + 4) (.int .i64 c4)).1
  rwa [flatM_set S j ⟨c0, c1, c2, c3, c4⟩ hj] at h5

theorem grownM (w : World) (g j : Nat) (c0 c1 c2 c3 c4 : Int) : w.grownBy (((((w.setCell ⟨g, j * 5, none⟩ (.int .u64 c0)).setCell ⟨g, j * 5 + 1, none⟩ (.int .i64 c1)).setCell ⟨g, j * 5 + 2, none⟩ (.int .i64 c2)).setCell ⟨g, j * 5 + 3, none⟩ (.int .i64 c3)).setCell ⟨g, j * 5 + 4, none⟩ (.int .i64 c4)) (some g) := grown_trans (grown_trans (grown_trans (grown_trans (grown_set w g (j * 5) _) (grown_set _ g (j * 5 + 1) _)) (grown_set _ g (j * 5 + 2) _)) (grown_set _ g (j * 5 + 3) _)) (grown_set _ g (j * 5 + 4) _)
theorem belowM {B : Nat} {v w : World} (h : Below B v w) (g j : Nat) (hg : B ≤ g) (c0 c1 c2 c3 c4 : Int) : Below B v (((((w.setCell ⟨g, j * 5, none⟩ (.int .u64 c0)).setCell ⟨g, j * 5 + 1, none⟩ (.int .i64 c1)).setCell ⟨g, j * 5 + 2, none⟩ (.int .i64 c2)).setCell ⟨g, j * 5 + 3, none⟩ (.int .i64 c3)).setCell ⟨g, j * 5 + 4, none⟩ (.int .i64 c4)) := (((((h).setCell (p := ⟨g, j * 5, none⟩) hg _).setCell (p := ⟨g, j * 5 + 1, none⟩) hg _).setCell (p := ⟨g, j * 5 + 2, none⟩) hg _).setCell (p := ⟨g, j * 5 + 3, none⟩) hg _).setCell (p := ⟨g, j * 5 + 4, none⟩) hg _

set_option maxHeartbeats 1000000 in
theorem toMS_any (a : Option Addr) (S : Mps) (cap : Nat) (w : World) (hS : LieM w a S) (hf : FitsM S) (hl : S.length ≤ 1048576) :
    Calls Try.prog 10 #[.slice a S.length cap] w fun e w' => e = .returned (.slice (some ⟨w.heap.size, 0, none⟩) S.length S.length) ∧
      w'.ownsRow w.heap.size 55 5 (.slice (some ⟨w.heap.size, 0, none⟩) S.length S.length) S.length (flatM S) ∧ Below w.heap.size w w' := by
  obtain ⟨i0, hi, hz0, hz1, hz2⟩ := info_parts infoM
  go_enter Try.func10, Try.ntmps10
  go_wp2_with (at_make; refine wpList_make_full _ rfl _ _ 25 rfl w.heap.size 55 i0 (.agg #[.int .u64 0, .int .i64 0, .int .i64 0, .int .i64 0, .int .i64 0]) 5 Try.underlying25 hi hz0 hz1 .i64 .i64 _ _ S.length rfl rfl rfl rfl (by rw [hz2]; omega) (by unfold maxLen; omega) (Nat.le_refl _) ?_; intro w1 hown hgrow)
  have hstart : w1.ownsRow w.heap.size 55 5 (.slice (some ⟨w.heap.size, 0, none⟩) S.length S.length) S.length (flatM (partM S 0)) := by
    rw [partM_zero, flatM_replicate]
    exact hown
  have hbel : Below w.heap.size w w1 := (Below.refl _ _).grown hgrow (Nat.le_refl _) (by simp)
  clear hown hgrow
  go_loopw [4] (fun i wr => ∃ k : Nat, k ≤ S.length ∧ i = .int .i64 k ∧ wr.ownsRow w.heap.size 55 5 (.slice (some ⟨w.heap.size, 0, none⟩) S.length S.length) S.length (flatM (partM S k)) ∧ Below w.heap.size w wr)
    (fun i _ => S.length - (intOf i).toNat)
  case atStart => exact ⟨0, Nat.zero_le _, rfl, hstart, hbel⟩
  case round =>
    clear hstart hbel
    obtain ⟨k, hk, rfl, hown, hb⟩ := hrel
    by_cases hlt : k < S.length
    · rcases hS with h | ⟨b, off, rfl, hc⟩
      · simp [h] at hlt
      · obtain ⟨c0, c1, c2, c3, c4, hn, _, q0, q1, q2, q3, q4⟩ := LieM.at hf hc hlt
        have r0 : wr.cell? ⟨b, off + k * 5, none⟩ = some (.int .u64 c0) := by rw [hb.cell (World.block_lt_of_cell? w _ q0)]; exact q0
        have r1 : wr.cell? ⟨b, off + k * 5 + 1, none⟩ = some (.int .i64 c1) := by rw [hb.cell (World.block_lt_of_cell? w _ q1)]; exact q1
        have r2 : wr.cell? ⟨b, off + k * 5 + 2, none⟩ = some (.int .i64 c2) := by rw [hb.cell (World.block_lt_of_cell? w _ q2)]; exact q2
        have r3 : wr.cell? ⟨b, off + k * 5 + 3, none⟩ = some (.int .i64 c3) := by rw [hb.cell (World.block_lt_of_cell? w _ q3)]; exact q3
        have r4 : wr.cell? ⟨b, off + k * 5 + 4, none⟩ = some (.int .i64 c4) := by rw [hb.cell (World.block_lt_of_cell? w _ q4)]; exact q4
        have hsz := hb.size
        clear hc hf q0 q1 q2 q3 q4
        go_wp2_with (go_at_call 38; refine (toM_any _ _ _ _ _ _).mono ?_; rintro e w2 ⟨rfl, hb2⟩; have ho2 := owned_kept hown hb2; obtain ⟨f0, f1, f2, f3, f4, ⟨u0, g0⟩, ⟨u1, g1⟩, ⟨u2, g2⟩, ⟨u3, g3⟩, ⟨u4, g4⟩⟩ := placeM ho2 hlt)
        have hl2 := partM_length S hk
        rw [← hl2] at ho2
        have hn2 := storedM ho2 k (by omega) c0 c1 c2 c3 c4
        rw [show (Mp.mk c0 c1 c2 c3 c4) = S[k] from hn.out.symm, partM_succ S k hlt, hl2] at hn2
        have hb3 := belowM (hb.trans (hb2.mono hb.size)) w.heap.size k (Nat.le_refl _) c0 c1 c2 c3 c4
        clear ho2 hown hb hb2 hn
        go_wp2
        go_roundw
        case rel => exact ⟨k + 1, by omega, by go_num, hn2, hb3⟩
        case measure => simp [intOf]; omega
    · go_wp2
      go_ret
      have : k = S.length := by omega
      subst this
      rw [partM_all] at hown
      exact ⟨rfl, hown, hb⟩

theorem szMS_any (a : Option Addr) (n cap : Nat) (w : World) (hm : n ≤ 9223372036854775807) :
    Calls Try.prog 8 #[.slice a n cap, .int .i64 1048576] w fun e w' => e = .returned (.int .i64 (if n ≤ 1048576 then 1048576 - (n : Int) else -1)) ∧ w' = w := by
  by_cases h : n ≤ 1048576
  · rw [if_pos h]
    go_enter Try.func8, Try.ntmps8
    go_wp2
    go_ret
    exact ⟨rfl, rfl⟩
  · rw [if_neg h]
    go_enter Try.func8, Try.ntmps8
    go_wp2
    go_ret
    exact ⟨rfl, rfl⟩

set_option maxHeartbeats 1000000 in
theorem eqMS_same (a a' : Option Addr) (S : Mps) (cap cap' : Nat) (w : World) (hS : LieM w a S) (hS' : LieM w a' S) (hf : FitsM S) (hl : S.length ≤ 1048576) :
    Calls Try.prog 12 #[.slice a S.length cap, .slice a' S.length cap'] w fun e w' => e = .returned (.bool true) ∧ Below w.heap.size w w' := by
  go_enter Try.func12, Try.ntmps12
  go_wp2
  go_loopw [5] (fun i wr => ∃ k : Nat, k ≤ S.length ∧ i = .int .i64 k ∧ Below w.heap.size w wr) (fun i _ => S.length - (intOf i).toNat)
  case atStart => exact ⟨0, Nat.zero_le _, rfl, Below.refl _ _⟩
  case round =>
    obtain ⟨k, hk, rfl, hb⟩ := hrel
    by_cases hlt : k < S.length
    · rcases hS with h | ⟨b, off, rfl, hc⟩
      · simp [h] at hlt
      rcases hS' with h | ⟨b', off', rfl, hc'⟩
      · simp [h] at hlt
      obtain ⟨c0, c1, c2, c3, c4, hn, _, q0, q1, q2, q3, q4⟩ := LieM.at hf hc hlt
      obtain ⟨t0, t1, t2, t3, t4⟩ := hc' k hlt
      rw [hn.out] at t0 t1 t2 t3 t4
      have r0 : wr.cell? ⟨b, off + k * 5, none⟩ = some (.int .u64 c0) := by rw [hb.cell (World.block_lt_of_cell? w _ q0)]; exact q0
      have r1 : wr.cell? ⟨b, off + k * 5 + 1, none⟩ = some (.int .i64 c1) := by rw [hb.cell (World.block_lt_of_cell? w _ q1)]; exact q1
      have r2 : wr.cell? ⟨b, off + k * 5 + 2, none⟩ = some (.int .i64 c2) := by rw [hb.cell (World.block_lt_of_cell? w _ q2)]; exact q2
      have r3 : wr.cell? ⟨b, off + k * 5 + 3, none⟩ = some (.int .i64 c3) := by rw [hb.cell (World.block_lt_of_cell? w _ q3)]; exact q3
      have r4 : wr.cell? ⟨b, off + k * 5 + 4, none⟩ = some (.int .i64 c4) := by rw [hb.cell (World.block_lt_of_cell? w _ q4)]; exact q4
      have r0' : wr.cell? ⟨b', off' + k * 5, none⟩ = some (.int .u64 c0) := by rw [hb.cell (World.block_lt_of_cell? w _ t0)]; exact t0
      have r1' : wr.cell? ⟨b', off' + k * 5 + 1, none⟩ = some (.int .i64 c1) := by rw [hb.cell (World.block_lt_of_cell? w _ t1)]; exact t1
      have r2' : wr.cell? ⟨b', off' + k * 5 + 2, none⟩ = some (.int .i64 c2) := by rw [hb.cell (World.block_lt_of_cell? w _ t2)]; exact t2
      have r3' : wr.cell? ⟨b', off' + k * 5 + 3, none⟩ = some (.int .i64 c3) := by rw [hb.cell (World.block_lt_of_cell? w _ t3)]; exact t3
      have r4' : wr.cell? ⟨b', off' + k * 5 + 4, none⟩ = some (.int .i64 c4) := by rw [hb.cell (World.block_lt_of_cell? w _ t4)]; exact t4
      clear hc hc' q0 q1 q2 q3 q4 t0 t1 t2 t3 t4 hf hn
      go_wp2
      go_region_with (go_at_call 44; refine (eqM_same _ _ _ _ _ _).mono ?_; rintro e w2 ⟨rfl, hb2⟩)
      all_goals
        have hb3 := hb.drew.trans (hb2.mono hb.size)
        clear hb hb2
        go_wp2
        go_roundw
        case rel => exact ⟨k + 1, by omega, by go_num, by first | exact hb3 | exact hb3.drew⟩
        case measure => simp [intOf]; omega
    · go_wp2
      go_ret
      exact ⟨rfl, hb⟩

/-- What marking leaves: 1, 2, 3 .. -/
def markM (i : Nat) : Mp := ⟨(1 + 5 * (i : Int)), (1 + 5 * (i : Int) + 1), (1 + 5 * (i : Int) + 2), (1 + 5 * (i : Int) + 3), (1 + 5 * (i : Int) + 4)⟩
def markedM (n : Nat) : Mps := (List.range n).map markM
theorem markedM_length (n : Nat) : (markedM n).length = n := by simp [markedM]
theorem markedM_at {n i : Nat} (h : i < (markedM n).length) : (markedM n)[i] = markM i := by simp [markedM]
def partMM (S : Mps) (k : Nat) : Mps := markedM k ++ S.drop k
theorem partMM_zero (S : Mps) : partMM S 0 = S := by simp [partMM, markedM]
theorem partMM_all (S : Mps) : partMM S S.length = markedM S.length := by simp [partMM]
theorem partMM_length (S : Mps) {k : Nat} (h : k ≤ S.length) : (partMM S k).length = S.length := by simp [partMM, markedM_length]; omega
theorem partMM_succ (S : Mps) {k : Nat} (h : k < S.length) : (partMM S k).set k ⟨(1 + 5 * (k : Int)), (1 + 5 * (k : Int) + 1), (1 + 5 * (k : Int) + 2), (1 + 5 * (k : Int) + 3), (1 + 5 * (k : Int) + 4)⟩ = partMM S (k + 1) := by
  unfold partMM
  rw [List.set_append, markedM_length, if_neg (by omega), Nat.sub_self, List.drop_eq_getElem_cons h, List.set_cons_zero]
  have e : markedM (k + 1) = markedM k ++ [markM k] := by simp [markedM, List.range_succ]
  rw [e, List.append_assoc]
  rfl
theorem markedM_fits {n : Nat} (h : n ≤ 1048576) : FitsM (markedM n) := by
  intro p hp
  simp only [markedM, List.mem_map, List.mem_range] at hp
  obtain ⟨i, hi, rfl⟩ := hp
  simp only [Mp.ok, markM]
  omega

set_option maxHeartbeats 1000000 in
theorem markMS_any (v : Value) (S : Mps) (w : World) (base : Nat) (ho : w.ownsRow base 55 5 v S.length (flatM S)) (hl : S.length ≤ 1048576) :
    Calls Try.prog 13 #[v, .int .i64 1] w fun e w' => e = .returned (.int .i64 (1 + 5 * (S.length : Int))) ∧ w'.ownsRow base 55 5 v S.length (flatM (markedM S.length)) ∧ w.grownBy w' v.ownBlock := by
  rcases ho.2 with ⟨rfl, h0⟩ | ⟨g, cap, cur, rfl, _⟩
  · go_enter Try.func13, Try.ntmps13
    go_wp2
    refine wp_loop_rounds 1 ?_
    rw [rounds_succ]
    go_wp2
    go_ret
    have hn : S = [] := List.eq_nil_of_length_eq_zero h0
    subst hn
    exact ⟨rfl, ho, World.grownBy.refl _ _⟩
  · go_enter Try.func13, Try.ntmps13
    go_wp2
    go_loopw [1, 5] (fun m i wr => ∃ k : Nat, k ≤ S.length ∧ i = .int .i64 k ∧ m = .int .i64 (1 + 5 * (k : Int)) ∧ wr.ownsRow base 55 5 (.slice (some ⟨g, 0, none⟩) S.length cap) S.length (flatM (partMM S k)) ∧ w.grownBy wr (some g))
      (fun _ i _ => S.length - (intOf i).toNat)
    case atStart => exact ⟨0, Nat.zero_le _, rfl, by simp, by rw [partMM_zero]; exact ho, World.grownBy.refl _ _⟩
    case round =>
      obtain ⟨k, hk, rfl, rfl, hown, hg⟩ := hrel
      by_cases hlt : k < S.length
      · obtain ⟨f0, f1, f2, f3, f4, ⟨u0, g0⟩, ⟨u1, g1⟩, ⟨u2, g2⟩, ⟨u3, g3⟩, ⟨u4, g4⟩⟩ := placeM hown hlt
        have hl2 := partMM_length S hk
        have ho2 := hown
        rw [← hl2] at ho2
        have hn2 := storedM ho2 k (by omega) (1 + 5 * (k : Int)) (1 + 5 * (k : Int) + 1) (1 + 5 * (k : Int) + 2) (1 + 5 * (k : Int) + 3) (1 + 5 * (k : Int) + 4)
        rw [partMM_succ S hlt, hl2] at hn2
        have hg2 := grown_trans hg (grownM wr g k (1 + 5 * (k : Int)) (1 + 5 * (k : Int) + 1) (1 + 5 * (k : Int) + 2) (1 + 5 * (k : Int) + 3) (1 + 5 * (k : Int) + 4))
        clear ho2 hown hg ho
        go_wp2
        go_roundw
        case rel => exact ⟨k + 1, by omega, by go_num, by go_num, hn2, hg2⟩
        case measure => simp [intOf]; omega
      · go_wp2
        go_ret
        have : k = S.length := by omega
        subst this
        rw [partMM_all] at hown
        exact ⟨rfl, hown, hg⟩

set_option maxHeartbeats 1000000 in
theorem heldMS_any (a : Option Addr) (n cap : Nat) (w : World) (hS : LieM w a (markedM n)) (hl : n ≤ 1048576) :
    Calls Try.prog 14 #[.slice a n cap, .int .i64 1] w fun e w' => e = .returned (.int .i64 (1 + 5 * (n : Int))) ∧ w' = w := by
  go_enter Try.func14, Try.ntmps14
  go_wp2
  go_loop [1, 5] (fun m i => ∃ k : Nat, k ≤ n ∧ i = .int .i64 k ∧ m = .int .i64 (1 + 5 * (k : Int))) (fun _ i => n - (intOf i).toNat)
  case atStart => exact ⟨0, Nat.zero_le _, rfl, by simp⟩
  case round =>
    obtain ⟨k, hk, rfl, rfl⟩ := hrel
    by_cases hlt : k < n
    · rcases hS with h | ⟨b, off, rfl, hc⟩
      · have := markedM_length n; rw [h] at this; simp at this; omega
      · obtain ⟨h0, h1, h2, h3, h4⟩ := hc k (by rw [markedM_length]; exact hlt)
        rw [markedM_at] at h0 h1 h2 h3 h4
        simp only [markM] at h0 h1 h2 h3 h4
        clear hc
        go_wp2
        go_round
        case rel => exact ⟨k + 1, by omega, by go_num, by go_num⟩
        case measure => simp [intOf]; omega
    · go_wp2
      go_ret
      have : k = n := by omega
      subst this
      exact ⟨rfl, rfl⟩

theorem liesM_cells {w : World} {b off : Nat} {S : Mps} (hc : ∀ i, ∀ h : i < S.length, w.cell? ⟨b, off + i * 5, none⟩ = some (.int .u64 (S[i]).off) ∧ w.cell? ⟨b, off + i * 5 + 1, none⟩ = some (.int .i64 (S[i]).len) ∧ w.cell? ⟨b, off + i * 5 + 2, none⟩ = some (.int .i64 (S[i]).fin) ∧ w.cell? ⟨b, off + i * 5 + 3, none⟩ = some (.int .i64 (S[i]).car) ∧ w.cell? ⟨b, off + i * 5 + 4, none⟩ = some (.int .i64 (S[i]).que)) :
    ∀ j u, (flatM S)[j]? = some u → w.cell? ((⟨b, off, none⟩ : Addr).add j) = some u := by
  intro j u hj
  have hjl : j < (flatM S).length := (List.getElem?_eq_some_iff.1 hj).1
  rw [flatM_length] at hjl
  have add : (⟨b, off, none⟩ : Addr).add j = ⟨b, off + j, none⟩ := by
    unfold Addr.add
    split <;> simp_all
  rw [add]
  obtain ⟨h0, h1, h2, h3, h4⟩ := hc (j / 5) (by omega)
  obtain ⟨g0, g1, g2, g3, g4⟩ := flatM_at (S := S) (i := j / 5) (by omega)
  rcases (show j = j / 5 * 5 ∨ j = j / 5 * 5 + 1 ∨ j = j / 5 * 5 + 2 ∨ j = j / 5 * 5 + 3 ∨ j = j / 5 * 5 + 4 by omega) with h | h | h | h | h
  · rw [← h] at g0; rw [show off + j / 5 * 5 = off + j by omega] at h0; rw [h0, ← hj, g0]
  · rw [← h] at g1; rw [show off + j / 5 * 5 + 1 = off + j by omega] at h1; rw [h1, ← hj, g1]
  · rw [← h] at g2; rw [show off + j / 5 * 5 + 2 = off + j by omega] at h2; rw [h2, ← hj, g2]
  · rw [← h] at g3; rw [show off + j / 5 * 5 + 3 = off + j by omega] at h3; rw [h3, ← hj, g3]
  · rw [← h] at g4; rw [show off + j / 5 * 5 + 4 = off + j by omega] at h4; rw [h4, ← hj, g4]

theorem flatM_one_cell (T : Mps) : ∀ u ∈ flatM T, u.oneCell' = true := by
  intro u hu
  simp only [flatM, List.mem_flatMap] at hu
  obtain ⟨p, _, hu⟩ := hu
  simp at hu
  rcases hu with rfl | rfl | rfl | rfl | rfl <;> rfl

/-- One append of one struct that lies in block b, in a walk. -/
theorem wpList_oneM (w : World) {ops : Array Oper} {rest : List Oper} {o : Oper} {a : Act} {Q : Exit → Act → World → Prop} (hgd : o.guard = none) (s x : Operand)
    (ho : o.op = .call { callee := .builtin .append, args := #[s, x], argTypes := #[25, 25] })
    (base : Nat) (av : Option Addr) (n cap : Nat) (S : Mps) (hn : S.length = n) (c0 c1 c2 c3 c4 : Int) (hs : a.eval s = .slice av n cap) (hown : w.ownsRow base 55 5 (.slice av n cap) n (flatM S))
    (b : Nat) (hx : a.eval x = .slice (some ⟨b, 0, none⟩) 1 1) (hc0 : w.cell? ⟨b, 0, none⟩ = some (.int .u64 c0)) (hc1 : w.cell? ⟨b, 1, none⟩ = some (.int .i64 c1)) (hc2 : w.cell? ⟨b, 2, none⟩ = some (.int .i64 c2)) (hc3 : w.cell? ⟨b, 3, none⟩ = some (.int .i64 c3)) (hc4 : w.cell? ⟨b, 4, none⟩ = some (.int .i64 c4)) (hl : n ≤ 4294967296) (hbase : base ≤ w.heap.size)
    (h : ∀ g cap' w', w'.ownsRow base 55 5 (.slice (some ⟨g, 0, none⟩) (n + 1) cap') (n + 1) (flatM (S ++ [⟨c0, c1, c2, c3, c4⟩])) → w.grownBy w' (Value.slice av n cap).ownBlock →
      wpList Try.prog ops Q rest (a.put o.dst (.slice (some ⟨g, 0, none⟩) (n + 1) cap')) w') : wpList Try.prog ops Q (o :: rest) a w := by
  obtain ⟨i0, hi, hz0, hz1, hz2⟩ := info_parts infoM
  refine wpList_append_own w hgd s x 25 ho base 55 i0 (.agg #[.int .u64 0, .int .i64 0, .int .i64 0, .int .i64 0, .int .i64 0]) 5 40 Try.underlying25 hi hz0 hz1 hz2 rfl (by decide) (.slice av n cap) n (flatM S) hs hown ⟨b, 0, none⟩ 1 1 [.int .u64 c0, .int .i64 c1, .int .i64 c2, .int .i64 c3, .int .i64 c4] hx rfl ?_ ?_ ?_ ?_ hbase ?_
  · intro j u hj
    match j, hj with
    | 0, hj => simp at hj; subst hj; rw [← hc0]; congr 1
    | 1, hj => simp at hj; subst hj; rw [← hc1]; congr 1
    | 2, hj => simp at hj; subst hj; rw [← hc2]; congr 1
    | 3, hj => simp at hj; subst hj; rw [← hc3]; congr 1
    | 4, hj => simp at hj; subst hj; rw [← hc4]; congr 1
  · intro u hu; simp at hu; rcases hu with rfl | rfl | rfl | rfl | rfl <;> rfl
  · unfold maxLen; omega
  · omega
  · intro v' w' h2 h3 h4
    rcases h2.2 with ⟨rfl, h0⟩ | ⟨g, cap', cur, rfl, rest⟩
    · omega
    · exact h g cap' w' (by rw [flatM_append, flatM_one]; exact h2) h3

/-- One append of many structs, in a walk. -/
theorem wpList_manyM (w : World) {ops : Array Oper} {rest : List Oper} {o : Oper} {a : Act} {Q : Exit → Act → World → Prop} (hgd : o.guard = none) (s x : Operand)
    (ho : o.op = .call { callee := .builtin .append, args := #[s, x], argTypes := #[25, 25] })
    (base : Nat) (av : Option Addr) (n cap : Nat) (S : Mps) (hn : S.length = n) (hs : a.eval s = .slice av n cap) (hown : w.ownsRow base 55 5 (.slice av n cap) n (flatM S))
    (src : Option Addr) (T : Mps) (m c : Nat) (hm : T.length = m) (hx : a.eval x = .slice src m c) (hnone : src = none → c = 0) (hT : LieM w src T) (hl : n + m ≤ 4294967296) (hbase : base ≤ w.heap.size)
    (h : ∀ av' cap' w', w'.ownsRow base 55 5 (.slice av' (n + m) cap') (n + m) (flatM (S ++ T)) → w.grownBy w' (Value.slice av n cap).ownBlock →
      wpList Try.prog ops Q rest (a.put o.dst (.slice av' (n + m) cap')) w') : wpList Try.prog ops Q (o :: rest) a w := by
  obtain ⟨i0, hi, hz0, hz1, hz2⟩ := info_parts infoM
  cases src with
  | none =>
    have hT0 : T = [] := by
      rcases hT with h | ⟨_, _, h, _⟩
      · exact h
      · cases h
    subst hT0
    have hc0 := hnone rfl
    simp at hm
    subst hm hc0
    refine wpList_append_own_none hgd s x 25 ho base 55 i0 5 Try.underlying25 hi _ n (flatM S) hs hown hx ?_
    exact h av cap w (by simpa using hown) (World.grownBy.refl _ _)
  | some ad =>
    refine wpList_append_own w hgd s x 25 ho base 55 i0 (.agg #[.int .u64 0, .int .i64 0, .int .i64 0, .int .i64 0, .int .i64 0]) 5 40 Try.underlying25 hi hz0 hz1 hz2 rfl (by decide) (.slice av n cap) n (flatM S) hs hown ad m c (flatM T) hx (by rw [flatM_length, hm]) ?_ (flatM_one_cell T) ?_ ?_ hbase ?_
    · rcases hT with h0 | ⟨b, off, h0, hc⟩
      · intro j u hj
        rw [h0] at hj
        simp [flatM] at hj
      · simp only [Option.some.injEq] at h0
        subst h0
        exact liesM_cells hc
    · unfold maxLen; omega
    · omega
    · intro v' w' h2 h3 h4
      rw [← flatM_append] at h2
      rcases h2.2 with ⟨h5, h0⟩ | ⟨g, cap', cur, h5, rest⟩
      · subst h5
        have := h none 0 w'
        rw [h0] at this h2
        exact this h2 h3
      · subst h5
        exact h _ cap' w' h2 h3

theorem copyListM (a : Option Addr) (S : Mps) (n cap : Nat) (hn : S.length = n) (w : World) (hS : LieM w a S) (hl : n ≤ 1048576) (hnone : a = none → cap = 0) :
    Calls Try.prog 43 #[.slice a n cap] w fun e w' => ∃ av cp, e = .returned (.slice av n cp) ∧ w'.ownsRow w.heap.size 55 5 (.slice av n cp) n (flatM S) ∧ Below w.heap.size w w' := by
  have hnil := World.ownsRow_nil w w.heap.size 55 5
  go_enter Try.func43, Try.ntmps43
  go_wp2_with (at_builtin; refine wpList_manyM _ rfl _ _ rfl w.heap.size none 0 0 [] rfl rfl hnil a S n cap hn rfl hnone hS (by omega) (Nat.le_refl _) ?_; intro av cp w1 ho1 hg1)
  go_ret
  exact ⟨av, cp, by simp, by simpa using ho1, (Below.refl _ _).grown hg1 (Nat.le_refl _) (by simp [Value.ownBlock])⟩

theorem LieM.take {w : World} {a : Option Addr} {S : Mps} (h : LieM w a S) (k : Nat) : LieM w a (S.take k) := by
  rcases h with h | ⟨b, off, ha, hc⟩
  · exact .inl (by simp [h])
  · refine .inr ⟨b, off, ha, fun i hi => ?_⟩
    simp only [List.length_take] at hi
    simpa using hc i (by omega)
theorem LieM.drop {w : World} {b off : Nat} {S : Mps} (h : LieM w (some ⟨b, off, none⟩) S) (k : Nat) : LieM w (some ⟨b, off + k * 5, none⟩) (S.drop k) := by
  rcases h with h | ⟨b', off', ha, hc⟩
  · exact .inl (by simp [h])
  · simp only [Option.some.injEq, Addr.mk.injEq, and_true] at ha
    obtain ⟨rfl, rfl⟩ := ha
    refine .inr ⟨b, off + k * 5, rfl, fun i hi => ?_⟩
    simp only [List.length_drop] at hi
    have := hc (k + i) (by omega)
    simp only [List.getElem_drop]
    rw [show off + k * 5 + i * 5 = off + (k + i) * 5 by omega]
    exact this
theorem liesM_none_left {w : World} {a : Option Addr} {S : Mps} {k : Nat} (hk : S.length ≤ k) : LieM w a (S.drop k) := .inl (List.drop_eq_nil_of_le hk)
end Go.Proofs.Ytlagaiekoahjnaa
