import Derived.Test.YtpeecjoadgefjaaRModel
import Derived.Test.YtpeecjoadgefjaaRows1
import Derived.Lib.SmallJoins
namespace Go.Proofs.Ytpeecjoadgefjaa
open Go.ChangeShapes Go.WideShapes Go.ChangeAt Go.RowKit
set_option linter.unusedVariables false

/-! ### The row of slots -/
abbrev SlotL := List (Bool × Int)
def flatB (L : SlotL) : List Value := L.flatMap fun p => [.bool p.1, .int .u8 p.2]
theorem flatB_length (L : SlotL) : (flatB L).length = L.length * 2 := by
  induction L with
  | nil => rfl
  | cons p r ih => simp [flatB] at ih ⊢; omega
theorem flatB_cons (p : Bool × Int) (r : SlotL) : flatB (p :: r) = .bool p.1 :: .int .u8 p.2 :: flatB r := rfl
theorem flatB_at {L : SlotL} {i : Nat} (h : i < L.length) : (flatB L)[i * 2]? = some (.bool (L[i]).1) ∧ (flatB L)[i * 2 + 1]? = some (.int .u8 (L[i]).2) := by
  induction L generalizing i with
  | nil => simp at h
  | cons p r ih =>
    cases i with
    | zero => exact ⟨rfl, rfl⟩
    | succ i =>
      have := ih (i := i) (by simpa using h)
      have e1 : (i + 1) * 2 = i * 2 + 2 := by omega
      rw [e1, flatB_cons]
      simpa using this
theorem flatB_set (L : SlotL) (j : Nat) (p : Bool × Int) (h : j < L.length) : ((flatB L).set (j * 2) (.bool p.1)).set (j * 2 + 1) (.int .u8 p.2) = flatB (L.set j p) := by
  induction L generalizing j with
  | nil => simp at h
  | cons a r ih =>
    cases j with
    | zero => rfl
    | succ j =>
      have := ih j (by simpa using h)
      rw [show (j + 1) * 2 = j * 2 + 2 by omega, flatB_cons]
      simp only [List.set_cons_succ]
      rw [this]
      rfl
theorem flatB_replicate (n : Nat) : flatB (List.replicate n (false, 0)) = (madeCells #[.bool false, .int .u8 0] (n * 2)).toList := by
  refine List.ext_getElem? fun i => ?_
  by_cases hi : i < n * 2
  · have hq : i / 2 < (List.replicate n (false, (0 : Int))).length := by simp; omega
    obtain ⟨h0, h1⟩ := flatB_at (L := List.replicate n (false, (0 : Int))) hq
    have hr : (madeCells #[.bool false, .int .u8 0] (n * 2)).toList[i]? = #[.bool false, .int .u8 0][i % 2]? := by
      simp only [madeCells, Array.toList_map, List.getElem?_map]
      rcases (show i % 2 = 0 ∨ i % 2 = 1 by omega) with h | h <;> simp [h, hi]
    rw [hr]
    rcases (show i = i / 2 * 2 ∧ i % 2 = 0 ∨ i = i / 2 * 2 + 1 ∧ i % 2 = 1 by omega) with h | h
    · rw [← h.1] at h0; rw [h0, h.2]; simp
    · rw [← h.1] at h1; rw [h1, h.2]; simp
  · rw [List.getElem?_eq_none (by rw [flatB_length]; simp; omega), List.getElem?_eq_none (by simp [madeCells]; omega)]

/-- What a place holds. -/
def slotV (o : Option Int) : Bool × Int := match o with
  | some v => (true, v)
  | none => (false, 0)
/-- The slots of a buffer of z places. -/
structure SlotsAt (z : Nat) (s : RB) (L : SlotL) : Prop where
  len : L.length = z
  at_ : ∀ x : Int, s.read ≤ x → x < s.read + z → L[(x % z).toNat]? = some (slotV (s.f x))

/-- A buffer in block B, its slots in a row of the call's own. -/
structure BufAt (w : World) (B base : Nat) (z : Nat) (s : RB) (g cap : Nat) (L : SlotL) : Prop where
  blk : w.heap[B]? = some (.cells #[.slice (some ⟨g, 0, none⟩) z cap, .int .u64 s.read, .int .i64 s.hf, .int .u64 s.fin] 88 (0, 0))
  row : w.ownsRow base 128 2 (.slice (some ⟨g, 0, none⟩) z cap) z (flatB L)
  sl : SlotsAt z s L
  z1 : 1 ≤ z
  z2 : z ≤ 4096
  r0 : 0 ≤ s.read
  r1 : s.read ≤ 9000000000000000000
theorem BufAt.cells {w : World} {B base z g cap : Nat} {s : RB} {L : SlotL} (h : BufAt w B base z s g cap L) :
    (w.cell? ⟨B, 0, none⟩ = some (.slice (some ⟨g, 0, none⟩) z cap) ∧ w.cell? ⟨B, 1, none⟩ = some (.int .u64 s.read) ∧ w.cell? ⟨B, 2, none⟩ = some (.int .i64 s.hf) ∧ w.cell? ⟨B, 3, none⟩ = some (.int .u64 s.fin)) ∧ (∀ j, w.frozen? ⟨B, j, none⟩ = false) :=
  ⟨⟨Go.Joins.cell_of_block h.blk 0, Go.Joins.cell_of_block h.blk 1, Go.Joins.cell_of_block h.blk 2, Go.Joins.cell_of_block h.blk 3⟩, fun j => Go.Joins.unfrozen_of_block h.blk j⟩
theorem mod_lt {x : Int} {z : Nat} (h1 : 1 ≤ z) : (x % z).toNat < z := by
  have h2 := Int.emod_nonneg x (show (z : Int) ≠ 0 by omega)
  have h3 := Int.emod_lt_of_pos x (show (0 : Int) < z by omega)
  omega
/-- The slot of a place. -/
theorem BufAt.slot {w : World} {B base z g cap : Nat} {s : RB} {L : SlotL} (h : BufAt w B base z s g cap L) {x : Int} (h1 : s.read ≤ x) (h2 : x < s.read + z) :
    w.cell? ⟨g, (x % z).toNat * 2, none⟩ = some (.bool (slotV (s.f x)).1) ∧ w.cell? ⟨g, (x % z).toNat * 2 + 1, none⟩ = some (.int .u8 (slotV (s.f x)).2) := by
  have hz := h.z1
  have hm : (x % z).toNat < L.length := by rw [h.sl.len]; exact mod_lt hz
  have ha := h.sl.at_ x h1 h2
  rw [List.getElem?_eq_getElem hm, Option.some.injEq] at ha
  obtain ⟨f0, f1⟩ := flatB_at hm
  rw [ha] at f0 f1
  have hL := h.sl.len
  exact ⟨by rw [h.row.cellAt _ (by omega)]; exact f0, by rw [h.row.cellAt _ (by omega)]; exact f1⟩
end Go.Proofs.Ytpeecjoadgefjaa
