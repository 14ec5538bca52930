import Derived.Test.YtjiaiaclmceeeaaRows
import Derived.WalkKit
import Derived.ProofKit
import Derived.OpenShut
import Derived.ShutString
import Derived.Below
import Derived.OwnWalk
import Derived.Laws.OwnMore
import Derived.Deep.OwnRows
import Derived.Laws.BitsAllLaws
namespace Go.Proofs.Ytjiaiaclmceeeaa
open Go.ChangeShapes Go.WideShapes Go.ChangeAt Go.RowKit
set_option linter.unusedVariables false

/-- The integers zs lie at a, one a cell. -/
def Ints (k : IntKind) (w : World) (a : Option Addr) (zs : List Int) : Prop :=
  zs = [] ∨ ∃ b off, a = some ⟨b, off, none⟩ ∧ ∀ i, i < zs.length → w.cell? ⟨b, off + i, none⟩ = some (.int k (zs.getD i 0))

theorem Ints.nil (k : IntKind) (w : World) (a : Option Addr) : Ints k w a [] := .inl rfl

theorem Ints.moved {k : IntKind} {w w' : World} {a : Option Addr} {zs : List Int} (h : Ints k w a zs) (hb : Below w.heap.size w w') : Ints k w' a zs := by
  rcases h with h | ⟨b, off, ha, hc⟩
  · exact .inl h
  · refine .inr ⟨b, off, ha, fun i hi => ?_⟩
    rw [hb.cell (World.block_lt_of_cell? w _ (hc i hi))]
    exact hc i hi

/-- Of a row that is owned. -/
theorem Ints.owned {k : IntKind} {w : World} {base : Nat} {e : TypeId} {g n cap : Nat} {zs : List Int} (h : w.ownsRow base e 1 (.slice (some ⟨g, 0, none⟩) n cap) n (zs.map (.int k))) : Ints k w (some ⟨g, 0, none⟩) zs := by
  refine .inr ⟨g, 0, rfl, fun i hi => ?_⟩
  have hl := h.1
  simp at hl
  rw [Nat.zero_add, h.cellAt i (by omega)]
  simp [hi]

/-- Of a row that came in. -/
theorem Ints.came {k : IntKind} {w : World} {x : Addr} {len : Nat} {z : List Int} (hl : len ≤ z.length) (hcell : ∀ i, i < z.length → w.cell? (x.add i) = some (.int k (z.getD i 0))) : Ints k w (some x) (z.take len) := by
  by_cases h0 : len = 0
  · subst h0
    exact .inl (by simp)
  · obtain ⟨b, off, spot⟩ := x
    have hspot : spot = none := by simpa [Addr.add] using World.cell?_spot (hcell 0 (by omega))
    subst hspot
    refine .inr ⟨b, off, rfl, fun i hi => ?_⟩
    simp only [List.length_take] at hi
    have h := hcell i (by omega)
    have e : (z.take len).getD i 0 = z.getD i 0 := by simp [show i < len by omega]
    rw [e, ← h]
    congr 1
    unfold Addr.add
    split <;> simp_all

/-- A row of bytes that came in. -/
theorem bytesCame {w : World} {a : Option Addr} {len cap : Nat} {z : List Int}
    (h : (a = none ∧ len = 0 ∧ cap = 0 ∧ z = []) ∨ ∃ x, a = some x ∧ len ≤ cap ∧ cap ≤ maxLen ∧ z.length = cap ∧ (∀ i, i < z.length → w.cell? (x.add i) = some (.int .u8 (z.getD i 0))) ∧ ∀ n ∈ z, (Lit.int .u8 n).wf = true) :
    ∃ zs : List Int, zs.length = len ∧ Ints .u8 w a zs ∧ (∀ x ∈ zs, 0 ≤ x ∧ x ≤ 255) ∧ zs.length ≤ 9223372036854775807 := by
  rcases h with ⟨rfl, rfl, rfl, rfl⟩ | ⟨x, rfl, hl, hm, hz, hcell, hw⟩
  · exact ⟨[], rfl, .inl rfl, by simp, by simp⟩
  · unfold maxLen at hm
    exact ⟨z.take len, by simp; omega, Ints.came (by omega) hcell, fun y hy => bounds_u8 (hw y (List.mem_of_mem_take hy)), by simp; omega⟩

theorem owned_length {k : IntKind} {w : World} {base : Nat} {e : TypeId} {v : Value} {n : Nat} {zs : List Int} (h : w.ownsRow base e 1 v n (zs.map (.int k))) : zs.length = n := by
  have hl := h.1
  simpa using hl

/-- A row that is owned stays owned behind what leaves its block alone. -/
theorem owned_moved {w w' : World} {base B : Nat} {e : TypeId} {size : Nat} {v : Value} {n : Nat} {xs : List Value} (h : w.ownsRow base e size v n xs) (hb : Below B w w') (hB : ∀ k, v.ownBlock = some k → k < B) : w'.ownsRow base e size v n xs := by
  refine ⟨h.1, ?_⟩
  rcases h.2 with hn | ⟨g, cap, cur, rfl, hg, hh, rest⟩
  · exact .inl hn
  · refine .inr ⟨g, cap, cur, rfl, hg, ?_, rest⟩
    rw [hb.block g (hB g rfl)]
    exact hh

theorem owned_kept {w w' : World} {base : Nat} {e : TypeId} {size : Nat} {v : Value} {n : Nat} {xs : List Value} (h : w.ownsRow base e size v n xs) (hb : Below w.heap.size w w') : w'.ownsRow base e size v n xs :=
  owned_moved h hb fun k hk => (h.lt k hk).2

theorem ret_int {k : IntKind} {a b : Int} (h : a = b) : Ending.returned (.int k a) = .returned (.int k b) := by rw [h]
theorem ret_bool {a b : Bool} (h : a = b) : Ending.returned (.bool a) = .returned (.bool b) := by rw [h]

theorem isBytes {z : List Int} (h : ∀ x ∈ z, 0 ≤ x ∧ x ≤ 255) (i : Nat) : 0 ≤ z[i]?.getD 0 ∧ z[i]?.getD 0 ≤ 255 := by
  by_cases hi : i < z.length
  · simp [hi]
    exact h _ (List.getElem_mem hi)
  · simp at hi
    simp [hi]

theorem info_byte : (Try.prog.info? 5).map (fun i => (i.zero, i.size, i.bytes)) = some (some (.int .u8 0), 1, 1) := by kernel_rfl

/-- What a copying loop has made of a zero row behind k rounds. -/
def part (zs : List Int) (j : Nat) : List Int := zs.take j ++ List.replicate (zs.length - j) 0

theorem part_zero (zs : List Int) : part zs 0 = List.replicate zs.length 0 := by simp [part]
theorem part_all (zs : List Int) : part zs zs.length = zs := by simp [part]
theorem part_succ (zs : List Int) (j : Nat) (h : j < zs.length) : (part zs j).set j (zs.getD j 0) = part zs (j + 1) := by
  unfold part
  rw [List.set_append]
  simp only [List.length_take]
  rw [if_neg (by omega)]
  have e : zs.length - j = (zs.length - (j + 1)) + 1 := by omega
  have e2 : j - min j zs.length = 0 := by omega
  rw [e2, e, List.replicate_succ, List.set_cons_zero, List.take_succ_eq_append_getElem h]
  simp only [List.append_assoc, List.singleton_append, List.getD_eq_getElem?_getD, List.getElem?_eq_getElem h, Option.getD_some]

/-- The k-th byte under a name of its own. -/
theorem byteAt {w : World} {zs : List Int} {b off k : Nat} (hv : ∀ x ∈ zs, 0 ≤ x ∧ x ≤ 255) (hc : ∀ i, i < zs.length → w.cell? ⟨b, off + i, none⟩ = some (.int .u8 (zs.getD i 0))) (h : k < zs.length) :
    ∃ c : Int, Hid (zs.getD k 0 = c) ∧ 0 ≤ c ∧ c ≤ 255 ∧ w.cell? ⟨b, off + k, none⟩ = some (.int .u8 c) := by
  have e : zs.getD k 0 = zs[k] := by simp [h]
  exact ⟨zs.getD k 0, rfl, by rw [e]; exact (hv _ (List.getElem_mem h)).1, by rw [e]; exact (hv _ (List.getElem_mem h)).2, hc k h⟩

theorem grown_set (w : World) (b j : Nat) (v : Value) : w.grownBy (w.setCell ⟨b, j, none⟩ v) (some b) :=
  ⟨rfl, rfl, rfl, by simp, fun k _ hk => heap_setCell_other w ⟨b, j, none⟩ k v (fun e => hk (by simp [e]))⟩

theorem grown_trans {a b c : World} {row : Option Nat} (h : a.grownBy b row) (k : b.grownBy c row) : a.grownBy c row :=
  ⟨k.os.trans h.os, k.tape.trans h.tape, k.output.trans h.output, Nat.le_trans h.size k.size, fun i hi hne => (k.block i (Nat.lt_of_lt_of_le hi h.size) hne).trans (h.block i hi hne)⟩

end Go.Proofs.Ytjiaiaclmceeeaa
