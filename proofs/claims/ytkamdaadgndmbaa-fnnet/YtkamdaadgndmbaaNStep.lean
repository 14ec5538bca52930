import Derived.Test.YtkamdaadgndmbaaNHandle
namespace Go.Proofs.Ytkamdaadgndmbaa
open Go.ChangeShapes Go.WideShapes Go.ChangeAt Go.RowKit
set_option linter.unusedVariables false

theorem Keeps.set {w V : World} {X base : Nat} (h : Keeps w V X base) (j : Nat) (u : Value) : Keeps w (V.setCell ⟨X, j, none⟩ u) X base :=
  ⟨h.os, h.tape, h.output, by simpa using h.size, fun k hk h1 h2 => (heap_setCell_other V ⟨X, j, none⟩ k u (by simpa using h1)).trans (h.block k hk h1 h2)⟩
/-- A path comes up. -/
theorem NetAt.up {w : World} {X base : Nat} {s : NS} {L : List Lk} (h : NetAt w X base s L) {i : Nat} (hi : i < L.length) : NetAt (w.setCell ⟨X, i * 3, none⟩ (.int .i64 0)) X base (s.up i) (L.set i { L[i] with cut := 0 }) := by
  have hbl : bagsL (L.set i { L[i] with cut := 0 }) = bagsL L := by rw [bagsL_set L i hi, bagsL_split L i hi]
  refine ⟨?_, ?_, fun i' hi' => ?_, fun i' hi' d hd => ?_⟩
  · rw [← flatL_cut L i hi 0, heap_setCell_same _ _ _ _ _ _ h.blk]
    simp
  · rw [hbl]
    exact h.bags.stays fun k c t _ ht hk => heap_setCell_other _ _ _ _ (type_ne hk h.blk (by rcases ht with rfl | rfl <;> decide))
  · rw [List.length_set] at hi'
    rw [List.getElem_set]
    simp only [NS.up]
    split
    · rename_i e; subst e; simp
    · rw [if_neg (by omega)]; exact h.cut i' hi'
  · rw [List.length_set] at hi'
    rw [List.getElem_set]
    have hq := h.bag i' hi' d hd
    split
    · rename_i e; subst e; exact hq
    · exact hq
theorem up_sub (n : Nat) {L : List Lk} {i : Nat} (hi : i < L.length) : SubD n L (L.set i { L[i] with cut := 0 }) := by
  have hbl : bagsL (L.set i { L[i] with cut := 0 }) = bagsL L := by rw [bagsL_set L i hi, bagsL_split L i hi]
  intro p hp q hq k hk
  rw [hbl] at hp
  exact .inr ⟨p, hp, q, hq, hk⟩
def cutLk : Lk := ⟨1, (.slice none 0 0, []), (.slice none 0 0, [])⟩
theorem flatL_all (L : List Lk) (i : Nat) (h : i < L.length) (l : Lk) : (((flatL L).set (i * 3) (.int .i64 l.cut)).set (i * 3 + 1) l.b0.1).set (i * 3 + 2) l.b1.1 = flatL (L.set i l) := by
  induction L generalizing i with
  | nil => simp at h
  | cons p r ih =>
    cases i with
    | zero => rfl
    | succ i =>
      have := ih i (by simpa using h)
      rw [show (i + 1) * 3 = i * 3 + 3 by omega, flatL_cons, show i * 3 + 3 + 1 = i * 3 + 1 + 3 by omega, show i * 3 + 3 + 2 = i * 3 + 2 + 3 by omega]
      simp only [List.set_cons_succ, flatL_cons]
      rw [this]
/-- A path is cut: both bags are empty. -/
theorem NetAt.cutOff {w : World} {X base : Nat} {s : NS} {L : List Lk} (h : NetAt w X base s L) {i : Nat} (hi : i < L.length) : NetAt (((w.setCell ⟨X, i * 3, none⟩ (.int .i64 1)).setCell ⟨X, i * 3 + 1, none⟩ (.slice none 0 0)).setCell ⟨X, i * 3 + 2, none⟩ (.slice none 0 0)) X base (s.cutOff i) (L.set i cutLk) ∧ ∀ n, SubD n L (L.set i cutLk) := by
  have e1 := bagsL_split L i hi
  have e2 := bagsL_set L i hi cutLk
  have hin : ∀ p ∈ bagsL (L.set i cutLk), p = (.slice none 0 0, []) ∨ p ∈ bagsL L := by
    intro p hp
    rw [e2] at hp
    rw [e1]
    simp only [cutLk, List.mem_append, List.mem_cons] at hp ⊢
    rcases hp with hp | hp | hp | hp
    · exact .inr (.inl hp)
    · exact .inl hp
    · exact .inl hp
    · exact .inr (.inr (.inr (.inr hp)))
  have h3 : ∀ k, k ≠ X → (((w.setCell ⟨X, i * 3, none⟩ (.int .i64 1)).setCell ⟨X, i * 3 + 1, none⟩ (.slice none 0 0)).setCell ⟨X, i * 3 + 2, none⟩ (.slice none 0 0)).heap[k]? = w.heap[k]? := fun k hk => by rw [heap_setCell_other _ _ _ _ hk, heap_setCell_other _ _ _ _ hk, heap_setCell_other _ _ _ _ hk]
  have hB := h.bags.stays (w' := ((w.setCell ⟨X, i * 3, none⟩ (.int .i64 1)).setCell ⟨X, i * 3 + 1, none⟩ (.slice none 0 0)).setCell ⟨X, i * 3 + 2, none⟩ (.slice none 0 0)) fun k c t _ ht hk => h3 k (type_ne hk h.blk (by rcases ht with rfl | rfl <;> decide))
  refine ⟨⟨?_, ⟨fun p hp => ?_, fun p hp q hq => ?_, ?_, ?_⟩, fun i' hi' => ?_, fun i' hi' d hd => ?_⟩, fun n p hp q hq k hk => ?_⟩
  · have b1 := heap_setCell_same w X (i * 3) _ _ (.int .i64 1) h.blk
    have b2 := heap_setCell_same _ X (i * 3 + 1) _ _ (.slice none 0 0) b1
    rw [heap_setCell_same _ X (i * 3 + 2) _ _ (.slice none 0 0) b2, ← flatL_all L i hi cutLk]
    simp [cutLk]
  · rcases hin p hp with rfl | hp
    · exact World.ownsRow_nil _ _ _ _
    · exact hB.row p hp
  · rcases hin p hp with rfl | hp
    · cases hq
    · exact hB.dat p hp q hq
  · have := hB.apB
    rw [e1] at this
    rw [e2]
    simp only [cutLk, List.filterMap_append, List.filterMap_cons, Value.ownBlock] at this ⊢
    refine this.sublist (List.Sublist.append_left ?_ _)
    split <;> split <;> first | exact List.Sublist.refl _ | exact List.sublist_cons_self .. | exact (List.sublist_cons_self ..).trans (List.sublist_cons_self ..)
  · have := hB.apD
    rw [e1] at this
    rw [e2]
    simp only [cutLk, List.flatMap_append, List.flatMap_cons, List.filterMap_append, List.nil_append] at this ⊢
    refine this.sublist (List.Sublist.append_left ?_ _)
    exact (List.sublist_append_right _ _).trans (List.sublist_append_right _ _)
  · rw [List.length_set] at hi'
    rw [List.getElem_set]
    simp only [NS.cutOff]
    split
    · rename_i e; subst e; simp [cutLk]
    · rw [if_neg (by omega)]; exact h.cut i' hi'
  · rw [List.length_set] at hi'
    rw [List.getElem_set]
    simp only [NS.cutOff]
    split
    · rename_i e; subst e; simp [cutLk, Lk.bag]
    · rw [if_neg (by omega)]; exact h.bag i' hi' d hd
  · rcases hin p hp with rfl | hp
    · cases hq
    · exact .inr ⟨p, hp, q, hq, hk⟩
end Go.Proofs.Ytkamdaadgndmbaa
