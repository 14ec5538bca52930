import Derived.Test.YtjiaiaclmceeeaaGreatDoorLMap1
import Derived.Lib.SmallJoins
import Derived.Deep.Cut
namespace Go.Proofs.YtjiaiaclmceeeaaGreatDoor
open Go.ChangeShapes Go.WideShapes Go.ChangeAt Go.RowKit
set_option linter.unusedVariables false

/-- The table's words, their numbers and kinds. -/
def table : List (ByteArray × Int × List Int) := [(⟨#[119, 114, 105, 116, 101]⟩, 1, [4]), (⟨#[102, 105, 108, 108]⟩, 2, [0, 5]), (⟨#[114, 101, 97, 100]⟩, 3, [0]), (⟨#[99, 108, 111, 115, 101]⟩, 4, []), (⟨#[97, 98, 111, 114, 116]⟩, 5, []), (⟨#[116, 105, 99, 107]⟩, 6, []), (⟨#[119, 116, 105, 99, 107]⟩, 7, []), (⟨#[114, 116, 105, 99, 107]⟩, 8, []), (⟨#[100, 101, 108, 105, 118, 101, 114]⟩, 9, [1, 3, 2]), (⟨#[100, 114, 111, 112]⟩, 10, [1, 3, 2]), (⟨#[100, 117, 112]⟩, 11, [1, 3, 2]), (⟨#[99, 117, 116]⟩, 12, [1]), (⟨#[117, 112]⟩, 13, [1]), (⟨#[112, 105, 99, 107]⟩, 14, [0]), (⟨#[105, 110, 106, 101, 99, 116]⟩, 15, [1, 3, 6]), (⟨#[102, 97, 105, 114]⟩, 16, [1]), (⟨#[115, 116, 97, 116]⟩, 17, [])]
theorem ints_box (w : World) (ks : List Int) (o : Obj) (ho : o = .cells (ks.map (Value.int .i64)).toArray 2 (0, 0)) (bb : Nat) (hb : bb = w.heap.size) : Ints .i64 (w.alloc o) (some ⟨bb, 0, none⟩) ks := by
  subst ho hb
  refine .inr ⟨w.heap.size, 0, rfl, fun i hi => ?_⟩
  rw [Go.Joins.cell_of_block (heap_alloc_new w _) (0 + i)]
  simp [hi]
set_option maxHeartbeats 2000000 in
set_option maxRecDepth 100000 in
theorem orders_any (b : Nat) (w : World) : Calls Tryz.prog 13 #[.pointer (some ⟨b, 0, none⟩)] w fun e w' => ∃ B L, e = .returned (.map (some B)) ∧ L.map (fun e => (e.key, e.op, e.kinds)) = table ∧ OrdAt w w' B L := by
  have hO : OrdAt w (w.alloc (.map #[] 0)) w.heap.size [] := ⟨heap_alloc_new _ _, by simp, Nat.le_refl _, (Below.refl _ _).alloc (Nat.le_refl _) _⟩
  have hmm := @run_makeMap Tryz.prog
  go_enter Tryz.func13, Tryz.ntmps13
  go_upto_region 1 with fail
  iterate 3 (first | go_values | go_skip | go_guarded | go_step | go_upon | go_back | go_simp)
  iterate 8 (first | go_values | go_skip | go_guarded | go_step | go_upon | go_back | go_simp)
  (refine wpList_ins w _ (by rfl) _ _ _ (by rfl) _ _ (hO.alloc _) ⟨⟨#[119, 114, 105, 116, 101]⟩, 1, [4], (some ⟨_, 0, none⟩), 1, _, _⟩ (by rfl) (by rfl) (by rfl) (by kernel_rfl) (ints_box _ _ _ rfl _ (by simp)) ?_ ?_; (intro b' o' hb'; simp at hb'; have hlt := (Array.getElem?_eq_some_iff.1 hO.map).1; omega); clear hO; intro wN hO)
  iterate 8 (first | go_values | go_skip | go_guarded | go_step | go_upon | go_back | go_simp)
  (refine wpList_ins w _ (by rfl) _ _ _ (by rfl) _ _ (hO.alloc _) ⟨⟨#[102, 105, 108, 108]⟩, 2, [0, 5], (some ⟨_, 0, none⟩), 2, _, _⟩ (by rfl) (by rfl) (by rfl) (by kernel_rfl) (ints_box _ _ _ rfl _ (by simp)) ?_ ?_; (intro b' o' hb'; simp at hb'; have hlt := (Array.getElem?_eq_some_iff.1 hO.map).1; omega); clear hO; intro wN hO)
  iterate 8 (first | go_values | go_skip | go_guarded | go_step | go_upon | go_back | go_simp)
  (refine wpList_ins w _ (by rfl) _ _ _ (by rfl) _ _ (hO.alloc _) ⟨⟨#[114, 101, 97, 100]⟩, 3, [0], (some ⟨_, 0, none⟩), 1, _, _⟩ (by rfl) (by rfl) (by rfl) (by kernel_rfl) (ints_box _ _ _ rfl _ (by simp)) ?_ ?_; (intro b' o' hb'; simp at hb'; have hlt := (Array.getElem?_eq_some_iff.1 hO.map).1; omega); clear hO; intro wN hO)
  iterate 6 (first | go_values | go_skip | go_guarded | go_step | go_upon | go_back | go_simp)
  (refine wpList_ins w _ (by rfl) _ _ _ (by rfl) _ _ hO ⟨⟨#[99, 108, 111, 115, 101]⟩, 4, [], none, 0, _, _⟩ (by rfl) (by rfl) (by rfl) (by kernel_rfl) (.inl rfl) (by intro b' o' hb'; cases hb') ?_; clear hO; intro wN hO)
  iterate 6 (first | go_values | go_skip | go_guarded | go_step | go_upon | go_back | go_simp)
  (refine wpList_ins w _ (by rfl) _ _ _ (by rfl) _ _ hO ⟨⟨#[97, 98, 111, 114, 116]⟩, 5, [], none, 0, _, _⟩ (by rfl) (by rfl) (by rfl) (by kernel_rfl) (.inl rfl) (by intro b' o' hb'; cases hb') ?_; clear hO; intro wN hO)
  iterate 6 (first | go_values | go_skip | go_guarded | go_step | go_upon | go_back | go_simp)
  (refine wpList_ins w _ (by rfl) _ _ _ (by rfl) _ _ hO ⟨⟨#[116, 105, 99, 107]⟩, 6, [], none, 0, _, _⟩ (by rfl) (by rfl) (by rfl) (by kernel_rfl) (.inl rfl) (by intro b' o' hb'; cases hb') ?_; clear hO; intro wN hO)
  iterate 6 (first | go_values | go_skip | go_guarded | go_step | go_upon | go_back | go_simp)
  (refine wpList_ins w _ (by rfl) _ _ _ (by rfl) _ _ hO ⟨⟨#[119, 116, 105, 99, 107]⟩, 7, [], none, 0, _, _⟩ (by rfl) (by rfl) (by rfl) (by kernel_rfl) (.inl rfl) (by intro b' o' hb'; cases hb') ?_; clear hO; intro wN hO)
  iterate 6 (first | go_values | go_skip | go_guarded | go_step | go_upon | go_back | go_simp)
  (refine wpList_ins w _ (by rfl) _ _ _ (by rfl) _ _ hO ⟨⟨#[114, 116, 105, 99, 107]⟩, 8, [], none, 0, _, _⟩ (by rfl) (by rfl) (by rfl) (by kernel_rfl) (.inl rfl) (by intro b' o' hb'; cases hb') ?_; clear hO; intro wN hO)
  iterate 8 (first | go_values | go_skip | go_guarded | go_step | go_upon | go_back | go_simp)
  (refine wpList_ins w _ (by rfl) _ _ _ (by rfl) _ _ (hO.alloc _) ⟨⟨#[100, 101, 108, 105, 118, 101, 114]⟩, 9, [1, 3, 2], (some ⟨_, 0, none⟩), 3, _, _⟩ (by rfl) (by rfl) (by rfl) (by kernel_rfl) (ints_box _ _ _ rfl _ (by simp)) ?_ ?_; (intro b' o' hb'; simp at hb'; have hlt := (Array.getElem?_eq_some_iff.1 hO.map).1; omega); clear hO; intro wN hO)
  first
    | ((iterate 9 (first | go_values | go_skip | go_guarded | go_step | go_upon | go_back | go_simp)); (refine wpList_ins w _ (by rfl) _ _ _ (by rfl) _ _ (hO.alloc _) ⟨⟨#[100, 114, 111, 112]⟩, 10, [1, 3, 2], (some ⟨_, 0, none⟩), 3, _, _⟩ (by rfl) (by rfl) (by rfl) (by kernel_rfl) (ints_box _ _ _ rfl _ (by simp)) ?_ ?_; (intro b' o' hb'; simp at hb'; have hlt := (Array.getElem?_eq_some_iff.1 hO.map).1; omega); clear hO; intro wN hO))
    | ((iterate 10 (first | go_values | go_skip | go_guarded | go_step | go_upon | go_back | go_simp)); (refine wpList_ins w _ (by rfl) _ _ _ (by rfl) _ _ (hO.alloc _) ⟨⟨#[100, 114, 111, 112]⟩, 10, [1, 3, 2], (some ⟨_, 0, none⟩), 3, _, _⟩ (by rfl) (by rfl) (by rfl) (by kernel_rfl) (ints_box _ _ _ rfl _ (by simp)) ?_ ?_; (intro b' o' hb'; simp at hb'; have hlt := (Array.getElem?_eq_some_iff.1 hO.map).1; omega); clear hO; intro wN hO))
    | ((iterate 11 (first | go_values | go_skip | go_guarded | go_step | go_upon | go_back | go_simp)); (refine wpList_ins w _ (by rfl) _ _ _ (by rfl) _ _ (hO.alloc _) ⟨⟨#[100, 114, 111, 112]⟩, 10, [1, 3, 2], (some ⟨_, 0, none⟩), 3, _, _⟩ (by rfl) (by rfl) (by rfl) (by kernel_rfl) (ints_box _ _ _ rfl _ (by simp)) ?_ ?_; (intro b' o' hb'; simp at hb'; have hlt := (Array.getElem?_eq_some_iff.1 hO.map).1; omega); clear hO; intro wN hO))
  iterate 12 (first | go_values | go_skip | go_guarded | go_step | go_upon | go_back | go_simp)
  (refine wpList_ins w _ (by rfl) _ _ _ (by rfl) _ _ (hO.alloc _) ⟨⟨#[100, 117, 112]⟩, 11, [1, 3, 2], (some ⟨_, 0, none⟩), 3, _, _⟩ (by rfl) (by rfl) (by rfl) (by kernel_rfl) (ints_box _ _ _ rfl _ (by simp)) ?_ ?_; (intro b' o' hb'; simp at hb'; have hlt := (Array.getElem?_eq_some_iff.1 hO.map).1; omega); clear hO; intro wN hO)
  iterate 12 (first | go_values | go_skip | go_guarded | go_step | go_upon | go_back | go_simp)
  (refine wpList_ins w _ (by rfl) _ _ _ (by rfl) _ _ (hO.alloc _) ⟨⟨#[99, 117, 116]⟩, 12, [1], (some ⟨_, 0, none⟩), 1, _, _⟩ (by rfl) (by rfl) (by rfl) (by kernel_rfl) (ints_box _ _ _ rfl _ (by simp)) ?_ ?_; (intro b' o' hb'; simp at hb'; have hlt := (Array.getElem?_eq_some_iff.1 hO.map).1; omega); clear hO; intro wN hO)
  iterate 12 (first | go_values | go_skip | go_guarded | go_step | go_upon | go_back | go_simp)
  (refine wpList_ins w _ (by rfl) _ _ _ (by rfl) _ _ (hO.alloc _) ⟨⟨#[117, 112]⟩, 13, [1], (some ⟨_, 0, none⟩), 1, _, _⟩ (by rfl) (by rfl) (by rfl) (by kernel_rfl) (ints_box _ _ _ rfl _ (by simp)) ?_ ?_; (intro b' o' hb'; simp at hb'; have hlt := (Array.getElem?_eq_some_iff.1 hO.map).1; omega); clear hO; intro wN hO)
  iterate 12 (first | go_values | go_skip | go_guarded | go_step | go_upon | go_back | go_simp)
  (refine wpList_ins w _ (by rfl) _ _ _ (by rfl) _ _ (hO.alloc _) ⟨⟨#[112, 105, 99, 107]⟩, 14, [0], (some ⟨_, 0, none⟩), 1, _, _⟩ (by rfl) (by rfl) (by rfl) (by kernel_rfl) (ints_box _ _ _ rfl _ (by simp)) ?_ ?_; (intro b' o' hb'; simp at hb'; have hlt := (Array.getElem?_eq_some_iff.1 hO.map).1; omega); clear hO; intro wN hO)
  iterate 12 (first | go_values | go_skip | go_guarded | go_step | go_upon | go_back | go_simp)
  (refine wpList_ins w _ (by rfl) _ _ _ (by rfl) _ _ (hO.alloc _) ⟨⟨#[105, 110, 106, 101, 99, 116]⟩, 15, [1, 3, 6], (some ⟨_, 0, none⟩), 3, _, _⟩ (by rfl) (by rfl) (by rfl) (by kernel_rfl) (ints_box _ _ _ rfl _ (by simp)) ?_ ?_; (intro b' o' hb'; simp at hb'; have hlt := (Array.getElem?_eq_some_iff.1 hO.map).1; omega); clear hO; intro wN hO)
  iterate 12 (first | go_values | go_skip | go_guarded | go_step | go_upon | go_back | go_simp)
  (refine wpList_ins w _ (by rfl) _ _ _ (by rfl) _ _ (hO.alloc _) ⟨⟨#[102, 97, 105, 114]⟩, 16, [1], (some ⟨_, 0, none⟩), 1, _, _⟩ (by rfl) (by rfl) (by rfl) (by kernel_rfl) (ints_box _ _ _ rfl _ (by simp)) ?_ ?_; (intro b' o' hb'; simp at hb'; have hlt := (Array.getElem?_eq_some_iff.1 hO.map).1; omega); clear hO; intro wN hO)
  iterate 9 (first | go_values | go_skip | go_guarded | go_step | go_upon | go_back | go_simp)
  (refine wpList_ins w _ (by rfl) _ _ _ (by rfl) _ _ hO ⟨⟨#[115, 116, 97, 116]⟩, 17, [], none, 0, _, _⟩ (by rfl) (by rfl) (by rfl) (by kernel_rfl) (.inl rfl) (by intro b' o' hb'; cases hb') ?_; clear hO; intro wN hO)
  go_wp2_with fail
  go_ret
  exact ⟨w.heap.size, _, rfl, rfl, hO⟩
end Go.Proofs.YtjiaiaclmceeeaaGreatDoor
