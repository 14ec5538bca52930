import Derived.Test.YtkamdaadgndmbaaNSp2
import Derived.Test.YtkamdaadgndmbaaNTop
namespace Go.Proofs.Ytkamdaadgndmbaa
open Go.ChangeShapes Go.WideShapes Go.ChangeAt Go.RowKit
set_option linter.unusedVariables false

theorem info_i64 : (Try.prog.info? 2).map (fun i => (i.zero, i.size, i.bytes)) = some (some (.int .i64 0), 1, 8) := by kernel_rfl
theorem fill3_other (w : World) {b k : Nat} (h : k ≠ b) (u v s : Value) : (((w.setCell ⟨b, 0, none⟩ u).setCell ⟨b, 1, none⟩ v).setCell ⟨b, 2, none⟩ s).heap[k]? = w.heap[k]? := by
  rw [heap_setCell_other _ _ _ _ h, heap_setCell_other _ _ _ _ h, heap_setCell_other _ _ _ _ h]
theorem fill3_below {B : Nat} {w0 w : World} (h : Below B w0 w) {b : Nat} (hb : B ≤ b) (u v s : Value) : Below B w0 (((w.setCell ⟨b, 0, none⟩ u).setCell ⟨b, 1, none⟩ v).setCell ⟨b, 2, none⟩ s) :=
  ((h.setCell (p := ⟨b, 0, none⟩) hb _).setCell (p := ⟨b, 1, none⟩) hb _).setCell (p := ⟨b, 2, none⟩) hb _
abbrev zeroN3 : Array Value := #[.int .i64 0, .slice none 0 0, .slice none 0 0]
set_option maxHeartbeats 800000 in
set_option maxRecDepth 100000 in
theorem l3Begin_any (n : Nat) (w : World) (h8 : n ≤ 8) :
    Calls Try.prog 45 #[.int .i64 (n : Int)] w fun e w' => ∃ ca cc, e = .returned (.agg #[.int .i64 (n : Int), .slice ca n cc, .slice none 0 0]) ∧ w'.ownsRow w.heap.size 2 1 (.slice ca n cc) n ((List.replicate n (0 : Int)).map (.int .i64)) ∧ Below w.heap.size w w' := by
  obtain ⟨W, hW⟩ : ∃ W, W = (w.alloc (.cells zeroN3 70)).alloc (.cells #[.int .i64 (n : Int), .slice none 0 0, .slice none 0 0] 70) := ⟨_, rfl⟩
  have hb0 : Below w.heap.size w W := by rw [hW]; exact ((Below.refl _ _).alloc (Nat.le_refl _) _).alloc (by simp) _
  obtain ⟨R, hRe⟩ : ∃ R, R = w.heap.size := ⟨_, rfl⟩
  obtain ⟨O, hOe⟩ : ∃ O, O = w.heap.size + 1 := ⟨_, rfl⟩
  have hR : W.heap[R]? = some (.cells zeroN3 70 (0, 0)) := by rw [hW, hRe]; exact (Below.heap_alloc _ _ _ (by simp)).trans (heap_alloc_new _ _)
  have hO : W.heap[O]? = some (.cells #[.int .i64 (n : Int), .slice none 0 0, .slice none 0 0] 70 (0, 0)) := by rw [hW, hOe]; exact box_new _ _ _ (by simp)
  have hRO : R ≠ O := by omega
  have hRw : w.heap.size ≤ R := by omega
  have hOw : w.heap.size ≤ O := by omega
  have HD0 : Hid (W.heap[R]? = some (.cells zeroN3 70 (0, 0)) ∧ W.heap[O]? = some (.cells #[.int .i64 (n : Int), .slice none 0 0, .slice none 0 0] 70 (0, 0)) ∧ W.ownsRow w.heap.size 2 1 (.slice none 0 0) 0 ((List.replicate 0 (0 : Int)).map (.int .i64)) ∧ Below w.heap.size w W) := ⟨hR, hO, World.ownsRow_nil _ _ _ _, hb0⟩
  clear hR hO hb0
  go_enter Try.func45, Try.ntmps45
  go_upto_region 2 with fail
  rw [← hW, ← hOe, ← hRe]
  clear hW hRe hOe
  go_wp2_with fail
  go_loopw [4] (fun i wr => ∃ (k : Nat) (ca : Option Addr) (cc : Nat), k ≤ n ∧ i = .int .i64 k ∧ wr.heap[R]? = some (.cells zeroN3 70 (0, 0)) ∧ wr.heap[O]? = some (.cells #[.int .i64 (n : Int), .slice ca k cc, .slice none 0 0] 70 (0, 0)) ∧ wr.ownsRow w.heap.size 2 1 (.slice ca k cc) k ((List.replicate k (0 : Int)).map (.int .i64)) ∧ Below w.heap.size w wr) (fun i _ => n - (intOf i).toNat)
  case atStart =>
    obtain ⟨h1, h2, h3, h4⟩ := HD0.out
    exact ⟨0, none, 0, Nat.zero_le _, rfl, h1, h2, h3, h4⟩
  case round =>
    clear HD0
    obtain ⟨k, ca, cc, hk, rfl, hR, hO, hown, hb⟩ := hrel
    obtain ⟨⟨o0, o1, o2⟩, of0, of1, of2⟩ := cells3r hO
    have hsz := hb.size
    by_cases hlt : k < n
    · have hki : (k : Int) < (n : Int) := by omega
      have hOl : O < wr.heap.size := (Array.getElem?_eq_some_iff.1 hO).1
      have hRl : R < wr.heap.size := (Array.getElem?_eq_some_iff.1 hR).1
      have hrep : Hid (List.replicate k (0 : Int) ++ [0] = List.replicate (k + 1) 0) := by unfold Hid; rw [List.replicate_succ']
      go_wp2_with (at_builtin; refine wpList_app1 _ (by rfl) _ _ 33 2 (by rfl) .i64 8 Try.underlying33 info_i64 (by decide) w.heap.size ca k cc (List.replicate k 0) 0 (by rfl) (hown.alloc _) ⟨wr.heap.size, 0, none⟩ (by rfl) (by simp) (by omega) (by simp; omega) ?_; intro g9 cap9 w4 ho4 hg4; have hO4 : w4.heap[O]? = some (.cells #[.int .i64 (n : Int), .slice ca k cc, .slice none 0 0] 70 (0, 0)) := (hg4.block O (by simp; omega) (fun e => own_ne hown hO (by decide) e.symm)).trans ((Below.heap_alloc _ _ _ hOl).trans hO); have c41 := (cells3r hO4).1.2.1; have f41 := (cells3r hO4).2.2.1)
      have hR4 : w4.heap[R]? = some (.cells zeroN3 70 (0, 0)) := (hg4.block R (by simp; omega) (fun e => own_ne hown hR (by decide) e.symm)).trans ((Below.heap_alloc _ _ _ hRl).trans hR)
      have hb4 := below_grown (hb.alloc hsz _) (hown.alloc _) hg4 (Nat.le_refl _) (by simp; omega)
      rw [hrep.out] at ho4
      have ho5 := row_stays (w' := w4.setCell ⟨O, 1, none⟩ (.slice (some ⟨g9, 0, none⟩) (k + 1) cap9)) ho4 fun j hj => heap_setCell_other _ _ _ _ (by
        obtain ⟨cj, hcj⟩ := row_block ho4 hj
        exact type_ne hcj hO4 (by decide))
      go_roundw
      case rel => exact ⟨k + 1, _, _, by omega, by go_num, (heap_setCell_other _ _ _ _ hRO).trans hR4, heap_setCell_same _ _ 1 _ _ _ hO4, ho5, hb4.setCell (p := ⟨O, 1, none⟩) hOw _⟩
      case measure => simp [intOf]; omega
    · obtain rfl : k = n := by omega
      have hkk : ¬ (k : Int) < (k : Int) := by omega
      obtain ⟨⟨r0, r1, r2⟩, rf0, rf1, rf2⟩ := cells3r hR
      obtain ⟨⟨z0, z1, z2⟩, _⟩ := cells3r (set3r hR (.int .i64 (k : Int)) (.slice ca k cc) (.slice none 0 0))
      have hfin := row_stays (w' := ((wr.setCell ⟨R, 0, none⟩ (.int .i64 (k : Int))).setCell ⟨R, 1, none⟩ (.slice ca k cc)).setCell ⟨R, 2, none⟩ (.slice none 0 0)) hown fun j hj => fill3_other _ (by
        obtain ⟨cj, hcj⟩ := row_block hown hj
        exact type_ne hcj hR (by decide)) _ _ _
      go_wp2_with fail
      exact bodyPost_ret (v := .agg #[.int .i64 (k : Int), .slice ca k cc, .slice none 0 0]) (by simp [results, Try.results45, go_sem, z0, z1, z2]) rfl ⟨ca, cc, rfl, by rw [List.map_replicate] at hfin; exact hfin, fill3_below hb hRw _ _ _⟩
end Go.Proofs.Ytkamdaadgndmbaa
