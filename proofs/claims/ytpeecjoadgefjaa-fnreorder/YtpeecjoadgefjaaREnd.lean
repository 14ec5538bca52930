import Derived.Test.YtpeecjoadgefjaaRPut
namespace Go.Proofs.Ytpeecjoadgefjaa
open Go.ChangeShapes Go.WideShapes Go.ChangeAt Go.RowKit
set_option linter.unusedVariables false

theorem BufAt.end_ {w : World} {B base z g cap : Nat} {s : RB} {L : SlotL} (h : BufAt w B base z s g cap L) (off : Int) :
    BufAt ((w.setCell ⟨B, 2, none⟩ (.int .i64 1)).setCell ⟨B, 3, none⟩ (.int .u64 off)) B base z { s with hf := 1, fin := off } g cap L := by
  have hne := blk_ne h
  have h1 := heap_setCell_same w B 2 _ _ (.int .i64 1) h.blk
  have h2 := heap_setCell_same _ B 3 _ _ (.int .u64 off) h1
  have k : BufAt w B base z { s with hf := 1, fin := off } g cap L → _ := fun h => h
  refine ⟨h2, ?_, ⟨h.sl.len, h.sl.at_⟩, h.z1, h.z2, h.r0, h.r1⟩
  have hg : ((w.setCell ⟨B, 2, none⟩ (.int .i64 1)).setCell ⟨B, 3, none⟩ (.int .u64 off)).heap[g]? = w.heap[g]? := by
    rw [heap_setCell_other _ _ _ _ (Ne.symm hne), heap_setCell_other _ _ _ _ (Ne.symm hne)]
  refine ⟨h.row.1, ?_⟩
  rcases h.row.2 with ⟨e, _⟩ | ⟨g', c', cur, e, h1, hh, rest⟩
  · simp at e
  · simp only [Value.slice.injEq, Option.some.injEq, Addr.mk.injEq, and_true] at e
    obtain ⟨rfl, _, rfl⟩ := e
    exact .inr ⟨g, cap, cur, rfl, h1, hg.trans hh, rest⟩
theorem Buf2.drewN {w : World} {B g : Nat} (m : Nat) : Buf2 w (w.drewN m) B g := ⟨rfl, rfl, rfl, Nat.le_refl _, fun _ _ _ _ => rfl⟩

set_option maxHeartbeats 2000000 in
theorem end_any (w : World) (B base z g cap : Nat) (s : RB) (L : SlotL) (h : BufAt w B base z s g cap L) (off : Int) (o0 : 0 ≤ off) (o1 : off ≤ 18446744073709551615) (hf : s.hf = 0 ∨ s.hf = 1) :
    Calls Try.prog 90 #[.pointer (some ⟨B, 0, none⟩), .int .u64 off] w fun e w' => e = .returned (.int .i64 (endR z s off).1.code) ∧ BufAt w' B base z (endR z s off).2 g cap L ∧ Buf2 w w' B g := by
  obtain ⟨⟨c0, c1, c2, c3⟩, cf⟩ := h.cells
  obtain ⟨r, hr⟩ : ∃ r, Hid (r = s.read) := ⟨_, rfl⟩
  have h1 := h.r0
  have h2 := h.r1
  have h3 := h.z1
  have h4 := h.z2
  rw [← hr.out] at c1 h1 h2
  obtain ⟨fin, hfin⟩ : ∃ fin, Hid (fin = s.fin) := ⟨_, rfl⟩
  obtain ⟨hf', hhf⟩ : ∃ x, Hid (x = s.hf) := ⟨_, rfl⟩
  rw [← hfin.out] at c3
  rw [← hhf.out] at c2 hf
  have HB : Hid (BufAt w B base z s g cap L) := h
  have f2 := cf 2
  have f3 := cf 3
  clear h cf
  by_cases hA : hf' = 1 ∧ fin ≠ off
  case pos =>
    have HE : Hid (endR z s off = (⟨12, 0, []⟩, s)) := by unfold Hid endR; rw [if_pos (by rw [← hhf.out, ← hfin.out]; exact hA)]
    have d1 : (hf' == 1) = true := by simpa using hA.1
    have d2 : (fin == off) = false := by simpa using hA.2
    have HC : Hid _ := hA
    clear hA
    go_enter Try.func90, Try.ntmps90
    go_wp2_with fail
    go_ret
    exact ⟨by rw [HE.out]; rfl, by rw [HE.out]; exact HB.out.drewN 0, Buf2.drewN 0⟩
  case neg =>
  have HA : Hid _ := hA
  have H1 : Hid (endR z s off = if off < r ∨ holdsB s.f (r + z - off).toNat off = true then (⟨12, 0, []⟩, s) else if r + z < off then (⟨4, 0, []⟩, s) else (⟨0, 0, []⟩, { s with hf := 1, fin := off })) := by
    unfold Hid
    rw [endR, if_neg (by rw [← hhf.out, ← hfin.out]; exact hA), hr.out]
  clear hA
  go_enter Try.func90, Try.ntmps90
  go_upto_region 1 with fail
  go_cut [17] from 5 to 16 (fun v wx => v = .bool false ∧ w = wx)
  case first =>
    by_cases h1 : hf' = 1
    · have d5 : (hf' == 1) = true := by simpa using h1
      have d6 : (fin != off) = false := by simpa using fun h => HA.out ⟨h1, h⟩
      have H1 : Hid _ := h1
      clear h1
      go_wp2_with fail
      go_meet
      case rel => exact ⟨rfl, rfl⟩
    · have d5 : (hf' == 1) = false := by simpa using h1
      go_wp2_with fail
      go_meet
      case rel => exact ⟨rfl, rfl⟩
  case rest =>
  obtain ⟨rfl, hwe⟩ := hcut
  subst hwe
  by_cases hB : off < r
  case pos =>
    have HE : Hid (endR z s off = (⟨12, 0, []⟩, s)) := by unfold Hid; rw [H1.out, if_pos (.inl hB)]
    have d3 : decide (off < r) = true := by rw [decide_eq_true_iff]; exact hB
    have HB2 : Hid _ := hB
    clear hB
    go_wp2_with fail
    go_ret
    exact ⟨by rw [HE.out]; rfl, by rw [HE.out]; exact HB.out.drewN 0, Buf2.drewN 0⟩
  case neg =>
  have d3 : decide (off < r) = false := by rw [decide_eq_false_iff_not]; exact hB
  have ho := holdsFrom_any w B base z g cap s L HB.out off (by rw [← hr.out]; omega) o1
  rw [← hr.out] at ho
  obtain ⟨b, hb⟩ : ∃ b, Hid (holdsB s.f (r + z - off).toNat off = b) := ⟨_, rfl⟩
  rw [hb.out] at ho
  have HB2 : Hid _ := hB
  clear hB
  go_wp2_with fail
  refine ho.mono ?_
  rintro e w1 ⟨rfl, m1, rfl⟩
  cases b
  case true =>
    have HE : Hid (endR z s off = (⟨12, 0, []⟩, s)) := by unfold Hid; rw [H1.out, if_pos (.inr hb.out)]
    go_wp2_with fail
    go_ret
    exact ⟨by rw [HE.out]; rfl, by rw [HE.out]; exact HB.out.drewN m1, Buf2.drewN m1⟩
  case false =>
  have ht := top_any (w.drewN m1) B base z g cap s L (HB.out.drewN m1)
  rw [← hr.out] at ht
  have H2 : Hid (endR z s off = if r + z < off then (⟨4, 0, []⟩, s) else (⟨0, 0, []⟩, { s with hf := 1, fin := off })) := by
    unfold Hid; rw [H1.out, if_neg (by rw [hb.out]; rintro (h | h); exact HB2.out h; simp at h)]
  go_wp2_with fail
  refine ht.mono ?_
  rintro e w2 ⟨rfl, m2, rfl⟩
  by_cases hC : r + z < off
  case pos =>
    have HE : Hid (endR z s off = (⟨4, 0, []⟩, s)) := by unfold Hid; rw [H2.out, if_pos hC]
    have d4 : decide (r + (z : Int) < off) = true := by rw [decide_eq_true_iff]; exact hC
    go_wp2_with fail
    go_ret
    exact ⟨by rw [HE.out]; rfl, by rw [HE.out]; exact HB.out.drewN _, Buf2.drewN _⟩
  case neg =>
    have HE : Hid (endR z s off = (⟨0, 0, []⟩, { s with hf := 1, fin := off })) := by unfold Hid; rw [H2.out, if_neg hC]
    have d4 : decide (r + (z : Int) < off) = false := by rw [decide_eq_false_iff_not]; exact hC
    have hE := (HB.out.drewN (m1 + m2)).end_ off
    go_wp2_with fail
    go_ret
    refine ⟨by rw [HE.out]; rfl, by rw [HE.out]; exact hE, ⟨rfl, rfl, rfl, by simp, fun k h1 h2 h3 => ?_⟩⟩
    rw [heap_setCell_other _ _ _ _ (by simpa using h2), heap_setCell_other _ _ _ _ (by simpa using h2)]
    rfl
end Go.Proofs.Ytpeecjoadgefjaa
