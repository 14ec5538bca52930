import Derived.Test.YtpeecjoadgefjaaRImpl1
import Derived.Test.YtpeecjoadgefjaaGrown
namespace Go.Proofs.Ytpeecjoadgefjaa
open Go.ChangeShapes Go.WideShapes Go.ChangeAt Go.RowKit
set_option linter.unusedVariables false

theorem blk_ne {w : World} {B base z g cap : Nat} {s : RB} {L : SlotL} (h : BufAt w B base z s g cap L) : B ≠ g := by
  rintro rfl
  rcases h.row.2 with ⟨e, _⟩ | ⟨g', c', cur, e, _, hg, _⟩
  · simp at e
  · simp only [Value.slice.injEq, Option.some.injEq, Addr.mk.injEq, and_true] at e
    obtain ⟨rfl, _⟩ := e
    rw [h.blk] at hg
    simp only [Option.some.injEq, Obj.cells.injEq] at hg
    exact absurd hg.2.1 (by decide)
/-- A buffer stays where its two blocks do. -/
theorem BufAt.kept {w w' : World} {B base z g cap : Nat} {s : RB} {L : SlotL} (h : BufAt w B base z s g cap L) (hB : w'.heap[B]? = w.heap[B]?) (hg : w'.heap[g]? = w.heap[g]?) : BufAt w' B base z s g cap L := by
  refine ⟨hB.trans h.blk, ⟨h.row.1, ?_⟩, h.sl, h.z1, h.z2, h.r0, h.r1⟩
  rcases h.row.2 with ⟨e, _⟩ | ⟨g', c', cur, e, h1, hh, rest⟩
  · simp at e
  · simp only [Value.slice.injEq, Option.some.injEq, Addr.mk.injEq, and_true] at e
    obtain ⟨rfl, _, rfl⟩ := e
    exact .inr ⟨g, cap, cur, rfl, h1, hg.trans hh, rest⟩
/-- One slot is filled. -/
theorem BufAt.put {w : World} {B base z g cap : Nat} {s : RB} {L : SlotL} (h : BufAt w B base z s g cap L) {x : Int} (h1 : s.read ≤ x) (h2 : x < s.read + z) (v : Int) :
    BufAt ((w.setCell ⟨g, (x % z).toNat * 2, none⟩ (.bool true)).setCell ⟨g, (x % z).toNat * 2 + 1, none⟩ (.int .u8 v)) B base z { s with f := upd s.f x v } g cap (L.set (x % z).toNat (true, v)) := by
  have hz := h.z1
  have hne := blk_ne h
  have hm : (x % z).toNat < L.length := by rw [h.sl.len]; exact mod_lt hz
  refine ⟨?_, ?_, h.sl.put hz h1 h2 v, h.z1, h.z2, h.r0, h.r1⟩
  · rw [heap_setCell_other _ _ _ _ hne, heap_setCell_other _ _ _ _ hne]
    exact h.blk
  · have r1 := (h.row.stored ((x % z).toNat * 2) (.bool true)).1
    have r2 := (r1.stored ((x % z).toNat * 2 + 1) (.int .u8 v)).1
    rw [flatB_set L _ (true, v) hm] at r2
    exact r2
theorem cells3r {w : World} {B : Nat} {t : TypeId} {x0 x1 x2 : Value} (h : w.heap[B]? = some (.cells #[x0, x1, x2] t (0, 0))) :
    (w.cell? ⟨B, 0, none⟩ = some x0 ∧ w.cell? ⟨B, 1, none⟩ = some x1 ∧ w.cell? ⟨B, 2, none⟩ = some x2) ∧ w.frozen? ⟨B, 0, none⟩ = false ∧ w.frozen? ⟨B, 1, none⟩ = false ∧ w.frozen? ⟨B, 2, none⟩ = false :=
  ⟨⟨Go.Joins.cell_of_block h 0, Go.Joins.cell_of_block h 1, Go.Joins.cell_of_block h 2⟩, Go.Joins.unfrozen_of_block h _, Go.Joins.unfrozen_of_block h _, Go.Joins.unfrozen_of_block h _⟩
theorem set3r {w : World} {b : Nat} {x y z : Value} {t : TypeId} (h : w.heap[b]? = some (.cells #[x, y, z] t (0, 0))) (u v s : Value) :
    (((w.setCell ⟨b, 0, none⟩ u).setCell ⟨b, 1, none⟩ v).setCell ⟨b, 2, none⟩ s).heap[b]? = some (.cells #[u, v, s] t (0, 0)) := by
  have h0 := heap_setCell_same w b 0 _ _ u h
  have h1 := heap_setCell_same _ b 1 _ _ v h0
  exact heap_setCell_same _ b 2 _ _ s h1
/-- What the buffer's methods leave behind: nothing but the slots' row and the buffer's own block has changed. -/
structure Buf2 (w w' : World) (B g : Nat) : Prop where
  os : w'.os = w.os
  tape : w'.tape = w.tape
  output : w'.output = w.output
  size : w.heap.size ≤ w'.heap.size
  block : ∀ k, k < w.heap.size → k ≠ B → k ≠ g → w'.heap[k]? = w.heap[k]?

theorem Buf2.ofGrown {w w' : World} {B g : Nat} (h : w.grownBy w' (some g)) : Buf2 w w' B g := ⟨h.os, h.tape, h.output, h.size, fun k h1 _ h3 => h.block k h1 (fun e => h3 (Option.some.inj e))⟩
/-- A box of the call's own, behind w, is filled. -/
theorem Buf2.fill {w w' : World} {B g R : Nat} (h : Buf2 w w' B g) (hR : w.heap.size ≤ R) (a b c : Value) : Buf2 w (((w'.setCell ⟨R, 0, none⟩ a).setCell ⟨R, 1, none⟩ b).setCell ⟨R, 2, none⟩ c) B g := by
  refine ⟨h.os, h.tape, h.output, by simpa using h.size, fun k h1 h2 h3 => ?_⟩
  rw [heap_setCell_other _ _ _ _ (by simp; omega), heap_setCell_other _ _ _ _ (by simp; omega), heap_setCell_other _ _ _ _ (by simp; omega)]
  exact h.block k h1 h2 h3
theorem BufAt.fill {w : World} {B base z g cap R : Nat} {s : RB} {L : SlotL} (h : BufAt w B base z s g cap L) (h1 : B ≠ R) (h2 : g ≠ R) (a b c : Value) : BufAt (((w.setCell ⟨R, 0, none⟩ a).setCell ⟨R, 1, none⟩ b).setCell ⟨R, 2, none⟩ c) B base z s g cap L :=
  h.kept (by rw [heap_setCell_other _ _ _ _ h1, heap_setCell_other _ _ _ _ h1, heap_setCell_other _ _ _ _ h1]) (by rw [heap_setCell_other _ _ _ _ h2, heap_setCell_other _ _ _ _ h2, heap_setCell_other _ _ _ _ h2])

set_option maxHeartbeats 2000000 in
theorem put_any (w : World) (B base z g cap : Nat) (s : RB) (L : SlotL) (h : BufAt w B base z s g cap L) (off : Int) (o0 : 0 ≤ off) (o1 : off ≤ 18446744073709551615) (da : Option Addr) (dat : List Int) (dc : Nat) (hd : Ints .u8 w da dat) (hv : ∀ v ∈ dat, 0 ≤ v ∧ v ≤ 255) (hdl : dat.length ≤ 9223372036854775807) (hdb : ∀ b o, da = some ⟨b, o, none⟩ → b ≠ g) (hf : s.hf = 0 ∨ s.hf = 1) (f0 : 0 ≤ s.fin) (f1 : s.fin ≤ 18446744073709551615) :
    Calls Try.prog 88 #[.pointer (some ⟨B, 0, none⟩), .int .u64 off, .slice da dat.length dc] w fun e w' => ∃ L', e = .returned (.agg #[.int .i64 (putR z s off dat).1.code, .int .i64 (putR z s off dat).1.n, .slice none 0 0]) ∧ BufAt w' B base z (putR z s off dat).2 g cap L' ∧ Buf2 w w' B g := by
  have hBl : B < w.heap.size := (Array.getElem?_eq_some_iff.1 h.blk).1
  have hgl := h.row.lt g rfl
  have hb0 : Below w.heap.size w (w.alloc (.cells #[.int .i64 0, .int .i64 0, .slice none 0 0] 50)) := (Below.refl _ _).alloc (Nat.le_refl _) _
  have hR0 := heap_alloc_new w (.cells #[.int .i64 0, .int .i64 0, .slice none 0 0] 50)
  have hg0 : w.grownBy (w.alloc (.cells #[.int .i64 0, .int .i64 0, .slice none 0 0] 50)) (some g) := World.grownBy_alloc w _ _
  have hs0 : (w.alloc (.cells #[.int .i64 0, .int .i64 0, .slice none 0 0] 50)).heap.size = w.heap.size + 1 := by simp
  obtain ⟨V, hV⟩ : ∃ V, V = w.alloc (.cells #[.int .i64 0, .int .i64 0, .slice none 0 0] 50) := ⟨_, rfl⟩
  rw [← hV] at hb0 hR0 hg0 hs0
  have hVb : BufAt V B base z s g cap L := h.kept (hb0.block B hBl) (hb0.block g hgl.2)
  have hdV := hd.moved hb0
  obtain ⟨R, hR⟩ : ∃ R, R = w.heap.size := ⟨_, rfl⟩
  rw [← hR] at hR0
  have nB : B ≠ R := by omega
  have ng : g ≠ R := by omega
  obtain ⟨N, hN⟩ : ∃ N, Hid (N = dat.length) := ⟨_, rfl⟩
  rw [← hN.out] at hdl ⊢
  have e1 : IntKind.u64.wrap (N : Int) = (N : Int) := by rw [IntKind.wrap_u64]; omega
  clear h hd hb0
  have hRw : w.heap.size ≤ R := by omega
  have hR2 : R < V.heap.size := by omega
  have hz1 := hVb.z1
  have hz2 := hVb.z2
  have hr0 := hVb.r0
  have hr1 := hVb.r1
  obtain ⟨r, hr⟩ : ∃ r, Hid (r = s.read) := ⟨_, rfl⟩
  rw [← hr.out] at hr0 hr1
  have HVB : Hid (BufAt V B base z s g cap L) := hVb
  have H2 : Hid (Buf2 w V B g) := Buf2.ofGrown hg0
  clear hVb
  by_cases hA : N < 1 ∨ 32 < N
  case pos =>
    have HE : Hid (putR z s off dat = (⟨1, 0, []⟩, s)) := by unfold Hid putR; rw [if_pos (by rw [← hN.out]; exact hA)]
    rcases hA with hA | hA
    · have d1 : decide ((N : Int) < 1) = true := by rw [decide_eq_true_iff]; omega
      go_enter Try.func88, Try.ntmps88
      go_upto_if 20 with fail
      rw [← hV, ← hR]
      clear hV hR
      obtain ⟨⟨k0, k1, k2⟩, kf0, kf1, kf2⟩ := cells3r hR0
      obtain ⟨⟨z0, z1, z2⟩, _⟩ := cells3r (set3r hR0 (.int .i64 1) (.int .i64 0) (.slice none 0 0))
      have hFB := (HVB.out).fill nB ng (.int .i64 1) (.int .i64 0) (.slice none 0 0)
      have hFT := (H2.out).fill hRw (.int .i64 1) (.int .i64 0) (.slice none 0 0)
      go_wp2_with fail
      exact bodyPost_ret (v := .agg #[.int .i64 1, .int .i64 0, .slice none 0 0]) (by simp [results, Try.results88, go_sem, z0, z1, z2]) rfl ⟨L, by rw [HE.out], by rw [HE.out]; exact hFB, hFT⟩
    · have d1 : decide ((N : Int) < 1) = false := by rw [decide_eq_false_iff_not]; omega
      have d2 : decide (32 < (N : Int)) = true := by rw [decide_eq_true_iff]; omega
      go_enter Try.func88, Try.ntmps88
      go_upto_if 20 with fail
      rw [← hV, ← hR]
      clear hV hR
      obtain ⟨⟨k0, k1, k2⟩, kf0, kf1, kf2⟩ := cells3r hR0
      obtain ⟨⟨z0, z1, z2⟩, _⟩ := cells3r (set3r hR0 (.int .i64 1) (.int .i64 0) (.slice none 0 0))
      have hFB := (HVB.out).fill nB ng (.int .i64 1) (.int .i64 0) (.slice none 0 0)
      have hFT := (H2.out).fill hRw (.int .i64 1) (.int .i64 0) (.slice none 0 0)
      go_wp2_with fail
      exact bodyPost_ret (v := .agg #[.int .i64 1, .int .i64 0, .slice none 0 0]) (by simp [results, Try.results88, go_sem, z0, z1, z2]) rfl ⟨L, by rw [HE.out], by rw [HE.out]; exact hFB, hFT⟩
  case neg =>
  have d1 : decide ((N : Int) < 1) = false := by rw [decide_eq_false_iff_not]; omega
  have d2 : decide (32 < (N : Int)) = false := by rw [decide_eq_false_iff_not]; omega
  have ht := top_any V B base z g cap s L HVB.out
  rw [← hr.out] at ht
  obtain ⟨T, hT⟩ : ∃ T, r + (z : Int) = T := ⟨_, rfl⟩
  rw [hT] at ht
  go_enter Try.func88, Try.ntmps88
  go_wp2_with fail
  rw [← hV, ← hR]
  clear hV hR
  refine ht.mono ?_
  rintro e w1 ⟨rfl, m1, rfl⟩
  by_cases hB1 : T < off
  case pos =>
    have d3 : decide (T < off) = true := by rw [decide_eq_true_iff]; exact hB1
    have HE : Hid (putR z s off dat = (⟨4, 0, []⟩, s)) := by unfold Hid putR; rw [if_neg (by rw [← hN.out]; exact hA), if_pos (by rw [← hr.out, hT]; exact .inl hB1)]
    have hX : (V.drewN m1).heap[R]? = some (.cells #[.int .i64 0, .int .i64 0, .slice none 0 0] 50 (0, 0)) := hR0
    have hTw : Buf2 w (V.drewN m1) B g := ⟨H2.out.os, H2.out.tape, H2.out.output, H2.out.size, H2.out.block⟩
    obtain ⟨⟨k0, k1, k2⟩, kf0, kf1, kf2⟩ := cells3r hX
    obtain ⟨⟨z0, z1, z2⟩, _⟩ := cells3r (set3r hX (.int .i64 4) (.int .i64 0) (.slice none 0 0))
    have hFB := (HVB.out.drewN m1).fill nB ng (.int .i64 4) (.int .i64 0) (.slice none 0 0)
    have hFT := (hTw).fill hRw (.int .i64 4) (.int .i64 0) (.slice none 0 0)
    go_wp2_with fail
    exact bodyPost_ret (v := .agg #[.int .i64 4, .int .i64 0, .slice none 0 0]) (by simp [results, Try.results88, go_sem, z0, z1, z2]) rfl ⟨L, by rw [HE.out], by rw [HE.out]; exact hFB, hFT⟩
  case neg =>
  have d3 : decide (T < off) = false := by rw [decide_eq_false_iff_not]; exact hB1
  have ht2 := top_any (V.drewN m1) B base z g cap s L (HVB.out.drewN m1)
  rw [← hr.out, hT] at ht2
  go_wp2_with fail
  refine ht2.mono ?_
  rintro e w2 ⟨rfl, m2, rfl⟩
  obtain ⟨W, hW⟩ : ∃ W, W = V.drewN (m1 + m2) := ⟨_, rfl⟩
  have hX : W.heap[R]? = some (.cells #[.int .i64 0, .int .i64 0, .slice none 0 0] 50 (0, 0)) := by rw [hW]; exact hR0
  have hWb : BufAt W B base z s g cap L := by rw [hW]; exact HVB.out.drewN _
  have hTw : Buf2 w W B g := by rw [hW]; exact ⟨H2.out.os, H2.out.tape, H2.out.output, H2.out.size, H2.out.block⟩
  have hdW : Ints .u8 W da dat := by rw [hW]; exact hdV
  have hWR : R < W.heap.size := by rw [hW]; exact hR2
  have hTo : IntKind.u64.wrap (T - off) = T - off := by rw [IntKind.wrap_u64]; omega
  obtain ⟨⟨c0, c1, c2, c3⟩, cf⟩ := hWb.cells
  rw [← hr.out] at c1
  have HWB : Hid (BufAt W B base z s g cap L) := hWb
  clear hdV HVB H2 hWb ht ht2
  by_cases hB2 : T - off < N
  case pos =>
    have d4 : decide (T - off < (N : Int)) = true := by rw [decide_eq_true_iff]; exact hB2
    have HE : Hid (putR z s off dat = (⟨4, 0, []⟩, s)) := by unfold Hid putR; rw [if_neg (by rw [← hN.out]; exact hA), if_pos (by rw [← hr.out, hT, ← hN.out]; exact .inr hB2)]
    go_upto_if 33 with fail
    try simp only [World.drewN_drewN]
    rw [← hW]
    clear hW
    obtain ⟨⟨k0, k1, k2⟩, kf0, kf1, kf2⟩ := cells3r hX
    obtain ⟨⟨z0, z1, z2⟩, _⟩ := cells3r (set3r hX (.int .i64 4) (.int .i64 0) (.slice none 0 0))
    have hFB := (HWB.out).fill nB ng (.int .i64 4) (.int .i64 0) (.slice none 0 0)
    have hFT := (hTw).fill hRw (.int .i64 4) (.int .i64 0) (.slice none 0 0)
    go_wp2_with fail
    exact bodyPost_ret (v := .agg #[.int .i64 4, .int .i64 0, .slice none 0 0]) (by simp [results, Try.results88, go_sem, z0, z1, z2]) rfl ⟨L, by rw [HE.out], by rw [HE.out]; exact hFB, hFT⟩
  case neg =>
  have d4 : decide (T - off < (N : Int)) = false := by rw [decide_eq_false_iff_not]; exact hB2
  go_upto_if 33 with fail
  try simp only [World.drewN_drewN]
  rw [← hW]
  clear hW
  have hsum : IntKind.u64.wrap (off + (N : Int)) = off + (N : Int) := by rw [IntKind.wrap_u64]; omega
  obtain ⟨fin, hfin⟩ : ∃ fin, Hid (fin = s.fin) := ⟨_, rfl⟩
  obtain ⟨hf', hhf⟩ : ∃ x, Hid (x = s.hf) := ⟨_, rfl⟩
  rw [← hfin.out] at c3 f0 f1
  rw [← hhf.out] at c2 hf
  by_cases hC : hf' = 1 ∧ fin < off + N
  case pos =>
    have d5 : (hf' == 1) = true := by simpa using hC.1
    have d6 : decide (fin < off + (N : Int)) = true := by rw [decide_eq_true_iff]; exact hC.2
    have HE : Hid (putR z s off dat = (⟨12, 0, []⟩, s)) := by unfold Hid putR; rw [if_neg (by rw [← hN.out]; exact hA), if_neg (by rw [← hr.out, hT, ← hN.out]; omega), if_pos (by rw [← hhf.out, ← hfin.out, ← hN.out]; exact hC)]
    have HC : Hid _ := hC
    clear hC
    obtain ⟨⟨k0, k1, k2⟩, kf0, kf1, kf2⟩ := cells3r hX
    obtain ⟨⟨z0, z1, z2⟩, _⟩ := cells3r (set3r hX (.int .i64 12) (.int .i64 0) (.slice none 0 0))
    have hFB := (HWB.out).fill nB ng (.int .i64 12) (.int .i64 0) (.slice none 0 0)
    have hFT := (hTw).fill hRw (.int .i64 12) (.int .i64 0) (.slice none 0 0)
    go_wp2_with fail
    exact bodyPost_ret (v := .agg #[.int .i64 12, .int .i64 0, .slice none 0 0]) (by simp [results, Try.results88, go_sem, z0, z1, z2]) rfl ⟨L, by rw [HE.out], by rw [HE.out]; exact hFB, hFT⟩
  case neg =>
  have HE0 : Hid (putR z s off dat = (⟨0, (putRun s.read off dat s.f 0).1, []⟩, { s with f := (putRun s.read off dat s.f 0).2 })) := by unfold Hid putR; rw [if_neg (by rw [← hN.out]; exact hA), if_neg (by rw [← hr.out, hT, ← hN.out]; omega), if_neg (by rw [← hhf.out, ← hfin.out, ← hN.out]; exact hC)]
  have HC : Hid _ := hC
  have HF : Hid _ := hf
  clear hC hf
  go_upto_region 6 with fail
  go_cut [49] from 35 to 48 (fun v wx => v = .bool false ∧ W = wx)
  case first =>
    by_cases h1 : hf' = 1
    · have d5 : (hf' == 1) = true := by simpa using h1
      have d6 : decide (fin < off + (N : Int)) = false := by rw [decide_eq_false_iff_not]; exact fun h => HC.out ⟨h1, h⟩
      have H1 : Hid _ := h1
      clear h1
      go_wp2_with fail
      go_meet
      case rel => exact ⟨rfl, rfl⟩
    · have d5 : (hf' == 1) = false := by simpa using h1
      go_wp2_with fail
      go_meet
      case rel => exact ⟨rfl, rfl⟩
  case rest =>
  obtain ⟨rfl, hwe⟩ := hcut
  subst hwe
  clear c0 c1 c2 c3 cf
  go_wp2_with fail
  go_loopw [8, 53] (fun kv iv wr => ∃ (i : Nat) (kp : Int) (f' : Int → Option Int) (L' : SlotL), i ≤ N ∧ iv = .int .i64 (i : Int) ∧ kv = .int .i64 kp ∧ (0 ≤ kp ∧ kp ≤ i) ∧ Hid (putRun s.read off dat s.f 0 = putRun s.read (off + i) (dat.drop i) f' kp) ∧ BufAt wr B base z { s with f := f' } g cap L' ∧ W.grownBy wr (some g)) (fun _ iv _ => N - (intOf iv).toNat)
  case atStart => exact ⟨0, 0, s.f, L, Nat.zero_le _, rfl, rfl, ⟨Int.le_refl _, by simp⟩, by unfold Hid; simp, HWB.out, ⟨rfl, rfl, rfl, Nat.le_refl _, fun _ _ _ => rfl⟩⟩
  case round =>
  obtain ⟨i, kp, f', L', hi, rfl, rfl, hkp, HP, hb, hgr⟩ := hrel
  obtain ⟨⟨c0, c1, c2, c3⟩, cf⟩ := hb.cells
  simp only at c1 c2 c3
  rw [← hr.out] at c1
  by_cases hlt : i < N
  case neg =>
    obtain rfl : i = N := by omega
    have hkk : ¬ (i : Int) < (i : Int) := by omega
    have hdn : dat.drop i = [] := List.drop_eq_nil_of_le (by rw [← hN.out]; exact Nat.le_refl _)
    have HE : Hid (putR z s off dat = (⟨0, kp, []⟩, { s with f := f' })) := by unfold Hid; rw [HE0.out, HP.out, hdn, putRun]
    have hX2 : wr.heap[R]? = some (.cells #[.int .i64 0, .int .i64 0, .slice none 0 0] 50 (0, 0)) := (hgr.block R hWR (by simp; omega)).trans hX
    have hT2 : Buf2 w wr B g := ⟨hgr.os.trans hTw.os, hgr.tape.trans hTw.tape, hgr.output.trans hTw.output, Nat.le_trans hTw.size hgr.size, fun k h1 h2 h3 => (hgr.block k (Nat.lt_of_lt_of_le h1 hTw.size) (fun e => h3 (Option.some.inj e))).trans (hTw.block k h1 h2 h3)⟩
    clear c0 c1 c2 c3 cf
    obtain ⟨⟨k0, k1, k2⟩, kf0, kf1, kf2⟩ := cells3r hX2
    obtain ⟨⟨z0, z1, z2⟩, _⟩ := cells3r (set3r hX2 (.int .i64 0) (.int .i64 kp) (.slice none 0 0))
    have hFB := hb.fill nB ng (.int .i64 0) (.int .i64 kp) (.slice none 0 0)
    have hFT := hT2.fill hRw (.int .i64 0) (.int .i64 kp) (.slice none 0 0)
    go_wp2_with fail
    exact bodyPost_ret (v := .agg #[.int .i64 0, .int .i64 kp, .slice none 0 0]) (by simp [results, Try.results88, go_sem, z0, z1, z2]) rfl ⟨by rw [HE.out], ⟨L', by rw [HE.out]; exact hFB⟩, hFT⟩
  case pos =>
  have hii : (i : Int) < (N : Int) := by omega
  have hil : i < dat.length := by rw [← hN.out]; exact hlt
  rcases hdW with h0 | ⟨db, dof, hde, hdc⟩
  · rw [h0] at hil; simp at hil
  subst hde
  have hdg := hdb db dof rfl
  have d0 := hdc i hil
  obtain ⟨v, hve⟩ : ∃ v, Hid (dat.getD i 0 = v) := ⟨_, rfl⟩
  rw [hve.out] at d0
  have hvb : 0 ≤ v ∧ v ≤ 255 := by
    have e : dat.getD i 0 = dat[i] := by simp [hil]
    rw [← hve.out, e]
    exact hv _ (List.getElem_mem hil)
  have d1' : wr.cell? ⟨db, dof + i, none⟩ = some (.int .u8 v) := cell_grown hgr d0 (by simp; omega)
  have hdrop : dat.drop i = v :: dat.drop (i + 1) := by
    rw [List.drop_eq_getElem_cons hil, ← hve.out]
    simp [hil]
  obtain ⟨x, hx⟩ : ∃ x, off + (i : Int) = x := ⟨_, rfl⟩
  have hxw : IntKind.u64.wrap (off + (i : Int)) = x := by rw [IntKind.wrap_u64, ← hx]; omega
  have hxT : x < T := by omega
  have hx0 : 0 ≤ x := by omega
  have hxn : Hid (off + ((i + 1 : Nat) : Int) = x + 1) := by unfold Hid; omega
  have HP2 : Hid (putRun s.read off dat s.f 0 = putRun s.read x (v :: dat.drop (i + 1)) f' kp) := by unfold Hid; rw [HP.out, hdrop, hx]
  have hwk : IntKind.i64.wrap (kp + 1) = kp + 1 := by rw [IntKind.wrap_i64]; omega
  clear d0 hdc HP hdrop hx
  by_cases hrx : r ≤ x
  case neg =>
    have d7 : decide (r ≤ x) = false := by rw [decide_eq_false_iff_not]; exact hrx
    have HE : Hid (putRun s.read off dat s.f 0 = putRun s.read (off + ((i + 1 : Nat) : Int)) (dat.drop (i + 1)) f' kp) := by
      unfold Hid
      rw [HP2.out, putRun, if_neg (by rw [← hr.out]; exact fun h => hrx h.1), hxn.out]
    go_wp2_with fail
    go_roundw
    case rel => exact ⟨i + 1, kp, f', L', by omega, by go_num, rfl, ⟨hkp.1, by omega⟩, HE, hb, hgr⟩
    case measure => simp [intOf]; omega
  case pos =>
  have d7 : decide (r ≤ x) = true := by rw [decide_eq_true_iff]; exact hrx
  have hs := slotOf_any wr B base z g cap _ L' hb x hx0 (by omega)
  obtain ⟨y0, y1⟩ := hb.slot (x := x) (by simp only; rw [← hr.out]; exact hrx) (by simp only; rw [← hr.out, hT]; exact hxT)
  simp only at y0 y1
  rw [slotV_held] at y0
  have hput := fun m => (hb.drewN m).put (x := x) (by simp only; rw [← hr.out]; exact hrx) (by simp only; rw [← hr.out, hT]; exact hxT) v
  have hfrz := fun j => hb.row.frozenAt j
  obtain ⟨J, hJ⟩ : ∃ J, J = (x % (z : Int)).toNat * 2 := ⟨_, rfl⟩
  rw [← hJ] at hs y0 y1
  simp only [← hJ] at hput
  have fz0 := hfrz J
  have fz1 := hfrz (J + 1)
  have HJ : Hid (J = (x % (z : Int)).toNat * 2) := hJ
  obtain ⟨b, hbb⟩ : ∃ b, (f' x).isSome = b := ⟨_, rfl⟩
  rw [hbb] at y0
  clear hJ hfrz
  go_wp2_with fail
  refine hs.mono ?_
  rintro e w3 ⟨rfl, m3, rfl⟩
  cases b
  case true =>
    have HE : Hid (putRun s.read off dat s.f 0 = putRun s.read (off + ((i + 1 : Nat) : Int)) (dat.drop (i + 1)) f' kp) := by
      unfold Hid
      rw [HP2.out, putRun, if_neg (fun h => by rw [h.2] at hbb; simp at hbb), hxn.out]
    go_wp2_with fail
    go_roundw
    case rel => exact ⟨i + 1, kp, f', L', by omega, by go_num, rfl, ⟨hkp.1, by omega⟩, HE, hb.drewN m3, ⟨hgr.os, hgr.tape, hgr.output, hgr.size, hgr.block⟩⟩
    case measure => simp [intOf]; omega
  case false =>
    have hfx : f' x = none := by cases h : f' x with | none => rfl | some a => rw [h] at hbb; simp at hbb
    have HE : Hid (putRun s.read off dat s.f 0 = putRun s.read (off + ((i + 1 : Nat) : Int)) (dat.drop (i + 1)) (upd f' x v) (kp + 1)) := by
      unfold Hid
      rw [HP2.out, putRun, if_pos ⟨by rw [← hr.out]; exact hrx, hfx⟩, hxn.out]
    have hs2 := slotOf_any (wr.drewN m3) B base z g cap _ L' (hb.drewN m3) x hx0 (by omega)
    rw [← HJ.out] at hs2
    have hgs : ∀ m, W.grownBy (((wr.drewN m).setCell ⟨g, J, none⟩ (.bool true)).setCell ⟨g, J + 1, none⟩ (.int .u8 v)) (some g) := fun m => grown_trans (show W.grownBy (wr.drewN m) (some g) from ⟨hgr.os, hgr.tape, hgr.output, hgr.size, hgr.block⟩) (grown_trans (grown_set _ g J (.bool true)) (grown_set _ g (J + 1) (.int .u8 v)))
    clear hs
    go_wp2_with fail
    refine hs2.mono ?_
    rintro e w4 ⟨rfl, m4, rfl⟩
    go_wp2_with fail
    go_roundw
    case rel => exact ⟨i + 1, kp + 1, upd f' x v, _, by omega, by go_num, rfl, ⟨by omega, by omega⟩, HE, hput _, hgs _⟩
    case measure => simp [intOf]; omega
end Go.Proofs.Ytpeecjoadgefjaa
