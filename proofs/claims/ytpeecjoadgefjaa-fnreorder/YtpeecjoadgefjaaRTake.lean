import Derived.Test.YtpeecjoadgefjaaRPut
namespace Go.Proofs.Ytpeecjoadgefjaa
open Go.ChangeShapes Go.WideShapes Go.ChangeAt Go.RowKit
set_option linter.unusedVariables false

theorem info_u8 : (Try.prog.info? 5).map (fun i => (i.zero, i.size, i.bytes)) = some (some (.int .u8 0), 1, 1) := by kernel_rfl
/-- One byte has gone to the reader. -/
def gone1 (s : RB) : RB := { s with read := s.read + 1, f := fun x => if x < s.read + 1 then none else s.f x }
/-- Nothing is held but in the window. -/
def InWin (z : Nat) (s : RB) : Prop := ∀ t v, s.f t = some v → s.read ≤ t ∧ t < s.read + z ∧ 0 ≤ v ∧ v ≤ 255
theorem InWin.gone1 {z : Nat} {s : RB} (h : InWin z s) : InWin z (gone1 s) := by
  intro t v ht
  simp only [Go.Proofs.Ytpeecjoadgefjaa.gone1] at ht ⊢
  split at ht
  · simp at ht
  · have := h t v ht; omega
theorem SlotsAt.take {z : Nat} {s : RB} {L : SlotL} (h : SlotsAt z s L) (hz : 1 ≤ z) (hw : InWin z s) : SlotsAt z (gone1 s) (L.set (s.read % z).toNat (false, 0)) := by
  refine ⟨by rw [List.length_set]; exact h.len, fun y y1 y2 => ?_⟩
  simp only [gone1] at y1 y2 ⊢
  rw [if_neg (by omega)]
  by_cases e : y = s.read + z
  · subst e
    have em : (s.read + z) % (z : Int) = s.read % z := by simp
    rw [em, List.getElem?_set_self (by rw [h.len]; exact mod_lt hz)]
    cases hf : s.f (s.read + z) with
    | none => rfl
    | some v => have := hw _ v hf; omega
  · rw [List.getElem?_set_ne (fun e' => by have := mod_inj hz (by omega) (by omega) e'; omega), h.at_ y (by omega) (by omega)]
theorem BufAt.take {w : World} {B base z g cap : Nat} {s : RB} {L : SlotL} (h : BufAt w B base z s g cap L) (hw : InWin z s) (hr : s.read + 1 ≤ 9000000000000000000) :
    BufAt (((w.setCell ⟨g, (s.read % z).toNat * 2, none⟩ (.bool false)).setCell ⟨g, (s.read % z).toNat * 2 + 1, none⟩ (.int .u8 0)).setCell ⟨B, 1, none⟩ (.int .u64 (s.read + 1))) B base z (gone1 s) g cap (L.set (s.read % z).toNat (false, 0)) := by
  have hz := h.z1
  have hne := blk_ne h
  have hm : (s.read % z).toNat < L.length := by rw [h.sl.len]; exact mod_lt hz
  have r1 := (h.row.stored ((s.read % z).toNat * 2) (.bool false)).1
  have r2 := (r1.stored ((s.read % z).toNat * 2 + 1) (.int .u8 0)).1
  rw [flatB_set L _ (false, 0) hm] at r2
  have hb : ((w.setCell ⟨g, (s.read % z).toNat * 2, none⟩ (.bool false)).setCell ⟨g, (s.read % z).toNat * 2 + 1, none⟩ (.int .u8 0)).heap[B]? = some (.cells #[.slice (some ⟨g, 0, none⟩) z cap, .int .u64 s.read, .int .i64 s.hf, .int .u64 s.fin] 88 (0, 0)) := by
    rw [heap_setCell_other _ _ _ _ hne, heap_setCell_other _ _ _ _ hne]
    exact h.blk
  refine ⟨heap_setCell_same _ B 1 _ _ (.int .u64 (s.read + 1)) hb, ?_, h.sl.take hz hw, h.z1, h.z2, by simp only [gone1]; have := h.r0; omega, hr⟩
  refine ⟨r2.1, ?_⟩
  rcases r2.2 with ⟨e, _⟩ | ⟨g', c', cur, e, h1, hh, rest⟩
  · simp at e
  · simp only [Value.slice.injEq, Option.some.injEq, Addr.mk.injEq, and_true] at e
    obtain ⟨rfl, _, rfl⟩ := e
    exact .inr ⟨g, cap, cur, rfl, h1, (heap_setCell_other _ _ _ _ (Ne.symm hne)).trans hh, rest⟩

/-- What a step answers and leaves. -/
structure RStep (w : World) (B base z g cap : Nat) (Q : ROut × RB) (w' : World) (dv : Value) : Prop where
  row : w'.ownsRow w.heap.size 5 1 dv Q.1.dat.length (Q.1.dat.map (.int .u8))
  buf : ∃ L', BufAt w' B base z Q.2 g cap L'
  two : Buf2 w w' B g
def RStepsTo (w : World) (B base z g cap : Nat) (Q : ROut × RB) (e : Ending) (w' : World) : Prop :=
  ∃ av cp, e = .returned (.agg #[.int .i64 Q.1.code, .int .i64 Q.1.n, .slice av Q.1.dat.length cp]) ∧ RStep w B base z g cap Q w' (.slice av Q.1.dat.length cp)

/-- k bytes have gone to the reader. -/
def goneN (s : RB) (k : Nat) : RB := { s with read := s.read + k, f := fun x => if x < s.read + k then none else s.f x }
theorem goneN_zero {z : Nat} {s : RB} (h : InWin z s) : goneN s 0 = s := by
  cases s with | mk r f hf fin =>
  simp only [goneN, RB.mk.injEq, and_true]
  refine ⟨by simp, funext fun x => ?_⟩
  split
  · cases hx : f x with
    | none => rfl
    | some v => have := h x v hx; simp only at this; omega
  · rfl
theorem goneN_succ (s : RB) (k : Nat) : goneN s (k + 1) = gone1 (goneN s k) := by
  show RB.mk (s.read + (k + 1 : Nat)) (fun x => if x < s.read + (k + 1 : Nat) then none else s.f x) s.hf s.fin = RB.mk (s.read + k + 1) (fun x => if x < s.read + k + 1 then none else (if x < s.read + k then none else s.f x)) s.hf s.fin
  rw [show s.read + ((k + 1 : Nat) : Int) = s.read + k + 1 by omega, RB.mk.injEq]
  refine ⟨rfl, funext fun x => ?_, rfl, rfl⟩
  by_cases h : x < s.read + k + 1
  · rw [if_pos h, if_pos h]
  · rw [if_neg h, if_neg h, if_neg (by omega)]
theorem InWin.goneN {z : Nat} {s : RB} (h : InWin z s) (k : Nat) : InWin z (goneN s k) := by
  intro t v ht
  simp only [Go.Proofs.Ytpeecjoadgefjaa.goneN] at ht ⊢
  split at ht
  · simp at ht
  · have := h t v ht; omega
theorem bytesAt_succ (f : Int → Option Int) (x : Int) (k : Nat) : bytesAt f x (k + 1) = bytesAt f x k ++ [(f (x + k)).getD 0] := by
  simp [bytesAt, List.range_succ]
theorem bytesAt_length (f : Int → Option Int) (x : Int) (k : Nat) : (bytesAt f x k).length = k := by simp [bytesAt]

set_option maxHeartbeats 1000000 in
set_option maxRecDepth 100000 in
theorem take_any (w : World) (B base z g cap : Nat) (s : RB) (L : SlotL) (h : BufAt w B base z s g cap L) (hw : InWin z s) (hr9 : s.read + z ≤ 9000000000000000000) (n : Int) (n0 : -9223372036854775808 ≤ n) (n1 : n ≤ 9223372036854775807) (hf : s.hf = 0 ∨ s.hf = 1) :
    Calls Try.prog 89 #[.pointer (some ⟨B, 0, none⟩), .int .i64 n] w (RStepsTo w B base z g cap (takeR z s n)) := by
  have hBl : B < w.heap.size := (Array.getElem?_eq_some_iff.1 h.blk).1
  have hgl := h.row.lt g rfl
  have hb0 : Below w.heap.size w (w.alloc (.cells #[.int .i64 0, .int .i64 0, .slice none 0 0] 50)) := (Below.refl _ _).alloc (Nat.le_refl _) _
  have hR0 := heap_alloc_new w (.cells #[.int .i64 0, .int .i64 0, .slice none 0 0] 50)
  have hg0 : w.grownBy (w.alloc (.cells #[.int .i64 0, .int .i64 0, .slice none 0 0] 50)) (some g) := World.grownBy_alloc w _ _
  have hs0 : (w.alloc (.cells #[.int .i64 0, .int .i64 0, .slice none 0 0] 50)).heap.size = w.heap.size + 1 := by simp
  obtain ⟨V, hV⟩ : ∃ V, V = w.alloc (.cells #[.int .i64 0, .int .i64 0, .slice none 0 0] 50) := ⟨_, rfl⟩
  rw [← hV] at hb0 hR0 hg0 hs0
  have hVb : BufAt V B base z s g cap L := h.kept (hb0.block B hBl) (hb0.block g hgl.2)
  obtain ⟨R, hR⟩ : ∃ R, R = w.heap.size := ⟨_, rfl⟩
  rw [← hR] at hR0
  have nB : B ≠ R := by omega
  have ng : g ≠ R := by omega
  clear h hb0
  have HS0 : Hid (V.heap.size = w.heap.size + 1) := hs0
  have hRw : w.heap.size ≤ R := by omega
  have hR2 : R < V.heap.size := by omega
  clear hs0
  obtain ⟨⟨c0, c1, c2, c3⟩, cf⟩ := hVb.cells
  have hz1 := hVb.z1
  have hz2 := hVb.z2
  have hr0 := hVb.r0
  have hr1 := hVb.r1
  obtain ⟨r, hr⟩ : ∃ r, Hid (r = s.read) := ⟨_, rfl⟩
  obtain ⟨fin, hfin⟩ : ∃ fin, Hid (fin = s.fin) := ⟨_, rfl⟩
  obtain ⟨hf', hhf⟩ : ∃ x, Hid (x = s.hf) := ⟨_, rfl⟩
  rw [← hr.out] at hr0 hr1 c1 hr9
  rw [← hfin.out] at c3
  rw [← hhf.out] at c2 hf
  have hnx := fun m => next_any (V.drewN m) B base z g cap s L (hVb.drewN m)
  have hrl := runLen_le s.f z s.read
  have hrh := runLen_held s.f z s.read
  rw [← hr.out] at hnx hrl hrh
  obtain ⟨ℓ, hℓ⟩ : ∃ ℓ, Hid (ℓ = runLen s.f z r) := ⟨_, rfl⟩
  rw [← hℓ.out] at hnx hrl hrh
  have e1 : IntKind.u64.wrap (r + (ℓ : Int) - r) = (ℓ : Int) := by rw [IntKind.wrap_u64]; omega
  have HVB : Hid (BufAt V B base z s g cap L) := hVb
  have H2 : Hid (Buf2 w V B g) := Buf2.ofGrown hg0
  clear hVb
  obtain ⟨K, hK⟩ : ∃ K, Hid (K = takeN z s n) := ⟨_, rfl⟩
  have hKl : K ≤ ℓ := by rw [hK.out, hℓ.out, hr.out]; exact Nat.min_le_right ..
  obtain ⟨M, hM⟩ : ∃ M, (if n < 0 then (0 : Int) else n) = M := ⟨_, rfl⟩
  have hM2 : (n < 0 ∧ M = 0) ∨ (0 ≤ n ∧ M = n) := by
    by_cases hn : n < 0
    · rw [if_pos hn] at hM; exact .inl ⟨hn, hM.symm⟩
    · rw [if_neg hn] at hM; exact .inr ⟨by omega, hM.symm⟩
  have hM0 : 0 ≤ M := by omega
  have hM1 : M ≤ 9223372036854775807 := by omega
  have hKe : (if (ℓ : Int) < M then (ℓ : Int) else M) = (K : Int) := by
    have e : K = min n.toNat ℓ := by rw [hK.out, hℓ.out, hr.out]; rfl
    by_cases h2 : (ℓ : Int) < M
    · rw [if_pos h2]; omega
    · rw [if_neg h2]; omega
  have HM : Hid _ := hM2
  clear hM2
  go_enter Try.func89, Try.ntmps89
  go_upto_region 1 with fail
  rw [← hV, ← hR]
  clear hV hR
  go_quiet ((go_at_call 77; exact Calls.quiet_of (hnx _)))
  clear hKe hnx hM hM0 hM1
  have HK : Hid (K ≤ ℓ) := hKl
  by_cases hE : K = 0 ∧ hf' = 1 ∧ r = fin
  case pos =>
    have HE : Hid (takeR z s n = (⟨15, 0, []⟩, s)) := by unfold Hid takeR; rw [if_pos (by rw [← hK.out, ← hhf.out, ← hr.out, ← hfin.out]; exact hE)]
    obtain ⟨hE1, hE2, hE3⟩ := hE
    have d1 : ((K : Int) == 0) = true := by simpa using hE1
    have d2 : (hf' == 1) = true := by simpa using hE2
    have d3 : (r == fin) = true := by simpa using hE3
    have Q1 : Hid _ := hE1
    have Q2 : Hid _ := hE2
    have Q3 : Hid _ := hE3
    clear hE1 hE2 hE3
    have hX : (V.drewN nq).heap[R]? = some (.cells #[.int .i64 0, .int .i64 0, .slice none 0 0] 50 (0, 0)) := hR0
    go_wp2_with fail
    go_quiet (fail)
    obtain ⟨⟨k0, k1, k2⟩, kf0, kf1, kf2⟩ := cells3r hR0
    have zz := fun m => (cells3r (set3r (show (V.drewN m).heap[R]? = some (.cells #[.int .i64 0, .int .i64 0, .slice none 0 0] 50 (0, 0)) from hR0) (.int .i64 15) (.int .i64 0) (.slice none 0 0))).1
    have z0 := fun m => (zz m).1
    have z1 := fun m => (zz m).2.1
    have z2 := fun m => (zz m).2.2
    have hFB := fun m => (HVB.out.drewN m).fill nB ng (.int .i64 15) (.int .i64 0) (.slice none 0 0)
    have hFT := fun m => (show Buf2 w (V.drewN m) B g from ⟨H2.out.os, H2.out.tape, H2.out.output, H2.out.size, H2.out.block⟩).fill hRw (.int .i64 15) (.int .i64 0) (.slice none 0 0)
    clear zz
    go_wp2_with fail
    exact bodyPost_ret (v := .agg #[.int .i64 15, .int .i64 0, .slice none 0 0]) (by simp [results, Try.results89, go_sem, z0, z1, z2]) rfl (by rw [HE.out]; exact ⟨none, 0, rfl, ⟨rfl, .inl ⟨rfl, rfl⟩⟩, ⟨L, hFB _⟩, hFT _⟩)
  case neg =>
  have HE : Hid (takeR z s n = (⟨0, K, bytesAt s.f r K⟩, goneN s K)) := by unfold Hid takeR goneN; rw [if_neg (by rw [← hK.out, ← hhf.out, ← hr.out, ← hfin.out]; exact hE), ← hK.out, ← hr.out]
  have HN : Hid _ := hE
  clear hE
  go_upto_region 2 with fail
  go_cut [37] from 18 to 36 (fun v wx => v = .bool false ∧ ∃ m, wx = V.drewN m)
  case first =>
    by_cases hq1 : K = 0
    · have d1 : ((K : Int) == 0) = true := by simpa using hq1
      by_cases hq2 : hf' = 1
      · have d2 : (hf' == 1) = true := by simpa using hq2
        have d3 : (r == fin) = false := by simpa using fun h => HN.out ⟨hq1, hq2, h⟩
        have Q1 : Hid _ := hq1
        have Q2 : Hid _ := hq2
        clear hq1 hq2
        go_wp2_with fail
        go_quiet (fail)
        go_wp2_with fail
        go_meet
        case rel => exact ⟨rfl, _, World.drewN_drewN ..⟩
      · have d2 : (hf' == 1) = false := by simpa using hq2
        have Q1 : Hid _ := hq1
        have Q2 : Hid _ := hq2
        clear hq1 hq2
        go_wp2_with fail
        go_quiet (fail)
        go_wp2_with fail
        go_meet
        case rel => exact ⟨rfl, _, World.drewN_drewN ..⟩
    · have d1 : ((K : Int) == 0) = false := by simpa using hq1
      have Q1 : Hid _ := hq1
      clear hq1
      go_wp2_with fail
      go_quiet (fail)
      go_wp2_with fail
      go_meet
      case rel => exact ⟨rfl, _, World.drewN_drewN ..⟩
  case rest =>
  obtain ⟨rfl, mq, rfl⟩ := hcut
  have HN2 : Hid _ := HN
  clear HN c0 c1 c2 c3 cf
  obtain ⟨i0, hi, hz0, hz1', hz2'⟩ := info_parts info_u8
  obtain ⟨W, hW, hWs, hWb, hWt, hWR⟩ : ∃ W, W = V.drewN mq ∧ Hid (W.heap.size = V.heap.size) ∧ BufAt W B base z s g cap L ∧ Buf2 w W B g ∧ W.heap[R]? = some (.cells #[.int .i64 0, .int .i64 0, .slice none 0 0] 50 (0, 0)) := ⟨_, rfl, rfl, HVB.out.drewN mq, ⟨H2.out.os, H2.out.tape, H2.out.output, H2.out.size, H2.out.block⟩, hR0⟩
  rw [← hW]
  clear hW
  have hVw : w.heap.size ≤ W.heap.size := by have := HS0.out; have := hWs.out; omega
  have hRW : R < W.heap.size := by have := hWs.out; omega
  go_wp2_with (at_make; refine wpList_make_own _ rfl _ _ 36 rfl W.heap.size 5 i0 (.int .u8 0) 1 Try.underlying36 hi hz0 hz1' .i64 .u64 _ K rfl rfl (by omega) (by rw [hz2']; omega) (by unfold maxLen; omega) (Nat.le_refl _) ?_; intro w2 hr2 hg2)
  have hg2b : W.heap.size ≤ w2.heap.size := hg2.size
  have hgW : g < W.heap.size := by omega
  have hBW : B < W.heap.size := by omega
  have hI0 : BufAt w2 B base z (goneN s 0) g cap L := by
    rw [goneN_zero hw]
    exact hWb.kept (hg2.block B hBW (by simp)) (hg2.block g hgW (by simp))
  have hI2 : Buf2 W w2 B g := ⟨hg2.os, hg2.tape, hg2.output, hg2.size, fun k h1 _ _ => hg2.block k h1 (by simp)⟩
  clear hWb HVB H2
  go_loopw [6, 42] (fun dv iv wr => ∃ (i : Nat) (av : Option Addr) (cp : Nat) (L' : SlotL), i ≤ K ∧ iv = .int .u64 (i : Int) ∧ dv = .slice av i cp ∧ wr.ownsRow W.heap.size 5 1 (.slice av i cp) i ((bytesAt s.f r i).map (.int .u8)) ∧ BufAt wr B base z (goneN s i) g cap L' ∧ Buf2 W wr B g) (fun _ iv _ => K - (intOf iv).toNat)
  case atStart => exact ⟨0, _, _, L, Nat.zero_le _, rfl, rfl, hr2, hI0, hI2⟩
  case round =>
  clear hr2 hg2 hI0 hI2 hg2b
  obtain ⟨i, av, cp, L', hi', rfl, rfl, hro, hb, hbt⟩ := hrel
  obtain ⟨⟨c0, c1, c2, c3⟩, cf⟩ := hb.cells
  have hc1 : (goneN s i).read = r + (i : Int) := by rw [hr.out]; rfl
  rw [hc1] at c1
  have hsz := hbt.size
  by_cases hlt : i < K
  case neg =>
    obtain rfl : i = K := by omega
    have hkk : ¬ (i : Int) < (i : Int) := by omega
    have hX2 : wr.heap[R]? = some (.cells #[.int .i64 0, .int .i64 0, .slice none 0 0] 50 (0, 0)) := (hbt.block R hRW (Ne.symm nB) (Ne.symm ng)).trans hWR
    have hT2 : Buf2 w wr B g := ⟨hbt.os.trans hWt.os, hbt.tape.trans hWt.tape, hbt.output.trans hWt.output, Nat.le_trans hWt.size hbt.size, fun k h1 h2 h3 => (hbt.block k (Nat.lt_of_lt_of_le h1 hWt.size) h2 h3).trans (hWt.block k h1 h2 h3)⟩
    clear c0 c1 c2 c3 cf
    have hwi : IntKind.i64.wrap (i : Int) = (i : Int) := by rw [IntKind.wrap_i64]; omega
    obtain ⟨⟨k0, k1, k2⟩, kf0, kf1, kf2⟩ := cells3r hX2
    obtain ⟨⟨z0, z1, z2⟩, _⟩ := cells3r (set3r hX2 (.int .i64 0) (.int .i64 (i : Int)) (.slice av i cp))
    have hFB := hb.fill nB ng (.int .i64 0) (.int .i64 (i : Int)) (.slice av i cp)
    have hFT := hT2.fill hRw (.int .i64 0) (.int .i64 (i : Int)) (.slice av i cp)
    have hro2 : (((wr.setCell ⟨R, 0, none⟩ (.int .i64 0)).setCell ⟨R, 1, none⟩ (.int .i64 (i : Int))).setCell ⟨R, 2, none⟩ (.slice av i cp)).ownsRow W.heap.size 5 1 (.slice av i cp) i ((bytesAt s.f r i).map (.int .u8)) := kept_new (kept_new (kept_new hro (grown_set _ R 0 _) hRW) (grown_set _ R 1 _) hRW) (grown_set _ R 2 _) hRW
    go_wp2_with fail
    exact bodyPost_ret (v := .agg #[.int .i64 0, .int .i64 (i : Int), .slice av i cp]) (by simp [results, Try.results89, go_sem, z0, z1, z2]) rfl (by rw [HE.out]; refine ⟨av, cp, by simp only [bytesAt_length], ?_, ⟨L', hFB⟩, hFT⟩; simp only [bytesAt_length]; exact owned_base hro2 (by omega))
  case pos =>
  have hii : (i : Int) < (K : Int) := by omega
  obtain ⟨x, hx⟩ : ∃ x, Hid (x = r + (i : Int)) := ⟨_, rfl⟩
  rw [← hx.out] at c1 hc1
  have hx0 : 0 ≤ x := by have := hx.out; omega
  have hx1 : x + 1 ≤ 9000000000000000000 := by have := hx.out; have := HK.out; omega
  have hhd := hrh i (by have := HK.out; omega)
  rw [← hx.out] at hhd
  obtain ⟨v, hv⟩ : ∃ v, s.f x = some v := by cases h : s.f x with | none => rw [h] at hhd; simp at hhd | some v => exact ⟨v, rfl⟩
  have hfx : (goneN s i).f x = some v := by
    have e : (goneN s i).f x = if x < s.read + i then none else s.f x := rfl
    rw [e, if_neg (by rw [← hr.out]; have := hx.out; omega), hv]
  have hs := slotOf_any wr B base z g cap _ L' hb x hx0 (by omega)
  obtain ⟨y0, y1⟩ := hb.slot (x := x) (by rw [hc1]; omega) (by rw [hc1]; omega)
  rw [hfx] at y0 y1
  simp only [slotV] at y0 y1
  obtain ⟨J, hJ⟩ : ∃ J, Hid (J = (x % (z : Int)).toNat * 2) := ⟨_, rfl⟩
  rw [← hJ.out] at hs y0 y1
  have hnn : (bytesAt s.f r (i + 1)) = bytesAt s.f r i ++ [v] := by rw [bytesAt_succ, ← hx.out, hv]; rfl
  have HNN : Hid _ := hnn
  clear hnn c0 c2 c3 hfx hv hhd
  go_wp2_with fail
  refine hs.mono ?_
  rintro e w3 ⟨rfl, m3, rfl⟩
  obtain ⟨W3, hW3, q1, q2, q3, q4, q5⟩ : ∃ W3, W3 = wr.drewN m3 ∧ W.heap.size ≤ W3.heap.size ∧ BufAt W3 B base z (goneN s i) g cap L' ∧ Buf2 W W3 B g ∧ W3.ownsRow W.heap.size 5 1 (.slice av i cp) i ((bytesAt s.f r i).map (.int .u8)) ∧ W3.cell? ⟨g, J + 1, none⟩ = some (.int .u8 v) := ⟨_, rfl, hsz, hb.drewN m3, ⟨hbt.os, hbt.tape, hbt.output, hbt.size, hbt.block⟩, hro, y1⟩
  rw [← hW3]
  clear hW3 hb hbt hro y0 y1 hs c1 cf
  have HF : Hid (∀ (w4 : World) (ob : Obj), (W3.alloc ob).grownBy w4 (Value.slice av i cp).ownBlock → W.heap.size ≤ w4.heap.size ∧ BufAt w4 B base z (goneN s i) g cap L' ∧ Buf2 W w4 B g ∧ w4.cell? ⟨B, 1, none⟩ = some (.int .u64 x)) := by
    intro w4 ob hg4
    have hsq : W3.heap.size ≤ w4.heap.size := by have := hg4.size; simp at this; omega
    have hgv : ∀ k, k < W.heap.size → w4.heap[k]? = W3.heap[k]? := fun k hk => by
      refine (hg4.block k (by simp; omega) (fun e => ?_)).trans (Below.heap_alloc _ _ _ (by omega))
      have := (q4.lt k e.symm).1
      omega
    have hb4 := q2.kept (hgv B hBW) (hgv g hgW)
    exact ⟨by omega, hb4, ⟨hg4.os.trans q3.os, hg4.tape.trans q3.tape, hg4.output.trans q3.output, by omega, fun k h1 h2 h3 => (hgv k h1).trans (q3.block k h1 h2 h3)⟩, by rw [← hc1]; exact hb4.cells.1.2.1⟩
  go_wp2_with (at_builtin; refine wpList_app1 _ (by rfl) _ _ 36 5 (by rfl) .u8 1 Try.underlying36 info_u8 (by decide) W.heap.size av i cp (bytesAt s.f r i) v (by rfl) (q4.alloc _) ⟨W3.heap.size, 0, none⟩ (by rfl) (by simp) (by omega) (by simp; omega) ?_; intro g' cap' w4 ho4 hg4; obtain ⟨hsq, hb4, ht4, c1⟩ := HF.out w4 _ hg4)
  rw [← HNN.out] at ho4
  have hs4 := slotOf_any w4 B base z g cap _ L' hb4 x hx0 (by omega)
  rw [← hJ.out] at hs4
  obtain ⟨⟨c0, _, c2, c3⟩, cf⟩ := hb4.cells
  have fz0 := hb4.row.frozenAt J
  have fz1 := hb4.row.frozenAt (J + 1)
  have cj0 : ∃ u, w4.cell? ⟨g, J, none⟩ = some u := ⟨_, by rw [hJ.out]; exact (hb4.slot (x := x) (by rw [hc1]; omega) (by rw [hc1]; omega)).1⟩
  have cj1 : ∃ u, w4.cell? ⟨g, J + 1, none⟩ = some u := ⟨_, by rw [hJ.out]; exact (hb4.slot (x := x) (by rw [hc1]; omega) (by rw [hc1]; omega)).2⟩
  obtain ⟨u0, cj0⟩ := cj0
  obtain ⟨u1, cj1⟩ := cj1
  have cB1 := cf 1
  have hwx : IntKind.u64.wrap (x + 1) = x + 1 := by rw [IntKind.wrap_u64]; omega
  have HT := fun m => (hb4.drewN m).take (hw.goneN i) (by rw [hc1]; exact hx1)
  rw [← goneN_succ, hc1] at HT
  simp only [← hJ.out] at HT
  have HB4 : Hid _ := hb4
  clear c0 c2 c3 cf q2 q3 q4 q5 hb4
  go_wp2_with fail
  refine hs4.mono ?_
  rintro e w5 ⟨rfl, m5, rfl⟩
  have hgB : B ≠ g := blk_ne HB4.out
  have hgB' : ¬ B = g := hgB
  have HR : ∀ m, ((((w4.drewN m).setCell ⟨g, J, none⟩ (.bool false)).setCell ⟨g, J + 1, none⟩ (.int .u8 0)).setCell ⟨B, 1, none⟩ (.int .u64 (x + 1))).ownsRow W.heap.size 5 1 (.slice (some ⟨g', 0, none⟩) (i + 1) cap') (i + 1) ((bytesAt s.f r (i + 1)).map (.int .u8)) := fun m => kept_new (kept_new (kept_new (owned_drewN ho4 m) (grown_set _ g J _) hgW) (grown_set _ g (J + 1) _) hgW) (grown_set _ B 1 _) hBW
  have HS : ∀ m, Buf2 W ((((w4.drewN m).setCell ⟨g, J, none⟩ (.bool false)).setCell ⟨g, J + 1, none⟩ (.int .u8 0)).setCell ⟨B, 1, none⟩ (.int .u64 (x + 1))) B g := fun m => ⟨ht4.os, ht4.tape, ht4.output, by simpa using ht4.size, fun k h1 h2 h3 => by
    rw [heap_setCell_other _ _ _ _ (by simpa using h2), heap_setCell_other _ _ _ _ (by simpa using h3), heap_setCell_other _ _ _ _ (by simpa using h3)]
    exact ht4.block k h1 h2 h3⟩
  clear hs4
  go_wp2_with fail
  go_roundw
  case rel => exact ⟨i + 1, _, _, _, by omega, by go_num, rfl, HR _, HT _, HS _⟩
  case measure => simp [intOf]; omega
end Go.Proofs.Ytpeecjoadgefjaa
