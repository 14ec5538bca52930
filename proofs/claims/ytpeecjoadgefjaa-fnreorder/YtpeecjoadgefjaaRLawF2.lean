import Derived.Test.YtpeecjoadgefjaaJ13
namespace Go.Proofs.Ytpeecjoadgefjaa
open Go.ChangeShapes Go.WideShapes Go.ChangeAt Go.RowKit
set_option linter.unusedVariables false

set_option maxHeartbeats 4000000 in
set_option maxRecDepth 100000 in
theorem lawReorder (a : Option Addr) (zs : List Int) (n cap : Nat) (w : World) (hn : zs.length = n) (hz : Ints .u8 w a zs) (hv : ∀ x ∈ zs, 0 ≤ x ∧ x ≤ 255) (hm : n ≤ 9223372036854775807) :
    Calls Try.prog 6 #[.slice a n cap] w fun e w' => e = .returned (.bool true) ∧ Below w.heap.size w w' := by
  by_cases hl : n ≤ 1048576
  case neg =>
    have d1 : decide (1048576 < (n : Int)) = true := by rw [decide_eq_true_iff]; omega
    go_enter Try.func6, Try.ntmps6
    go_wp2_with fail
    go_ret
    exact ⟨rfl, Below.refl _ _⟩
  case pos =>
  have d1 : decide (1048576 < (n : Int)) = false := by rw [decide_eq_false_iff_not]; omega
  obtain ⟨X, hX⟩ : ∃ X, Hid (X = honX zs) := ⟨_, rfl⟩
  obtain ⟨Z, hZ⟩ : ∃ Z, Hid (Z = honZ zs) := ⟨_, rfl⟩
  obtain ⟨M, hM⟩ : ∃ M, Hid (M = honM zs) := ⟨_, rfl⟩
  obtain ⟨ES, hES⟩ : ∃ ES, Hid (ES = honE zs) := ⟨_, rfl⟩
  have HH : Hid (∀ W, Below w.heap.size w W → Calls Try.prog 21 #[.slice a n cap] W fun e w' => ∃ (av : Option Addr) (cp : Nat) (G : Evs), e = .returned (.tuple #[.int .u64 X, .int .i64 (Z : Int), .slice av M cp]) ∧ G.length = M ∧ G.map (·.1) = ES ∧ (∀ p ∈ G, DrawnE X p.1) ∧ ((0 ≤ X ∧ X ≤ 4611686018427387904) ∧ (1 ≤ Z ∧ Z ≤ 60) ∧ M ≤ 140) ∧ EvsR w' W.heap.size (.slice av M cp) G ∧ Below W.heap.size W w') := by
    intro W hW
    rw [hX.out, hZ.out, hM.out, hES.out]
    exact honest_at a zs n cap W hn (hz.moved hW) hv hl
  have h1 := HH.out w (Below.refl _ _)
  clear hz hv hn
  go_enter Try.func6, Try.ntmps6
  go_wp2_with fail
  refine h1.mono ?_
  rintro e w1 ⟨ea, ec, G1, rfl, l1, m1, dr1, ⟨⟨x0, x1⟩, ⟨z1, z2⟩, mb⟩, hE1, hb1⟩
  have h2 := HH.out w1 hb1
  clear h1
  go_wp2_with fail
  refine h2.mono ?_
  rintro e w2 ⟨ma, mc, G2, rfl, l2, m2, dr2, _, hE2, hb2⟩
  have hB2 := hb1.trans (hb2.mono hb1.size)
  have hE1 := hE1.below hb2
  have hok : OkR X Z := ⟨x1, by omega, by omega⟩
  have hoks : ∀ e ∈ ES, EvOk e := fun e he => by
    rw [← m1] at he
    obtain ⟨p, hp, rfl⟩ := List.mem_map.1 he
    exact (dr1 p hp).ok
  have hhon : ∀ e ∈ ES, HonE X e ∧ (e.kd = 1 ∨ e.kd = 2 ∨ e.kd = 3) := fun e he => by
    rw [← m1] at he
    obtain ⟨p, hp, rfl⟩ := List.mem_map.1 he
    exact ⟨(dr1 p hp).hon, (dr1 p hp).kd⟩
  have hlenE : ES.length = M := by rw [← m1, List.length_map, l1]
  have HOKS : Hid _ := hoks
  have HHON : Hid _ := hhon
  have HLE : Hid _ := hlenE
  have h3 := specRunR_ok X x0 Z hok ea G1 M ec w2 l1 (by omega) (hE1.lie l1) (evs_ok hoks m1)
  rw [m1] at h3
  clear h2 HH hb2 hb1
  go_wp2_with fail
  refine h3.mono ?_
  rintro e w3 ⟨wa, wcp, Gw, rfl, hOw, hGw, hb3⟩
  have hB3 := hB2.trans (hb3.mono hB2.size)
  have hE1 := hE1.below hb3
  have hE2 := hE2.below hb3
  have h4 := implRunR_ok X x0 Z hok ma G2 M mc w3 l2 (by omega) (hE2.lie l2) (evs_ok hoks m2)
  rw [m2] at h4
  clear h3 hb3 hB2
  go_wp2_with fail
  refine h4.mono ?_
  rintro e w4 ⟨ia, icp, Gi, rfl, hOi, hGi, hb4⟩
  have hB4 := hB3.trans (hb4.mono hB3.size)
  have hE1 := hE1.below hb4
  have hE2 := hE2.below hb4
  have hOw := hOw.keep (w' := w4) fun k _ hk => hb4.block k hk
  have h5 := implStateR_ok X x0 Z hok ma G2 M mc w4 l2 (by omega) (hE2.lie l2) (evs_ok hoks m2)
  rw [m2] at h5
  clear h4 hb4 hB3
  obtain ⟨sF, hsF⟩ : ∃ sF, Hid (sF = stateR Z X ES) := ⟨_, rfl⟩
  rw [← hsF.out] at h5
  unfold viewV at h5
  obtain ⟨rF, hrF⟩ : ∃ x, Hid (x = sF.read) := ⟨_, rfl⟩
  obtain ⟨nF, hnF⟩ : ∃ x, Hid (x = sF.read + (runLen sF.f Z sF.read : Nat)) := ⟨_, rfl⟩
  obtain ⟨H, hH⟩ : ∃ x, Hid (x = heldR Z sF) := ⟨_, rfl⟩
  obtain ⟨fF, hfF⟩ : ∃ x, Hid (x = sF.hf) := ⟨_, rfl⟩
  obtain ⟨qF, hqF⟩ : ∃ x, Hid (x = sF.fin) := ⟨_, rfl⟩
  rw [← hnF.out, ← hrF.out, ← hH.out, ← hfF.out, ← hqF.out] at h5
  obtain ⟨N, hN⟩ : ∃ N, Hid (N = H.length) := ⟨_, rfl⟩
  rw [← hN.out] at h5
  go_wp2_with fail
  refine h5.mono ?_
  rintro e w5 ⟨ha, hcp, rfl, hrH, hb5⟩
  have hB5 := hB4.trans (hb5.mono hB4.size)
  have hE1 := hE1.below hb5
  have hOw := hOw.keep (w' := w5) fun k _ hk => hb5.block k hk
  have hOi := hOi.keep (w' := w5) fun k _ hk => hb5.block k hk
  clear h5 hb5 hB4
  obtain ⟨W, hW⟩ : ∃ W, W = (w5.alloc (.cells #[.int .u64 rF, .int .u64 nF, .slice ha N hcp, .int .i64 fF, .int .u64 qF] 44)).alloc (.cells #[] 31) := ⟨_, rfl⟩
  obtain ⟨XV, hXV⟩ : ∃ XV, XV = w5.heap.size := ⟨_, rfl⟩
  obtain ⟨SB, hSB⟩ : ∃ SB, SB = w5.heap.size + 1 := ⟨_, rfl⟩
  have hbW5 : Below w5.heap.size w5 W := by rw [hW]; exact ((Below.refl _ _).alloc (Nat.le_refl _) _).alloc (by simp) _
  have hvw : W.heap[XV]? = some (.cells #[.int .u64 rF, .int .u64 nF, .slice ha N hcp, .int .i64 fF, .int .u64 qF] 44 (0, 0)) := by rw [hW, hXV]; exact (Below.heap_alloc _ _ _ (by simp)).trans (heap_alloc_new _ _)
  have hsum0 : W.ownsRow w5.heap.size 31 2 (.slice (some ⟨SB, 0, none⟩) 0 0) 0 [] := by
    rw [hW, hSB]
    have := World.ownsRow_made (size := 2) (e := 31) (w5.alloc (.cells #[.int .u64 rF, .int .u64 nF, .slice ha N hcp, .int .i64 fF, .int .u64 qF] 44)) #[] 0 (Nat.le_refl _) (by unfold maxLen; omega) rfl
    simp at this
    exact owned_base this (by omega)
  obtain ⟨b5, hb5⟩ : ∃ b5, Hid (b5 = w5.heap.size) := ⟨_, rfl⟩
  have HS0 : Hid (W.ownsRow b5 31 2 (.slice (some ⟨SB, 0, none⟩) ([] : Sp).length 0) ([] : Sp).length (flat [])) := by rw [hb5.out]; exact hsum0
  clear hsum0
  have HLAID : Hid (Laid W X Z M ES ea G1 wa ia wcp icp w2.heap.size w3.heap.size Gw Gi XV ha hcp) := by
    refine ⟨((hE1.below hbW5).lie l1).in_, m1, hOw.keep fun k _ hk => hbW5.block k hk, hOi.keep fun k _ hk => hbW5.block k hk, hGw, hGi, ?_, ?_⟩
    · unfold viewV
      rw [← hsF.out, ← hnF.out, ← hrF.out, ← hH.out, ← hfF.out, ← hqF.out, ← hN.out]
      exact hvw
    · rw [← hsF.out, ← hH.out, ← hN.out]
      exact owned_base (row_stays hrH fun k hk => hbW5.block k (hrH.lt k hk).2) (Nat.zero_le _)
  have HB : Hid (Below w.heap.size w W) := hB5.trans (hbW5.mono hB5.size)
  clear hE1 hE2 hOw hOi hrH hB5 hvw dr1 dr2 hoks hhon hlenE l1 l2 m1 m2 hGw hGi
  go_upto_region 13 with fail
  rw [← hW, ← hSB, ← hXV]
  have hbase : w5.heap.size ≤ W.heap.size := hbW5.size
  clear hW hSB hXV hbW5
  rw [← hb5.out] at hbase
  have HINV : Hid (∀ k, k ≤ M → RInv X Z k (stateR Z X (ES.take k))) := by
    intro k hk
    have := rinv_at (z := Z) x0 (ES.take k) (fun e he v hv => (HOKS.out e (List.mem_of_mem_take he)).dv v hv)
    rw [List.length_take, HLE.out, Nat.min_eq_left hk] at this
    exact this
  have HRD : Hid (∀ k, k ≤ M → X ≤ (stateR Z X (ES.take k)).read ∧ (stateR Z X (ES.take k)).read ≤ X + 8400) := by
    intro k hk
    have h1 := HINV.out k hk
    have h2 := h1.hi
    have h3 : k * Z ≤ 140 * 60 := Nat.mul_le_mul (by omega) (by omega)
    rw [← Int.natCast_mul] at h2
    exact ⟨h1.lo, by omega⟩
  go_wp2_with fail
  go_loopw [15, 16, 17, 18] (fun rv kv sv iv wr => ∃ (k : Nat) (kp ρ : Int) (sm : Sp) (avs : Option Addr) (cps : Nat), k ≤ M ∧ iv = .int .i64 (k : Int) ∧ rv = .int .i64 ρ ∧ kv = .int .i64 kp ∧ sv = .slice avs sm.length cps ∧ Hid (ρ = (stateR Z X (ES.take k)).read - X) ∧ Hid (Hon X Z (stateR Z X (ES.take k)) sm kp) ∧ Hid (Fits sm) ∧ sm.length ≤ k ∧ Hid (wr.ownsRow b5 31 2 (.slice avs sm.length cps) sm.length (flat sm)) ∧ Hid (Below W.heap.size W wr)) (fun _ _ _ iv _ => M - (intOf iv).toNat)
  case atStart => exact ⟨0, 0, 0, [], _, _, Nat.zero_le _, rfl, rfl, rfl, rfl, by unfold Hid; simp [stateR, startR], hon_start X Z, by intro p hp; simp at hp, Nat.le_refl _, HS0, Below.refl _ _⟩
  case round =>
  clear HS0
  obtain ⟨k, kp, ρ, sm, avs, cps, hk, rfl, rfl, rfl, rfl, HRHO, HHO, HFI, hsl, HSR, HBR⟩ := hrel
  obtain ⟨L, hL⟩ : ∃ L, Hid (sm.length = L) := ⟨_, rfl⟩
  rw [hL.out] at hsl ⊢
  have hrdk := HRD.out k hk
  have hρ0 : 0 ≤ ρ ∧ ρ ≤ 8400 := by rw [HRHO.out]; omega
  by_cases hlt : k < M
  case neg =>
    obtain rfl : k = M := by omega
    have hkk : ¬ (k : Int) < (k : Int) := by omega
    have htk : ES.take k = ES := List.take_of_length_le (by rw [HLE.out]; exact Nat.le_refl _)
    have hrho := HRHO.out
    have hho := HHO.out
    rw [htk, ← hsF.out] at hrho hho hrdk
    have hcut := hho.cut
    have hsize := hho.size
    obtain ⟨hi, r, hg1, hg2⟩ := hho.gaps
    have hkept := hho.kept
    have hnm := (heldR_norm hho.win).1
    have hcn := cnt_le sF.f Z sF.read
    have hrl := runLen_le sF.f Z sF.read
    have hlH := heldRun_length sF.f Z sF.read []
    have hfH := heldRun_fits sF.f Z sF.read [] (by intro p hp; simp at hp) (by omega) (by omega)
    rw [← heldR, ← hH.out] at hlH hfH
    rw [← hN.out] at hlH
    simp only [List.length_nil, Nat.zero_add] at hlH
    obtain ⟨C, hC⟩ : ∃ C, Hid (C = cnt sF.f Z sF.read) := ⟨_, rfl⟩
    have hnf := hnF.out
    rw [← hC.out] at hcn hkept hsize
    rw [← hnF.out] at hg1
    rw [← hH.out] at hcut hsize hg1 hg2 hnm
    rw [← hrF.out] at hcut hsize hg1 hg2 hkept hrho hrdk hnf
    have HVW : Hid (∀ V, Below W.heap.size W V → V.cell? ⟨XV, 0, none⟩ = some (.int .u64 rF) ∧ V.cell? ⟨XV, 1, none⟩ = some (.int .u64 nF) ∧ V.cell? ⟨XV, 2, none⟩ = some (.slice ha N hcp) ∧ V.ownsRow 0 31 2 (.slice ha N hcp) N (flat H)) := by
      intro V hV
      have h := HLAID.out.vw
      have h' := HLAID.out.hr
      unfold viewV at h
      rw [← hsF.out, ← hH.out, ← hN.out] at h'
      rw [← hsF.out, ← hnF.out, ← hrF.out, ← hH.out, ← hfF.out, ← hqF.out, ← hN.out] at h
      obtain ⟨⟨y0, y1, y2, y3, y4⟩, _⟩ := cells5r ((hV.block XV (Array.getElem?_eq_some_iff.1 h).1).trans h)
      exact ⟨y0, y1, y2, row_stays h' fun j hj => hV.block j (h'.lt j hj).2⟩
    obtain ⟨y0, y1, y2, _⟩ := HVW.out wr HBR.out
    have hsr := HSR.out
    rw [hL.out] at hsr
    obtain ⟨rc1, rc2, rc3⟩ := row_cap hsr
    have hc := implCut_main sm X rF HFI.out (by rw [hL.out]; omega) hho.norm x0 (by omega) (by omega) avs cps wr (spans_of hL.out hsr) (by rw [hL.out]; exact rc1) rc2 rc3 H 0 (.inl ⟨by rw [hcut, ← hN.out]; omega, hcut.symm, rfl⟩)
    rw [hL.out, ← hN.out] at hc
    have hwZ : IntKind.u64.wrap (Z : Int) = (Z : Int) := by rw [IntKind.wrap_u64]; omega
    have hwt : IntKind.u64.wrap (rF + (Z : Int)) = rF + (Z : Int) := by rw [IntKind.wrap_u64]; omega
    have hwg : IntKind.u64.wrap (rF + (Z : Int) + 1) = rF + (Z : Int) + 1 := by rw [IntKind.wrap_u64]; omega
    have hwr : IntKind.u64.wrap ρ = ρ := by rw [IntKind.wrap_u64]; omega
    have hwx : IntKind.u64.wrap (X + ρ) = rF := by rw [IntKind.wrap_u64]; omega
    have hwC : IntKind.i64.wrap (C : Int) = (C : Int) := by rw [IntKind.wrap_i64]; omega
    have hwk : IntKind.i64.wrap ((C : Int) + ρ) = kp := by rw [IntKind.wrap_i64]; omega
    have HNM : Hid _ := hnm
    have HFH : Hid _ := hfH
    have HSZ : Hid _ := hsize
    have HG1 : Hid _ := hg1
    have HG2 : Hid _ := hg2
    have HRR : Hid _ := hrho
    have HKK : Hid _ := hkept
    clear hnm hfH hsize hg1 hg2 hrho hkept hho hcut hsr hnf htk
    go_wp2_with fail
    refine hc.mono ?_
    rintro e w6 ⟨ca, ccp, rfl, hrC, hb6⟩
    have hB6 := HBR.out.trans (hb6.mono HBR.out.size)
    clear hc y0 y1 y2
    obtain ⟨y0, y1, y2, hr6⟩ := HVW.out w6 hB6
    obtain ⟨qc1, qc2, qc3⟩ := row_cap hr6
    have hz := implSize_ok ha H hcp rF (rF + (Z : Int)) w6 (spans_of hN.out.symm hr6) HFH.out (by rw [← hN.out]; omega) HNM.out (by rw [← hN.out]; exact qc1) qc2 (by omega) (by omega) (by omega)
    rw [HSZ.out, ← hN.out] at hz
    clear hr6
    go_wp2_with fail
    refine hz.mono ?_
    rintro e w7 ⟨rfl, hb7⟩
    have hB7 := hB6.trans (hb7.mono hB6.size)
    have hrC := row_stays (w' := w7) hrC fun j hj => hb7.block j (hrC.lt j hj).2
    clear hz y0 y1 y2
    obtain ⟨y0, y1, y2, hr7⟩ := HVW.out w7 hB7
    have hg := implGaps_main H rF (rF + (Z : Int) + 1) HFH.out (by rw [← hN.out]; omega) HNM.out (by omega) (by omega) (by omega) ha hcp w7 (spans_of hN.out.symm hr7) (by rw [← hN.out]; exact qc1) qc2 qc3 ((nF, hi) :: r) 0 (.inl ⟨by have := HG2.out; omega, HG1.out.symm, rfl⟩)
    obtain ⟨LG, hLG⟩ : ∃ LG, Hid (((nF, hi) :: r).length = LG) := ⟨_, rfl⟩
    rw [← hN.out, hLG.out] at hg
    have hG2 := HG2.out
    rw [HG1.out, hLG.out] at hG2
    have hG0 : 0 < LG := by rw [← hLG.out]; simp
    have hGi : (0 : Int) < (LG : Int) := by omega
    clear hr7
    go_wp2_with fail
    refine hg.mono ?_
    rintro e w8 ⟨ga, gcp, rfl, hrG, hb8⟩
    have hB8 := hB7.trans (hb8.mono hB7.size)
    have hrC := row_stays (w' := w8) hrC fun j hj => hb8.block j (hrC.lt j hj).2
    clear hg y0 y1 y2
    obtain ⟨y0, y1, y2, hr8⟩ := HVW.out w8 hB8
    obtain ⟨gb, go, hga, hgc⟩ : ∃ b off, ga = some ⟨b, off, none⟩ ∧ ∀ i, ∀ h : i < ((nF, hi) :: r).length, w8.cell? ⟨b, off + i * 2, none⟩ = some (.int .u64 (((nF, hi) :: r)[i]).1) ∧ w8.cell? ⟨b, off + i * 2 + 1, none⟩ = some (.int .u64 (((nF, hi) :: r)[i]).2) := by
      rcases spans_of hLG.out hrG with h0 | h0
      · simp at h0
      · exact h0
    subst hga
    have g0 := (hgc 0 (by simp)).1
    simp only [Nat.zero_mul, Nat.add_zero, List.getElem_cons_zero] at g0
    have hq : ∀ m, Calls Try.prog 27 #[.slice ca N ccp, .slice ha N hcp] (w8.drewN m) fun e w' => e = .returned (.bool true) ∧ ∃ m', w' = (w8.drewN m).drewN m' := fun m => by
      have hm : Below w8.heap.size w8 (w8.drewN m) := drewsN (Below.refl _ _) _
      exact lSpans_quiet ca ha H N ccp hcp _ hN.out.symm ((spans_of hN.out.symm hrC).moved hm) ((spans_of hN.out.symm hr8).moved hm) (by omega)
    clear hrC hr8 hrG hgc
    go_upto_region 40 with fail
    go_quiet ((go_at_call 27; exact Calls.quiet_of (hq _)))
    have hB9 := HB.out.trans (hB8.mono HB.out.size)
    go_wp2_with fail
    go_ret
    exact ⟨rfl, drewsN hB9 _⟩
  case pos =>
  have hkE : k < ES.length := by have := HLE.out; omega
  have hki : (k : Int) < (M : Int) := by omega
  have hLr := HLAID.out.moved HBR.out
  have HLR : Hid _ := hLr
  have hkG : k < G1.length := by have := congrArg List.length hLr.gm; simp only [List.length_map] at this; omega
  obtain ⟨eb, eo, hea, hec⟩ : ∃ b off, ea = some ⟨b, off, none⟩ ∧ ∀ i, ∀ h : i < G1.length, wr.cell? ⟨b, off + i * 4, none⟩ = some (.int .i64 (G1[i]).1.kd) ∧ wr.cell? ⟨b, off + i * 4 + 1, none⟩ = some (.int .u64 (G1[i]).1.off) ∧ wr.cell? ⟨b, off + i * 4 + 2, none⟩ = some (.slice (G1[i]).2.1 (G1[i]).1.dat.length (G1[i]).2.2) ∧ wr.cell? ⟨b, off + i * 4 + 3, none⟩ = some (.int .i64 (G1[i]).1.n) := by
    rcases hLr.ev.at_ with h0 | h0
    · rw [h0] at hkG; simp at hkG
    · exact h0
  subst hea
  obtain ⟨c1, c2, c3, c4⟩ := hec k hkG
  have hEk : (G1[k]).1 = ES[k] := by
    have e1 : (G1.map (·.1))[k]? = some (G1[k]).1 := by rw [List.getElem?_map, List.getElem?_eq_getElem hkG]; rfl
    rw [hLr.gm, List.getElem?_eq_getElem hkE] at e1
    exact (Option.some.inj e1).symm
  have hmemE : ES[k] ∈ ES := List.getElem_mem hkE
  have hokE := HOKS.out _ hmemE
  obtain ⟨hhE, hkdE⟩ := HHON.out _ hmemE
  have hstep := HHO.out.step hhE hokE.dv
  have hsn : stateR Z X (ES.take (k + 1)) = (stepR Z (stateR Z X (ES.take k)) (ES[k])).2 := stateR_take Z X ES k hkE
  have hout := outsR_get Z ES (startR X) k hkE
  obtain ⟨s, hs⟩ : ∃ s, Hid (s = stateR Z X (ES.take k)) := ⟨_, rfl⟩
  have hfold : (ES.take k).foldl (fun s e => (stepR Z s e).2) (startR X) = s := hs.out.symm
  rw [hfold] at hout
  rw [← hs.out] at hstep hsn hrdk
  obtain ⟨dd, hdd⟩ : ∃ dd, (G1[k]).2 = dd := ⟨_, rfl⟩
  rw [hEk] at c1 c2 c3 c4
  rw [hdd] at c3
  obtain ⟨e, heE⟩ : ∃ e, e = ES[k] := ⟨_, rfl⟩
  rw [← heE] at c1 c2 c3 c4 hokE hhE hkdE hstep hsn hout hmemE
  clear heE
  obtain ⟨Q, hQ⟩ : ∃ Q, Hid (Q = stepR Z s e) := ⟨_, rfl⟩
  rw [← hQ.out] at hstep hsn hout
  obtain ⟨o, s'⟩ := Q
  simp only at hstep hsn hout
  obtain ⟨hHon', hPut, hRdS, hTake⟩ := hstep
  -- both sides' answers at k
  have hkW : k < Gw.length := by have h := congrArg List.length hLr.wm; simp only [List.length_map, outsR_length] at h; omega
  have hkI : k < Gi.length := by have h := congrArg List.length hLr.im; simp only [List.length_map, outsR_length] at h; omega
  have hoW : (Gw[k]).1 = o := by
    have e1 : (Gw.map (·.1))[k]? = some (Gw[k]).1 := by rw [List.getElem?_map, List.getElem?_eq_getElem hkW]; rfl
    rw [hLr.wm, hout] at e1
    exact (Option.some.inj e1).symm
  have hoI : (Gi[k]).1 = o := by
    have e1 : (Gi.map (·.1))[k]? = some (Gi[k]).1 := by rw [List.getElem?_map, List.getElem?_eq_getElem hkI]; rfl
    rw [hLr.im, hout] at e1
    exact (Option.some.inj e1).symm
  have hlW : Gw.length = M := by have h := congrArg List.length hLr.wm; simp only [List.length_map, outsR_length] at h; have := HLE.out; omega
  have hlI : Gi.length = M := by have h := congrArg List.length hLr.im; simp only [List.length_map, outsR_length] at h; have := HLE.out; omega
  obtain ⟨gw, hgw, _, _, u0, u1, u2, _⟩ := hLr.wo.at hlW hkW
  obtain ⟨gi, hgi, _, _, v0, v1, v2, _⟩ := hLr.io.at hlI hkI
  subst hgw hgi
  have hdat := hLr.io.dat _ (List.getElem_mem hkI)
  rw [hoW] at u0 u1
  rw [hoI] at v0 v1 hdat
  obtain ⟨dva, dvc, hdv⟩ := own_shape hdat
  rw [hdv] at v2 hdat
  have HDT : Hid _ := hdat
  obtain ⟨kd, off, dat, nn⟩ := e
  obtain ⟨code, on, od⟩ := o
  obtain ⟨da, dc⟩ := dd
  simp only at c1 c2 c3 c4 u0 u1 v0 v1 v2 hokE hhE hkdE hHon' hPut hRdS hTake
  have ok0 := hokE.o0
  have ok1 := hokE.o1
  have okl := hokE.dl
  simp only at ok0 ok1 okl
  obtain ⟨dl, hdl⟩ : ∃ dl, Hid (dl = dat.length) := ⟨_, rfl⟩
  obtain ⟨ol, hol⟩ : ∃ ol, Hid (ol = od.length) := ⟨_, rfl⟩
  rw [← hdl.out] at c3 okl
  rw [← hol.out] at v2
  have HHON' : Hid _ := hHon'
  have HPUT : Hid _ := hPut
  have HRDS : Hid _ := hRdS
  have HTAKE : Hid _ := hTake
  have HSN : Hid _ := hsn
  have HKD : Hid _ := hkdE
  clear u2 hLr hec hEk hmemE hokE hhE hkdE hout hfold hdd hkW hkI hoW hoI hlW hlI hdat hdv hHon' hPut hRdS hTake hsn hkE hkG
  obtain ⟨W7, hW7⟩ : ∃ W7, W7 = wr.alloc (.cells #[.int .i64 kd, .int .u64 off, .slice da dl dc, .int .i64 nn] 48) := ⟨_, rfl⟩
  obtain ⟨E, hE⟩ : ∃ E, E = wr.heap.size := ⟨_, rfl⟩
  have hb7 : Below wr.heap.size wr W7 := by rw [hW7]; exact (Below.refl _ _).alloc (Nat.le_refl _) _
  have hE7 : W7.heap[E]? = some (.cells #[.int .i64 kd, .int .u64 off, .slice da dl dc, .int .i64 nn] 48 (0, 0)) := by rw [hW7, hE]; exact heap_alloc_new _ _
  have lgi := World.block_lt_of_cell? wr _ v0
  have lgw := World.block_lt_of_cell? wr _ u0
  have hEl : E < W7.heap.size := (Array.getElem?_eq_some_iff.1 hE7).1
  have s7 := hb7.size
  have HVW : Hid (W.heap[XV]? = some (.cells #[.int .u64 rF, .int .u64 nF, .slice ha N hcp, .int .i64 fF, .int .u64 qF] 44 (0, 0))) := by
    have h := HLAID.out.vw
    unfold viewV at h
    rw [← hsF.out, ← hnF.out, ← hrF.out, ← hH.out, ← hfF.out, ← hqF.out, ← hN.out] at h
    exact h
  have HC : Hid (∀ V, Below W7.heap.size W7 V → (V.cell? ⟨gi, k * 3, none⟩ = some (.int .i64 code) ∧ V.cell? ⟨gi, k * 3 + 1, none⟩ = some (.int .i64 on) ∧ V.cell? ⟨gi, k * 3 + 2, none⟩ = some (.slice dva ol dvc) ∧ V.cell? ⟨gw, k * 3, none⟩ = some (.int .i64 code) ∧ V.cell? ⟨gw, k * 3 + 1, none⟩ = some (.int .i64 on)) ∧ (V.cell? ⟨E, 0, none⟩ = some (.int .i64 kd) ∧ V.cell? ⟨E, 1, none⟩ = some (.int .u64 off) ∧ V.cell? ⟨E, 2, none⟩ = some (.slice da dl dc)) ∧ (V.cell? ⟨XV, 3, none⟩ = some (.int .i64 fF) ∧ V.cell? ⟨XV, 4, none⟩ = some (.int .u64 qF)) ∧ Ints .u8 V dva od ∧ Below W.heap.size W V) := by
    intro V hV
    have hbV : Below wr.heap.size wr V := hb7.trans (hV.mono s7)
    have hWV : Below W.heap.size W V := HBR.out.trans (hbV.mono HBR.out.size)
    obtain ⟨⟨e0, e1, e2, e3⟩, _⟩ := cells4r ((hV.block E hEl).trans hE7)
    obtain ⟨⟨y0, y1, y2, y3, y4⟩, _⟩ := cells5r ((hWV.block XV (Array.getElem?_eq_some_iff.1 HVW.out).1).trans HVW.out)
    exact ⟨⟨(hbV.cell (p := ⟨gi, k * 3, none⟩) lgi).trans v0, (hbV.cell (p := ⟨gi, k * 3 + 1, none⟩) lgi).trans v1, (hbV.cell (p := ⟨gi, k * 3 + 2, none⟩) lgi).trans v2, (hbV.cell (p := ⟨gw, k * 3, none⟩) lgw).trans u0, (hbV.cell (p := ⟨gw, k * 3 + 1, none⟩) lgw).trans u1⟩, ⟨e0, e1, e2⟩, ⟨y3, y4⟩, (Ints.ofRow HDT.out).moved hbV, hWV⟩
  have HSR7 : Hid (∀ V, Below W7.heap.size W7 V → V.ownsRow b5 31 2 (.slice avs L cps) L (flat sm)) := by
    intro V hV
    have h := HSR.out
    rw [hL.out] at h
    exact row_stays h fun j hj => (hb7.trans (hV.mono s7)).block j (h.lt j hj).2
  go_upto_region 17 with fail
  rw [← hW7, ← hE]
  clear hW7 hE hb7 hE7 u0 u1 v0 v1 v2 c1 c2 c3 c4
  obtain ⟨⟨a0, a1, a2, a3, a4⟩, _, _, _, _⟩ := HC.out W7 (Below.refl _ _)
  go_quiet (fail)
  obtain ⟨W8, hW8⟩ : ∃ W8, W8 = W7.drewN nq := ⟨_, rfl⟩
  have hB8 : Below W7.heap.size W7 W8 := by rw [hW8]; exact drewsN (Below.refl _ _) _
  rw [← hW8]
  clear hW8 a0 a1 a2 a3 a4
  obtain ⟨⟨a0, a1, a2, a3, a4⟩, ⟨e0, e1, e2⟩, ⟨y3, y4⟩, _, _⟩ := HC.out W8 hB8
  have hrdk1 := HRD.out (k + 1) (by omega)
  rw [HSN.out] at hrdk1
  by_cases k1 : kd = 1
  case pos =>
    have bk1 : (kd == 1) = true := by simpa using k1
    have bk2 : (kd == 2) = false := by simp; omega
    have bk2' : (kd != 2) = true := by simp; omega
    have hrs : s'.read = s.read := HRDS.out (by omega)
    have HRS : Hid _ := hrs
    by_cases c0 : code = 0
    case pos =>
      have bc0 : (code == 0) = true := by simpa using c0
      have hpp := HPUT.out k1 c0
      have hH' := HHON'.out
      unfold sumA keptA at hH'
      rw [if_pos ⟨k1, c0⟩, if_pos ⟨k1, c0⟩] at hH'
      simp only at hH' hpp
      rw [← hdl.out] at hH' hpp
      have hd0 : 0 < dl := by rw [hdl.out]; exact List.length_pos_iff.2 hpp.1
      have hk3 := hH'.kept
      have hcn := cnt_le s'.f Z s'.read
      have hwk : IntKind.i64.wrap (kp + on) = kp + on := by rw [IntKind.wrap_i64]; omega
      have hw1 : IntKind.u64.wrap (dl : Int) = (dl : Int) := by rw [IntKind.wrap_u64]; omega
      have hw2 : IntKind.u64.wrap (off + (dl : Int)) = off + (dl : Int) := by rw [IntKind.wrap_u64]; omega
      have hle := add_length (S := sm) (s := (off, off + (dl : Int))) HHO.out.norm (by simp only; omega)
      rw [hL.out] at hle
      have hsr := HSR7.out W8 hB8
      obtain ⟨rc1, rc2, rc3⟩ := row_cap hsr
      have hadd := (implAdd_full sm off (off + (dl : Int)) HFI.out (by rw [hL.out]; omega) HHO.out.norm ok0 (by omega) (by omega)).1 (by omega) avs cps W8 (spans_of hL.out hsr) (by rw [hL.out]; exact rc1) rc2 rc3
      rw [hL.out] at hadd
      obtain ⟨T, hT⟩ : ∃ T, Hid (T = built f1 sm (off, off + (dl : Int))) := ⟨_, rfl⟩
      rw [← hT.out] at hadd hle hH'
      obtain ⟨LT, hLT⟩ : ∃ LT, Hid (T.length = LT) := ⟨_, rfl⟩
      rw [hLT.out] at hadd hle
      have HH' : Hid _ := hH'
      have HFT : Hid (Fits T) := by unfold Hid; rw [hT.out]; exact fits_built rfl HFI.out ok0 (by omega) (by omega) (by omega)
      have HQ1 : Hid _ := k1
      have HQ2 : Hid _ := c0
      clear k1 c0 hH' hpp hk3 hrs hsr
      go_wp2_with fail
      refine hadd.mono ?_
      rintro e9 w9 ⟨av9, cp9, rfl, hr9, hb9⟩
      have hB9 := hB8.trans (hb9.mono hB8.size)
      obtain ⟨_, ⟨e0', e1', e2'⟩, _, _, hWV⟩ := HC.out w9 hB9
      have hbs : b5 ≤ W8.heap.size := by have := hB8.size; have := HBR.out.size; omega
      have HR9 : Hid _ := owned_base hr9 hbs
      clear hadd hr9 hb9 e0 e1 e2 a0 a1 a2 a3 a4 y3 y4
      go_wp2_with fail
      go_roundw
      case rel => exact ⟨k + 1, kp + on, ρ, T, av9, cp9, by omega, by go_num, rfl, rfl, by rw [hLT.out], by unfold Hid; rw [HSN.out, HRS.out, HRHO.out, ← hs.out], by unfold Hid; rw [HSN.out]; exact HH'.out, HFT, by rw [hLT.out]; omega, by unfold Hid; rw [hLT.out]; exact HR9.out, hWV⟩
      case measure => simp [intOf]; omega
    case neg =>
      have bc0 : (code == 0) = false := by simpa using c0
      have hH' := HHON'.out
      unfold sumA keptA at hH'
      rw [if_neg (fun h => c0 h.2), if_neg (fun h => c0 h.2)] at hH'
      have HH' : Hid _ := hH'
      have HQ1 : Hid _ := k1
      have HQ2 : Hid _ := c0
      obtain ⟨_, _, _, _, hWV⟩ := HC.out W8 hB8
      have HR9 : Hid _ := HSR7.out W8 hB8
      clear k1 c0 hH' hrs
      go_wp2_with fail
      go_roundw
      case rel => exact ⟨k + 1, kp, ρ, sm, avs, cps, by omega, by go_num, rfl, rfl, by rw [hL.out], by unfold Hid; rw [HSN.out, HRS.out, HRHO.out, ← hs.out], by unfold Hid; rw [HSN.out]; exact HH'.out, HFI, by rw [hL.out]; omega, by unfold Hid; rw [hL.out]; exact HR9.out, hWV⟩
      case measure => simp [intOf]; omega
  case neg =>
  have bk1 : (kd == 1) = false := by simpa using k1
  have hH' := HHON'.out
  unfold sumA keptA at hH'
  rw [if_neg (fun h => k1 h.1), if_neg (fun h => k1 h.1)] at hH'
  have HH' : Hid _ := hH'
  have HQ1 : Hid _ := k1
  clear k1 hH'
  by_cases k2 : kd = 2
  case neg =>
    have bk2' : (kd != 2) = true := by simpa using k2
    have hrs : s'.read = s.read := HRDS.out k2
    have HRS : Hid _ := hrs
    have HQ2 : Hid _ := k2
    obtain ⟨_, _, _, _, hWV⟩ := HC.out W8 hB8
    have HR9 : Hid _ := HSR7.out W8 hB8
    clear k2 hrs
    go_wp2_with fail
    go_roundw
    case rel => exact ⟨k + 1, kp, ρ, sm, avs, cps, by omega, by go_num, rfl, rfl, by rw [hL.out], by unfold Hid; rw [HSN.out, HRS.out, HRHO.out, ← hs.out], by unfold Hid; rw [HSN.out]; exact HH'.out, HFI, by rw [hL.out]; omega, by unfold Hid; rw [hL.out]; exact HR9.out, hWV⟩
    case measure => simp [intOf]; omega
  case pos =>
  have bk2' : (kd != 2) = false := by simpa using k2
  obtain ⟨t1, t2, t3, t4⟩ := HTAKE.out k2
  rw [← hol.out] at t1 t2 t3
  have hol3 : (ol : Int) ≤ 8400 := by omega
  have bon : (on != (ol : Int)) = false := by simpa using t1
  have HT1 : Hid _ := t1
  have HT3 : Hid (∀ j, j < ol → od.getD j 0 = byteF (ρ + j)) := fun j hj => by rw [t3 j hj, HRHO.out, ← hs.out]
  have HT4 : Hid _ := t4
  have HT2 : Hid _ := t2
  have HQ2 : Hid _ := k2
  clear k2 t1 t2 t3 t4
  go_wp2_with fail
  go_quiet (fail)
  obtain ⟨W9, hW9⟩ : ∃ W9, W9 = W8.drewN nq := ⟨_, rfl⟩
  have hB9 : Below W7.heap.size W7 W9 := by rw [hW9]; exact drewsN hB8 _
  rw [← hW9]
  clear hW9 a0 a1 a2 a3 a4 e0 e1 e2 y3 y4
  go_wp2_with fail
  go_loopw [15, 21] (fun rv jv wx => ∃ j m : Nat, j ≤ ol ∧ jv = .int .i64 (j : Int) ∧ rv = .int .i64 (ρ + (j : Int)) ∧ wx = W9.drewN m) (fun _ jv _ => ol - (intOf jv).toNat)
  case atStart => exact ⟨0, 0, Nat.zero_le _, rfl, by simp, rfl⟩
  case round =>
  obtain ⟨j, m, hj, rfl, rfl, hwx⟩ := hrel
  have hB10 : Below W7.heap.size W7 wr := by rw [hwx]; exact drewsN hB9 _
  have HWX : Hid _ := hwx
  clear hwx
  obtain ⟨⟨a0, a1, a2, a3, a4⟩, _, ⟨y3, y4⟩, hin, hWV⟩ := HC.out wr hB10
  by_cases hjo : j < ol
  case pos =>
    have hji : (j : Int) < (ol : Int) := by omega
    have hjl : j < od.length := by rw [← hol.out]; exact hjo
    obtain ⟨db, dof, hda, hdc⟩ : ∃ b o, dva = some ⟨b, o, none⟩ ∧ ∀ i, i < od.length → wr.cell? ⟨b, o + i, none⟩ = some (.int .u8 (od.getD i 0)) := by
      rcases hin with h0 | h0
      · rw [h0] at hjl; simp at hjl
      · exact h0
    subst hda
    have d0 := hdc j hjl
    rw [HT3.out j hjo] at d0
    have hsb := fun q => streamByte_any (ρ + (j : Int)) (wr.drewN q) (by omega) (by omega)
    obtain ⟨y, hy⟩ : ∃ y, Hid (y = byteF (ρ + (j : Int))) := ⟨_, rfl⟩
    rw [← hy.out] at d0
    simp only [← hy.out] at hsb
    have hsb2 : ∀ q, Calls Try.prog 25 #[.int .i64 (ρ + (j : Int))] (wr.drewN q) fun e w' => e = .returned (.int .u8 y) ∧ ∃ m, w' = (wr.drewN q).drewN m := fun q => (hsb q).mono (by rintro e w' ⟨rfl, rfl⟩; exact ⟨rfl, 0, rfl⟩)
    have hwj : IntKind.i64.wrap (ρ + (j : Int) + 1) = ρ + (j : Int) + 1 := by rw [IntKind.wrap_i64]; omega
    clear hsb hdc hin y3 y4 a0 a1 a3 a4
    go_wp2_with fail
    go_quiet ((go_at_call 25; exact Calls.quiet_of (hsb2 _)))
    go_wp2_with fail
    go_roundw
    case rel => exact ⟨j + 1, m + nq, by omega, by go_num, by go_num, by rw [HWX.out]; exact World.drewN_drewN ..⟩
    case measure => simp [intOf]; omega
  case neg =>
    obtain rfl : j = ol := by omega
    have hjj : ¬ (j : Int) < (j : Int) := by omega
    have HRN : Hid (ρ + (j : Int) = (stateR Z X (ES.take (k + 1))).read - X) := by unfold Hid; rw [HSN.out, HT2.out, HRHO.out, ← hs.out]; omega
    have HR9 : Hid _ := HSR7.out wr hB10
    clear hin a1 a3 a4
    by_cases c15 : code = 15
    · have b15 : (code == 15) = true := by simpa using c15
      obtain ⟨q1, q2, q3⟩ := HT4.out c15
      have hj0 : j = 0 := by rw [hol.out, q3]; rfl
      rw [hs.out] at q1 q2
      have hfe := fin_end Z X ES k q1
      rw [← hsF.out, ← hfF.out, ← hqF.out] at hfe
      have hqe : X + (ρ + (j : Int)) = qF := by rw [hfe.2, q2, HRHO.out, hj0]; omega
      have bf : (fF != 1) = false := by simpa using hfe.1
      have hw1 : IntKind.u64.wrap (ρ + (j : Int)) = ρ + (j : Int) := by rw [IntKind.wrap_u64]; omega
      have hw2 : IntKind.u64.wrap (X + (ρ + (j : Int))) = qF := by rw [IntKind.wrap_u64, ← hqe]; omega
      have HQ9 : Hid _ := c15
      have HJ0 : Hid _ := hj0
      clear c15 q1 q2 q3 hfe hqe hj0
      go_wp2_with fail
      go_roundw
      case rel => exact ⟨k + 1, kp, ρ + (j : Int), sm, avs, cps, by omega, by go_num, rfl, rfl, by rw [hL.out], HRN, by unfold Hid; rw [HSN.out]; exact HH'.out, HFI, by rw [hL.out]; omega, by unfold Hid; rw [hL.out]; exact HR9.out, hWV⟩
      case measure => simp [intOf]; omega
    · have b15 : (code == 15) = false := by simpa using c15
      have HQ9 : Hid _ := c15
      clear c15
      go_wp2_with fail
      go_roundw
      case rel => exact ⟨k + 1, kp, ρ + (j : Int), sm, avs, cps, by omega, by go_num, rfl, rfl, by rw [hL.out], HRN, by unfold Hid; rw [HSN.out]; exact HH'.out, HFI, by rw [hL.out]; omega, by unfold Hid; rw [hL.out]; exact HR9.out, hWV⟩
      case measure => simp [intOf]; omega
end Go.Proofs.Ytpeecjoadgefjaa
