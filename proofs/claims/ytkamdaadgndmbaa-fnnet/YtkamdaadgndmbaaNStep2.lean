import Derived.Test.YtkamdaadgndmbaaNStep
namespace Go.Proofs.Ytkamdaadgndmbaa
open Go.ChangeShapes Go.WideShapes Go.ChangeAt Go.RowKit
set_option linter.unusedVariables false

theorem sendN_dat (s : NS) (e : NEv) : (sendN s e).1.dat = [] := by
  unfold sendN
  split
  · rfl
  split
  · rfl
  split <;> rfl
set_option maxRecDepth 100000 in
set_option maxHeartbeats 800000 in
theorem step_net (NB X base n cap : Nat) (s : NS) (L : List Lk) (w : World) (h : NetAt w X base s L) (hnb : w.heap[NB]? = some (.cells #[.slice (some ⟨X, 0, none⟩) n cap] 62 (0, 0))) (hn : L.length = n) (hn8 : n ≤ 8) (hinv : InvN s) (hb : base ≤ w.heap.size) (kd pa di ix : Int) (dat : List Int) (hok : EvOk ⟨kd, pa, di, ix, dat⟩) (da : Option Addr) (dl dc : Nat) (hdl : dat.length = dl) (hdat : Ints .u8 w da dat) (hnone : da = none → dc = 0) (S : NOut × NS) (hS : S = stepN n s ⟨kd, pa, di, ix, dat⟩) :
    Calls Try.prog 42 #[.pointer (some ⟨NB, 0, none⟩), .agg #[.int .i64 kd, .int .i64 pa, .int .i64 di, .int .i64 ix, .slice da dl dc]] w fun r w' => ∃ L' va vc, r = .returned (.agg #[.int .i64 S.1.code, .slice va S.1.dat.length vc]) ∧ L'.length = L.length ∧ NetAt w' X base S.2 L' ∧ SubD w.heap.size L L' ∧ Keeps w w' X base ∧ OutD w' base L L' S.1.dat (.slice va S.1.dat.length vc) := by
  have hXl := (Array.getElem?_eq_some_iff.1 h.blk).1
  have hNl := (Array.getElem?_eq_some_iff.1 hnb).1
  obtain ⟨W, hW⟩ : ∃ W, W = (w.alloc (.cells #[.int .i64 kd, .int .i64 pa, .int .i64 di, .int .i64 ix, .slice da dl dc] 35)).alloc (.cells #[.int .i64 0, .slice none 0 0] 37) := ⟨_, rfl⟩
  have hb0 : Below w.heap.size w W := by rw [hW]; exact ((Below.refl _ _).alloc (Nat.le_refl _) _).alloc (by simp) _
  obtain ⟨E, hEe⟩ : ∃ E, E = w.heap.size := ⟨_, rfl⟩
  obtain ⟨R, hRe⟩ : ∃ R, R = w.heap.size + 1 := ⟨_, rfl⟩
  have hE : W.heap[E]? = some (.cells #[.int .i64 kd, .int .i64 pa, .int .i64 di, .int .i64 ix, .slice da dl dc] 35 (0, 0)) := by rw [hW, hEe]; exact (Below.heap_alloc _ _ _ (by simp)).trans (heap_alloc_new _ _)
  have hR : W.heap[R]? = some (.cells #[.int .i64 0, .slice none 0 0] 37 (0, 0)) := by rw [hW, hRe]; exact box_new _ _ _ (by simp)
  have hNW := h.moved hb0
  have hnbW := (hb0.block NB hNl).trans hnb
  have hRX : R ≠ X := by omega
  have n0 : W.cell? ⟨NB, 0, none⟩ = some (.slice (some ⟨X, 0, none⟩) n cap) := Go.Joins.cell_of_block hnbW 0
  obtain ⟨⟨e0, e1, e2, e3, e4⟩, _⟩ := cells5r hE
  obtain ⟨⟨r0, r1⟩, rf⟩ := cells2r hR
  have rf0 := rf 0
  have rf1 := rf 1
  have HV : Hid (∀ V, Below W.heap.size W V → (V.cell? ⟨E, 0, none⟩ = some (.int .i64 kd) ∧ V.cell? ⟨E, 1, none⟩ = some (.int .i64 pa) ∧ V.cell? ⟨E, 2, none⟩ = some (.int .i64 di) ∧ V.cell? ⟨E, 3, none⟩ = some (.int .i64 ix) ∧ V.cell? ⟨E, 4, none⟩ = some (.slice da dl dc)) ∧ V.cell? ⟨NB, 0, none⟩ = some (.slice (some ⟨X, 0, none⟩) n cap) ∧ NetAt V X base s L ∧ V.heap[R]? = some (.cells #[.int .i64 0, .slice none 0 0] 37 (0, 0)) ∧ Keeps w V X base ∧ Below w.heap.size w V) := by
    intro V hV
    have hE' := (hV.block E (Array.getElem?_eq_some_iff.1 hE).1).trans hE
    exact ⟨(cells5r hE').1, Go.Joins.cell_of_block ((hV.block NB (Array.getElem?_eq_some_iff.1 hnbW).1).trans hnbW) 0, hNW.moved hV, (hV.block R (Array.getElem?_eq_some_iff.1 hR).1).trans hR, Keeps.after (hb0.trans (hV.mono hb0.size)) (Keeps.refl _ _ _), hb0.trans (hV.mono hb0.size)⟩
  have HK0 : Hid (Keeps w W X base) := Keeps.after hb0 (Keeps.refl _ _ _)
  have HB0 : Hid _ := hb0
  have HR : Hid _ := hR
  have HS : Hid _ := hS
  have HNL : Hid _ := hn
  have hRw : w.heap.size ≤ R := by omega
  have HRW : Hid _ := hRw
  clear rf hS hn
  by_cases h1 : kd < 1 ∨ 6 < kd
  · have hS1 : S = (⟨1, []⟩, s) := by rw [HS.out, stepN, if_pos h1]
    subst hS1
    have hwi := within_no kd 1 6 W (by omega)
    go_enter Try.func42, Try.ntmps42
    go_upto_region 1 with fail
    rw [← hW, ← hRe, ← hEe]
    clear hW hEe hRe
    go_wp2_with fail
    refine hwi.mono ?_
    rintro r w2 ⟨rfl, hw⟩
    subst hw
    obtain ⟨⟨z0, z1⟩, _⟩ := cells2r (set2r HR.out (.int .i64 1) (.slice none 0 0))
    go_wp2_with fail
    refine bodyPost_ret (v := .agg #[.int .i64 1, .slice none 0 0]) (by simp [results, Try.results42, go_sem, z0, z1]) rfl ⟨L, none, 0, rfl, rfl, hNW.fill HR.out _ _, SubD.refl _ _, HK0.out.fill HRW.out _ _, (OutD.nil w2 base L L).fill HR.out _ _⟩
  · have hwi := within_yes kd 1 6 W (by omega) (by omega)
    have hwm : IntKind.i64.wrap ((n : Int) - 1) = (n : Int) - 1 := by rw [IntKind.wrap_i64]; omega
    by_cases h2 : pa < 0 ∨ (n : Int) ≤ pa
    · have hS1 : S = (⟨6, []⟩, s) := by rw [HS.out, stepN, if_neg h1, if_pos h2]
      subst hS1
      have hwj : ∀ q, Calls Try.prog 39 #[.int .i64 pa, .int .i64 0, .int .i64 ((n : Int) - 1)] (W.drewN q) fun e w' => e = .returned (.bool false) ∧ ∃ m, w' = (W.drewN q).drewN m := fun q => (within_no pa 0 ((n : Int) - 1) (W.drewN q) (by omega)).mono (by rintro e w' ⟨rfl, rfl⟩; exact ⟨rfl, 0, rfl⟩)
      go_enter Try.func42, Try.ntmps42
      go_upto_region 1 with fail
      rw [← hW, ← hRe, ← hEe]
      clear hW hEe hRe
      go_wp2_with fail
      refine hwi.mono ?_
      rintro r w2 ⟨rfl, hw⟩
      subst hw
      go_wp2_with fail
      go_quiet ((go_at_call 39; exact Calls.quiet_of (hwj _)))
      obtain ⟨W2, hW2⟩ : ∃ W2, W2 = w2.drewN nq := ⟨_, rfl⟩
      have hB2 : Below w2.heap.size w2 W2 := by rw [hW2]; exact drewsN (Below.refl _ _) _
      rw [← hW2]
      clear hW2 e0 e1 e2 e3 e4 r0 r1 rf0 rf1 n0
      obtain ⟨_, _, hN2, hR2, hK2, _⟩ := HV.out W2 hB2
      obtain ⟨⟨r0, r1⟩, rf⟩ := cells2r hR2
      have rf0 := rf 0
      have rf1 := rf 1
      obtain ⟨⟨z0, z1⟩, _⟩ := cells2r (set2r hR2 (.int .i64 6) (.slice none 0 0))
      clear rf
      go_wp2_with fail
      refine bodyPost_ret (v := .agg #[.int .i64 6, .slice none 0 0]) (by simp [results, Try.results42, go_sem, z0, z1]) rfl ⟨L, none, 0, rfl, rfl, hN2.fill hR2 _ _, SubD.refl _ _, hK2.fill HRW.out _ _, (OutD.nil W2 base L L).fill hR2 _ _⟩
    · have hwj : ∀ q, Calls Try.prog 39 #[.int .i64 pa, .int .i64 0, .int .i64 ((n : Int) - 1)] (W.drewN q) fun e w' => e = .returned (.bool true) ∧ ∃ m, w' = (W.drewN q).drewN m := fun q => (within_yes pa 0 ((n : Int) - 1) (W.drewN q) (by omega) (by omega)).mono (by rintro e w' ⟨rfl, rfl⟩; exact ⟨rfl, 0, rfl⟩)
      obtain ⟨i, hpi⟩ : ∃ i : Nat, pa = (i : Int) := ⟨pa.toNat, by omega⟩
      subst hpi
      have hin : i < n := by omega
      have hini : (i : Int) < (n : Int) := by omega
      have hiL : i < L.length := by have := HNL.out; omega
      go_enter Try.func42, Try.ntmps42
      go_upto_region 1 with fail
      rw [← hW, ← hRe, ← hEe]
      clear hW hEe hRe
      go_wp2_with fail
      refine hwi.mono ?_
      rintro r w2 ⟨rfl, hw⟩
      subst hw
      go_wp2_with fail
      go_quiet ((go_at_call 39; exact Calls.quiet_of (hwj _)))
      obtain ⟨W2, hW2⟩ : ∃ W2, W2 = w2.drewN nq := ⟨_, rfl⟩
      have hB2 : Below w2.heap.size w2 W2 := by rw [hW2]; exact drewsN (Below.refl _ _) _
      rw [← hW2]
      clear hW2 e0 e1 e2 e3 e4 r0 r1 rf0 rf1 n0 hwj hwi
      obtain ⟨⟨e0, e1, e2, e3, e4⟩, n0, _, _, _, _⟩ := HV.out W2 hB2
      go_wp2_with fail
      go_quiet (fail)
      obtain ⟨W3, hW3⟩ : ∃ W3, W3 = W2.drewN nq := ⟨_, rfl⟩
      have hB3 : Below w2.heap.size w2 W3 := by rw [hW3]; exact drewsN hB2 _
      rw [← hW3]
      clear hW3 e0 e1 e2 e3 e4 n0
      obtain ⟨⟨e0, e1, e2, e3, e4⟩, n0, hN3, hR3, hK3, hb3⟩ := HV.out W3 hB3
      obtain ⟨⟨r0, r1⟩, rf⟩ := cells2r hR3
      have rf0 := rf 0
      have rf1 := rf 1
      clear rf
      have hX3 := hN3.blk
      obtain ⟨f0, f1, f2⟩ := flatL_at hiL
      have x0 : W3.cell? ⟨X, i * 3, none⟩ = some (.int .i64 (L[i]).cut) := by rw [Go.Joins.cell_of_block hX3, List.getElem?_toArray, f0]
      have x1 : W3.cell? ⟨X, i * 3 + 1, none⟩ = some (L[i]).b0.1 := by rw [Go.Joins.cell_of_block hX3, List.getElem?_toArray, f1]
      have x2 : W3.cell? ⟨X, i * 3 + 2, none⟩ = some (L[i]).b1.1 := by rw [Go.Joins.cell_of_block hX3, List.getElem?_toArray, f2]
      have xf0 := Go.Joins.unfrozen_of_block hX3 (i * 3)
      have xf1 := Go.Joins.unfrozen_of_block hX3 (i * 3 + 1)
      have xf2 := Go.Joins.unfrozen_of_block hX3 (i * 3 + 2)
      have hXR : X ≠ R := fun e => hRX e.symm
      by_cases k5 : kd = 5
      · have hS1 : S = (⟨0, []⟩, s.cutOff i) := by rw [HS.out, stepN, if_neg h1, if_neg h2, if_pos k5]
        subst hS1
        have b5 : (kd == 5) = true := by simpa using k5
        have hC := hN3.cutOff hiL
        have hR4 : (((W3.setCell ⟨X, i * 3, none⟩ (.int .i64 1)).setCell ⟨X, i * 3 + 1, none⟩ (.slice none 0 0)).setCell ⟨X, i * 3 + 2, none⟩ (.slice none 0 0)).heap[R]? = some (.cells #[.int .i64 0, .slice none 0 0] 37 (0, 0)) := by rw [heap_setCell_other _ _ _ _ hRX, heap_setCell_other _ _ _ _ hRX, heap_setCell_other _ _ _ _ hRX]; exact hR3
        have HQ : Hid _ := k5
        have HC : Hid _ := hC
        have HX : Hid _ := hX3
        clear k5 hC hX3 f0 f1 f2 h1 h2
        obtain ⟨⟨z0, z1⟩, _⟩ := cells2r (set2r hR4 (.int .i64 0) (.slice none 0 0))
        go_wp2_with fail
        refine bodyPost_ret (v := .agg #[.int .i64 0, .slice none 0 0]) (by simp [results, Try.results42, go_sem, z0, z1]) rfl ⟨L.set i cutLk, none, 0, rfl, by rw [List.length_set], HC.out.1.fill hR4 _ _, HC.out.2 _, (((hK3.set _ _).set _ _).set _ _).fill HRW.out _ _, (OutD.nil _ base L (L.set i cutLk)).fill hR4 _ _⟩
      · have b5 : (kd == 5) = false := by simpa using k5
        by_cases k6 : kd = 6
        · have hS1 : S = (⟨0, []⟩, s.up i) := by rw [HS.out, stepN, if_neg h1, if_neg h2, if_neg k5, if_pos k6]
          subst hS1
          have b6 : (kd == 6) = true := by simpa using k6
          have hC := hN3.up hiL
          have hR4 : (W3.setCell ⟨X, i * 3, none⟩ (.int .i64 0)).heap[R]? = some (.cells #[.int .i64 0, .slice none 0 0] 37 (0, 0)) := by rw [heap_setCell_other _ _ _ _ hRX]; exact hR3
          have HQ : Hid _ := k6
          have HC : Hid _ := hC
          clear k5 k6 hC hX3 f0 f1 f2 h1 h2
          obtain ⟨⟨z0, z1⟩, _⟩ := cells2r (set2r hR4 (.int .i64 0) (.slice none 0 0))
          go_wp2_with fail
          refine bodyPost_ret (v := .agg #[.int .i64 0, .slice none 0 0]) (by simp [results, Try.results42, go_sem, z0, z1]) rfl ⟨_, none, 0, rfl, by rw [List.length_set], HC.out.fill hR4 _ _, up_sub _ hiL, (hK3.set _ _).fill HRW.out _ _, (OutD.nil _ base L _).fill hR4 _ _⟩
        · have b6 : (kd == 6) = false := by simpa using k6
          clear x0 x1 x2 xf0 xf1 xf2
          by_cases hdd : di ≠ 0 ∧ di ≠ 1
          · have hS1 : S = (⟨1, []⟩, s) := by rw [HS.out, stepN, if_neg h1, if_neg h2, if_neg k5, if_neg k6, if_pos hdd]
            subst hS1
            have d0 : (di != 0) = true := by simpa using hdd.1
            have d1 : (di != 1) = true := by simpa using hdd.2
            clear k5 k6 h1 h2 hdd
            obtain ⟨⟨z0, z1⟩, _⟩ := cells2r (set2r hR3 (.int .i64 1) (.slice none 0 0))
            go_wp2_with fail
            refine bodyPost_ret (v := .agg #[.int .i64 1, .slice none 0 0]) (by simp [results, Try.results42, go_sem, z0, z1]) rfl ⟨L, none, 0, rfl, rfl, hN3.fill hR3 _ _, SubD.refl _ _, hK3.fill HRW.out _ _, (OutD.nil W3 base L L).fill hR3 _ _⟩
          · obtain ⟨d, hdi, hd2⟩ : ∃ d : Nat, di = (d : Int) ∧ d < 2 := ⟨di.toNat, by omega, by omega⟩
            subst hdi
            have hpk : (((d : Int) != 0) && ((d : Int) != 1)) = false := by
              rcases (show d = 0 ∨ d = 1 by omega) with rfl | rfl <;> rfl
            have hS0 : S = if kd = 1 then sendN s ⟨kd, i, d, ix, dat⟩ else handleN s ⟨kd, i, d, ix, dat⟩ := by rw [HS.out, stepN, if_neg h1, if_neg h2, if_neg k5, if_neg k6, if_neg hdd]
            clear hpk
            by_cases hz : d = 0
            · have z0' : ((d : Int) != 0) = false := by rw [hz]; rfl
              have HZ : Hid _ := hz
              clear hz
              by_cases k1 : kd = 1
              · rw [if_pos k1] at hS0
                have b1 : (kd == 1) = true := by simpa using k1
                have hcall := send_any X base i d s L W3 hN3 hinv hiL hd2 (Nat.le_trans hb hb3.size) ⟨kd, i, d, ix, dat⟩ rfl rfl da dl dc hdl (hdat.moved hb3) hnone (by rw [← hdl]; exact hok.dl)
                have hnd := sendN_dat s ⟨kd, i, d, ix, dat⟩
                rw [← hS0] at hcall hnd
                obtain ⟨⟨code, ys⟩, s'⟩ := S
                simp only at hcall hnd
                subst hnd
                have HQ : Hid _ := k1
                clear k1 k5 k6 h1 h2 hdd hS0 HS
                go_wp2_with fail
                refine hcall.mono ?_
                rintro r w4 ⟨L', rfl, hL, hN4, hS4, hK4⟩
                have hR4 := hK4.at hR3 hRX
                have HS4 : Hid _ := hS4.le hb3.size
                have hK4 := Keeps.after hb3 hK4
                clear r0 r1 rf0 rf1
                obtain ⟨⟨r0, r1⟩, rf⟩ := cells2r hR4
                have rf0 := rf 0
                have rf1 := rf 1
                obtain ⟨⟨z0, z1⟩, _⟩ := cells2r (set2r hR4 (.int .i64 code) (.slice none 0 0))
                clear rf hcall
                go_wp2_with fail
                refine bodyPost_ret (v := .agg #[.int .i64 code, .slice none 0 0]) (by simp [results, Try.results42, go_sem, z0, z1]) rfl ⟨L', none, 0, rfl, hL, hN4.fill hR4 _ _, HS4.out, hK4.fill HRW.out _ _, (OutD.nil w4 base L L').fill hR4 _ _⟩
              · rw [if_neg k1] at hS0
                have b1 : (kd == 1) = false := by simpa using k1
                have hcall := handle_any X base i d s L W3 hN3 hinv hiL hd2 (Nat.le_trans hb hb3.size) ⟨kd, i, d, ix, dat⟩ rfl rfl (by simp only; omega) kd ix rfl rfl
                rw [← hS0] at hcall
                obtain ⟨⟨code, ys⟩, s'⟩ := S
                simp only at hcall
                clear k1 k5 k6 h1 h2 hdd hS0 HS
                go_wp2_with fail
                refine hcall.mono ?_
                rintro r w4 ⟨L', va, vc, rfl, hL, hN4, hS4, hK4, hO4⟩
                have hR4 := hK4.at hR3 hRX
                have HS4 : Hid _ := hS4.le hb3.size
                have hK4 := Keeps.after hb3 hK4
                clear r0 r1 rf0 rf1
                obtain ⟨⟨r0, r1⟩, rf⟩ := cells2r hR4
                have rf0 := rf 0
                have rf1 := rf 1
                obtain ⟨⟨z0, z1⟩, _⟩ := cells2r (set2r hR4 (.int .i64 code) (.slice va ys.length vc))
                have HO4 : Hid _ := hO4
                clear rf hcall hO4
                go_wp2_with fail
                refine bodyPost_ret (v := .agg #[.int .i64 code, .slice va ys.length vc]) (by simp [results, Try.results42, go_sem, z0, z1]) rfl ⟨L', va, vc, rfl, hL, hN4.fill hR4 _ _, HS4.out, hK4.fill HRW.out _ _, HO4.out.fill hR4 _ _⟩
            · have z0' : ((d : Int) != 0) = true := by simpa using hz
              have z1' : ((d : Int) != 1) = false := by
                have : d = 1 := by omega
                rw [this]; rfl
              clear hz
              by_cases k1 : kd = 1
              · rw [if_pos k1] at hS0
                have b1 : (kd == 1) = true := by simpa using k1
                have hcall := send_any X base i d s L W3 hN3 hinv hiL hd2 (Nat.le_trans hb hb3.size) ⟨kd, i, d, ix, dat⟩ rfl rfl da dl dc hdl (hdat.moved hb3) hnone (by rw [← hdl]; exact hok.dl)
                have hnd := sendN_dat s ⟨kd, i, d, ix, dat⟩
                rw [← hS0] at hcall hnd
                obtain ⟨⟨code, ys⟩, s'⟩ := S
                simp only at hcall hnd
                subst hnd
                have HQ : Hid _ := k1
                clear k1 k5 k6 h1 h2 hdd hS0 HS
                go_wp2_with fail
                refine hcall.mono ?_
                rintro r w4 ⟨L', rfl, hL, hN4, hS4, hK4⟩
                have hR4 := hK4.at hR3 hRX
                have HS4 : Hid _ := hS4.le hb3.size
                have hK4 := Keeps.after hb3 hK4
                clear r0 r1 rf0 rf1
                obtain ⟨⟨r0, r1⟩, rf⟩ := cells2r hR4
                have rf0 := rf 0
                have rf1 := rf 1
                obtain ⟨⟨z0, z1⟩, _⟩ := cells2r (set2r hR4 (.int .i64 code) (.slice none 0 0))
                clear rf hcall
                go_wp2_with fail
                refine bodyPost_ret (v := .agg #[.int .i64 code, .slice none 0 0]) (by simp [results, Try.results42, go_sem, z0, z1]) rfl ⟨L', none, 0, rfl, hL, hN4.fill hR4 _ _, HS4.out, hK4.fill HRW.out _ _, (OutD.nil w4 base L L').fill hR4 _ _⟩
              · rw [if_neg k1] at hS0
                have b1 : (kd == 1) = false := by simpa using k1
                have hcall := handle_any X base i d s L W3 hN3 hinv hiL hd2 (Nat.le_trans hb hb3.size) ⟨kd, i, d, ix, dat⟩ rfl rfl (by simp only; omega) kd ix rfl rfl
                rw [← hS0] at hcall
                obtain ⟨⟨code, ys⟩, s'⟩ := S
                simp only at hcall
                clear k1 k5 k6 h1 h2 hdd hS0 HS
                go_wp2_with fail
                refine hcall.mono ?_
                rintro r w4 ⟨L', va, vc, rfl, hL, hN4, hS4, hK4, hO4⟩
                have hR4 := hK4.at hR3 hRX
                have HS4 : Hid _ := hS4.le hb3.size
                have hK4 := Keeps.after hb3 hK4
                clear r0 r1 rf0 rf1
                obtain ⟨⟨r0, r1⟩, rf⟩ := cells2r hR4
                have rf0 := rf 0
                have rf1 := rf 1
                obtain ⟨⟨z0, z1⟩, _⟩ := cells2r (set2r hR4 (.int .i64 code) (.slice va ys.length vc))
                have HO4 : Hid _ := hO4
                clear rf hcall hO4
                go_wp2_with fail
                refine bodyPost_ret (v := .agg #[.int .i64 code, .slice va ys.length vc]) (by simp [results, Try.results42, go_sem, z0, z1]) rfl ⟨L', va, vc, rfl, hL, hN4.fill hR4 _ _, HS4.out, hK4.fill HRW.out _ _, HO4.out.fill hR4 _ _⟩
end Go.Proofs.Ytkamdaadgndmbaa
