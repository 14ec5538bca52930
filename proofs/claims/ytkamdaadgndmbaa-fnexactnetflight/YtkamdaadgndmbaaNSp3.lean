import Derived.Test.YtkamdaadgndmbaaNSp2
namespace Go.Proofs.Ytkamdaadgndmbaa
open Go.ChangeShapes Go.WideShapes Go.ChangeAt Go.RowKit
set_option linter.unusedVariables false
set_option linter.unusedSimpArgs false

/-- What comes of an event. -/
def StS (w : World) (B base n : Nat) (cv : Value) (l : Nat) (S : NOut × NS) (e : Ending) (w' : World) : Prop :=
  ∃ av' I' C' va vc, e = .returned (.agg #[.int .i64 S.1.code, .slice va S.1.dat.length vc]) ∧ SpN w' B base n S.2 cv av' C' I' ∧ I'.length ≤ l + 1 ∧ KeepS w w' B base ∧ w'.ownsRow w.heap.size 5 1 (.slice va S.1.dat.length vc) S.1.dat.length (S.1.dat.map (.int .u8))
def cutTo (I : SIs) (p : Int) (k : Nat) : SIs := (I.take k).map (fun q => (cutI p q.1, q.2)) ++ I.drop k
theorem cutTo_length (I : SIs) (p : Int) (k : Nat) : (cutTo I p k).length = I.length := by simp [cutTo]; omega
theorem cutTo_all (I : SIs) (p : Int) : ((cutTo I p I.length).map (·.1)) = (I.map (·.1)).map (cutI p) := by simp [cutTo]
theorem cutTo_at (I : SIs) (p : Int) (k : Nat) (h : k < I.length) : (cutTo I p k)[k]? = some I[k] := by
  unfold cutTo
  rw [List.getElem?_append_right (by simp; omega)]
  have e : k - ((I.take k).map fun q => (cutI p q.1, q.2)).length = 0 := by simp; omega
  rw [e, List.getElem?_drop]
  simp [h]
theorem cutTo_succ (I : SIs) (p : Int) (k : Nat) (h : k < I.length) : cutTo I p (k + 1) = (cutTo I p k).set k (cutI p (I[k]).1, (I[k]).2) := by
  unfold cutTo
  have e : ((I.take k).map fun q => (cutI p q.1, q.2)).length = k := by simp; omega
  rw [List.set_append_right _ _ (by omega), e, Nat.sub_self, List.take_succ_eq_append_getElem h, List.map_append, List.append_assoc]
  congr 1
  rw [List.drop_eq_getElem_cons h]
  rfl
set_option maxRecDepth 100000 in
set_option maxHeartbeats 4000000 in
theorem l3Step_any (B base n : Nat) (s : NS) (cv av : Value) (C : List Int) (I : SIs) (w : World) (h : SpN w B base n s cv av C I) (hn1 : 1 ≤ n) (hn8 : n ≤ 8) (hI : I.length ≤ 4000) (hinv : InvN s) (hb : base ≤ w.heap.size) (kd pa di ix : Int) (dat : List Int) (hok : EvOk ⟨kd, pa, di, ix, dat⟩) (da : Option Addr) (dl dc : Nat) (hdl : dat.length = dl) (hdat : Ints .u8 w da dat) (S : NOut × NS) (hS : S = stepN n s ⟨kd, pa, di, ix, dat⟩) :
    Calls Try.prog 46 #[.pointer (some ⟨B, 0, none⟩), .agg #[.int .i64 kd, .int .i64 pa, .int .i64 di, .int .i64 ix, .slice da dl dc]] w fun r w' => StS w B base n cv I.length S r w' := by
  have hBl := h.lt
  obtain ⟨W, hW⟩ : ∃ W, W = (w.alloc (.cells #[.int .i64 kd, .int .i64 pa, .int .i64 di, .int .i64 ix, .slice da dl dc] 35)).alloc (.cells #[.int .i64 0, .slice none 0 0] 37) := ⟨_, rfl⟩
  have hb0 : Below w.heap.size w W := by rw [hW]; exact ((Below.refl _ _).alloc (Nat.le_refl _) _).alloc (by simp) _
  obtain ⟨E, hEe⟩ : ∃ E, E = w.heap.size := ⟨_, rfl⟩
  obtain ⟨R, hRe⟩ : ∃ R, R = w.heap.size + 1 := ⟨_, rfl⟩
  have hE : W.heap[E]? = some (.cells #[.int .i64 kd, .int .i64 pa, .int .i64 di, .int .i64 ix, .slice da dl dc] 35 (0, 0)) := by rw [hW, hEe]; exact (Below.heap_alloc _ _ _ (by simp)).trans (heap_alloc_new _ _)
  have hR : W.heap[R]? = some (.cells #[.int .i64 0, .slice none 0 0] 37 (0, 0)) := by rw [hW, hRe]; exact box_new _ _ _ (by simp)
  have hNW := h.moved hb0
  have hRB : R ≠ B := by omega
  have hEB : E ≠ B := by omega
  have hER : E ≠ R := by omega
  have hRlW : R < W.heap.size := (Array.getElem?_eq_some_iff.1 hR).1
  obtain ⟨⟨e0, e1, e2, e3, e4⟩, _⟩ := cells5r hE
  obtain ⟨⟨r0, r1⟩, rf⟩ := cells2r hR
  have rf0 := rf 0
  have rf1 := rf 1
  have HV : Hid (∀ V, Below W.heap.size W V → (V.cell? ⟨E, 0, none⟩ = some (.int .i64 kd) ∧ V.cell? ⟨E, 1, none⟩ = some (.int .i64 pa) ∧ V.cell? ⟨E, 2, none⟩ = some (.int .i64 di) ∧ V.cell? ⟨E, 3, none⟩ = some (.int .i64 ix) ∧ V.cell? ⟨E, 4, none⟩ = some (.slice da dl dc)) ∧ ((V.cell? ⟨B, 0, none⟩ = some (.int .i64 (n : Int)) ∧ V.cell? ⟨B, 1, none⟩ = some cv ∧ V.cell? ⟨B, 2, none⟩ = some av) ∧ V.frozen? ⟨B, 0, none⟩ = false ∧ V.frozen? ⟨B, 1, none⟩ = false ∧ V.frozen? ⟨B, 2, none⟩ = false) ∧ SpN V B base n s cv av C I ∧ V.heap[R]? = some (.cells #[.int .i64 0, .slice none 0 0] 37 (0, 0)) ∧ KeepS w V B base ∧ Below w.heap.size w V) := by
    intro V hV
    have hE' := (hV.block E (Array.getElem?_eq_some_iff.1 hE).1).trans hE
    exact ⟨(cells5r hE').1, (hNW.moved hV).cells, hNW.moved hV, (hV.block R (Array.getElem?_eq_some_iff.1 hR).1).trans hR, KeepS.ofBelow (hb0.trans (hV.mono hb0.size)), hb0.trans (hV.mono hb0.size)⟩
  obtain ⟨⟨c0, c1, c2⟩, cf0, cf1, cf2⟩ := hNW.cells
  have HS : Hid _ := hS
  have hRw : w.heap.size ≤ R := by omega
  have HRW : Hid _ := hRw
  have HFIN : Hid (∀ (V : World) (c : Int), Below w.heap.size w V → V.heap[R]? = some (.cells #[.int .i64 0, .slice none 0 0] 37 (0, 0)) → S = (⟨c, []⟩, s) → StS w B base n cv I.length S (.returned (.agg #[.int .i64 c, .slice none 0 0])) ((V.setCell ⟨R, 0, none⟩ (.int .i64 c)).setCell ⟨R, 1, none⟩ (.slice none 0 0))) := by
    intro V c hV hRV hSe
    subst hSe
    exact ⟨av, I, C, none, 0, rfl, (h.moved hV).fill hRV _ _, by omega, (KeepS.ofBelow hV).fill hRw _ _, World.ownsRow_nil _ _ _ _⟩
  have HB0 : Hid _ := hb0
  have HEB : Hid (∀ V, Below W.heap.size W V → V.heap[E]? = some (.cells #[.int .i64 kd, .int .i64 pa, .int .i64 di, .int .i64 ix, .slice da dl dc] 35 (0, 0))) := fun V hV => (hV.block E (Array.getElem?_eq_some_iff.1 hE).1).trans hE
  have HVK : Hid (∀ V, KeepS W V B base → (V.cell? ⟨E, 0, none⟩ = some (.int .i64 kd) ∧ V.cell? ⟨E, 1, none⟩ = some (.int .i64 pa) ∧ V.cell? ⟨E, 2, none⟩ = some (.int .i64 di) ∧ V.cell? ⟨E, 3, none⟩ = some (.int .i64 ix) ∧ V.cell? ⟨E, 4, none⟩ = some (.slice da dl dc)) ∧ V.heap[R]? = some (.cells #[.int .i64 0, .slice none 0 0] 37 (0, 0)) ∧ KeepS w V B base) := by
    intro V hV
    exact ⟨(cells5r (hV.at hE (by decide) (by decide) hEB)).1, hV.at hR (by decide) (by decide) hRB, (KeepS.ofBelow hb0).trans hV⟩
  have HBW : Hid (Below W.heap.size W W) := Below.refl _ _
  have HW : Hid (Ints .u8 W da dat) := hdat.moved hb0
  obtain ⟨N, hN⟩ : ∃ N, Hid (I.length = N) := ⟨_, rfl⟩
  have hN4 : N ≤ 4000 := by rw [← hN.out]; exact hI
  have HI : Hid _ := hI
  have HDL : Hid _ := hdl
  have hWw := hb0.size
  clear rf hS hR hE hRw hI hdl hb0
  go_enter Try.func46, Try.ntmps46
  go_upto_region 1 with fail
  rw [← hW, ← hRe, ← hEe]
  clear hW hEe hRe
  by_cases k1 : kd < 1
  · have d1 : decide (kd < 1) = true := by simpa using k1
    go_wp2_with fail
    refine (l3Code_any 1 W).mono ?_
    rintro r w9 ⟨rfl, hb9⟩
    obtain ⟨_, _, _, hR9, _, hB9⟩ := HV.out w9 (HBW.out.trans (hb9.mono HBW.out.size))
    clear r0 r1 rf0 rf1
    obtain ⟨⟨r0, r1⟩, rf⟩ := cells2r hR9
    have rf0 := rf 0
    have rf1 := rf 1
    obtain ⟨⟨z0, z1⟩, _⟩ := cells2r (set2r hR9 (.int .i64 1) (.slice none 0 0))
    clear rf
    go_wp2_with fail
    exact bodyPost_ret (v := .agg #[.int .i64 1, .slice none 0 0]) (by simp [results, Try.results46, go_sem, z0, z1]) rfl (HFIN.out w9 1 hB9 hR9 (by rw [HS.out, stepN, if_pos (.inl k1)]))
  have d1 : decide (kd < 1) = false := by simpa using k1
  by_cases k6 : 6 < kd
  · have d2 : decide (6 < kd) = true := by simpa using k6
    go_wp2_with fail
    refine (l3Code_any 1 W).mono ?_
    rintro r w9 ⟨rfl, hb9⟩
    obtain ⟨_, _, _, hR9, _, hB9⟩ := HV.out w9 (HBW.out.trans (hb9.mono HBW.out.size))
    clear r0 r1 rf0 rf1
    obtain ⟨⟨r0, r1⟩, rf⟩ := cells2r hR9
    have rf0 := rf 0
    have rf1 := rf 1
    obtain ⟨⟨z0, z1⟩, _⟩ := cells2r (set2r hR9 (.int .i64 1) (.slice none 0 0))
    clear rf
    go_wp2_with fail
    exact bodyPost_ret (v := .agg #[.int .i64 1, .slice none 0 0]) (by simp [results, Try.results46, go_sem, z0, z1]) rfl (HFIN.out w9 1 hB9 hR9 (by rw [HS.out, stepN, if_pos (.inr k6)]))
  have d2 : decide (6 < kd) = false := by simpa using k6
  have hk : ¬ (kd < 1 ∨ 6 < kd) := by omega
  have HK : Hid _ := hk
  clear k1 k6 hk
  go_upto_region 3 with fail
  by_cases p0 : pa < 0
  · have d3 : decide (pa < 0) = true := by simpa using p0
    go_quiet (fail)
    obtain ⟨V, hV⟩ : ∃ V, V = W.drewN nq := ⟨_, rfl⟩
    have hBV : Below W.heap.size W V := by rw [hV]; exact drewsN HBW.out _
    rw [← hV]
    clear hV e0 e1 e2 e3 e4 r0 r1 rf0 rf1 c0 c1 c2
    obtain ⟨⟨e0, e1, e2, e3, e4⟩, ⟨⟨c0, c1, c2⟩, cf0, cf1, cf2⟩, hNV, hRV, hKV, hbV⟩ := HV.out V hBV
    obtain ⟨⟨r0, r1⟩, rf⟩ := cells2r hRV
    have rf0 := rf 0
    have rf1 := rf 1
    clear rf
    go_wp2_with fail
    refine (l3Code_any 6 V).mono ?_
    rintro r w9 ⟨rfl, hb9⟩
    obtain ⟨_, _, _, hR9, _, hB9⟩ := HV.out w9 (hBV.trans (hb9.mono hBV.size))
    clear r0 r1 rf0 rf1
    obtain ⟨⟨r0, r1⟩, rf⟩ := cells2r hR9
    have rf0 := rf 0
    have rf1 := rf 1
    obtain ⟨⟨z0, z1⟩, _⟩ := cells2r (set2r hR9 (.int .i64 6) (.slice none 0 0))
    clear rf
    go_wp2_with fail
    exact bodyPost_ret (v := .agg #[.int .i64 6, .slice none 0 0]) (by simp [results, Try.results46, go_sem, z0, z1]) rfl (HFIN.out w9 6 hB9 hR9 (by rw [HS.out, stepN, if_neg HK.out, if_pos (.inl p0)]))
  have d3 : decide (pa < 0) = false := by simpa using p0
  by_cases pn : (n : Int) ≤ pa
  · have d4 : decide ((n : Int) ≤ pa) = true := by simpa using pn
    go_quiet (fail)
    obtain ⟨V, hV⟩ : ∃ V, V = W.drewN nq := ⟨_, rfl⟩
    have hBV : Below W.heap.size W V := by rw [hV]; exact drewsN HBW.out _
    rw [← hV]
    clear hV e0 e1 e2 e3 e4 r0 r1 rf0 rf1 c0 c1 c2
    obtain ⟨⟨e0, e1, e2, e3, e4⟩, ⟨⟨c0, c1, c2⟩, cf0, cf1, cf2⟩, hNV, hRV, hKV, hbV⟩ := HV.out V hBV
    obtain ⟨⟨r0, r1⟩, rf⟩ := cells2r hRV
    have rf0 := rf 0
    have rf1 := rf 1
    clear rf
    go_wp2_with fail
    refine (l3Code_any 6 V).mono ?_
    rintro r w9 ⟨rfl, hb9⟩
    obtain ⟨_, _, _, hR9, _, hB9⟩ := HV.out w9 (hBV.trans (hb9.mono hBV.size))
    clear r0 r1 rf0 rf1
    obtain ⟨⟨r0, r1⟩, rf⟩ := cells2r hR9
    have rf0 := rf 0
    have rf1 := rf 1
    obtain ⟨⟨z0, z1⟩, _⟩ := cells2r (set2r hR9 (.int .i64 6) (.slice none 0 0))
    clear rf
    go_wp2_with fail
    exact bodyPost_ret (v := .agg #[.int .i64 6, .slice none 0 0]) (by simp [results, Try.results46, go_sem, z0, z1]) rfl (HFIN.out w9 6 hB9 hR9 (by rw [HS.out, stepN, if_neg HK.out, if_pos (.inr pn)]))
  have d4 : decide ((n : Int) ≤ pa) = false := by simpa using pn
  obtain ⟨i, hpi⟩ : ∃ i : Nat, pa = (i : Int) := ⟨pa.toNat, by omega⟩
  subst hpi
  have hin : i < n := by omega
  have hini : (i : Int) < (n : Int) := by omega
  have HP : Hid (¬ ((i : Int) < 0 ∨ (n : Int) ≤ (i : Int))) := by unfold Hid; omega
  clear p0 pn
  go_quiet (fail)
  obtain ⟨V, hV⟩ : ∃ V, V = W.drewN nq := ⟨_, rfl⟩
  have hBV : Below W.heap.size W V := by rw [hV]; exact drewsN HBW.out _
  rw [← hV]
  clear hV e0 e1 e2 e3 e4 r0 r1 rf0 rf1 c0 c1 c2
  obtain ⟨⟨e0, e1, e2, e3, e4⟩, ⟨⟨c0, c1, c2⟩, cf0, cf1, cf2⟩, hNV, hRV, hKV, hbV⟩ := HV.out V hBV
  obtain ⟨⟨r0, r1⟩, rf⟩ := cells2r hRV
  have rf0 := rf 0
  have rf1 := rf 1
  clear rf
  clear d1 d2 d3 d4
  obtain ⟨ca, cc, hcv⟩ := own_shape h.cut
  subst hcv
  rcases h.cut.2 with ⟨e, _⟩ | ⟨gc, cc', cur, e, rest⟩
  · simp only [Value.slice.injEq] at e; omega
  simp only [Value.slice.injEq] at e
  obtain ⟨rfl, -, e9⟩ := e
  subst e9
  clear rest
  have hCi := (own_cell hNV.cut (j := i) (x := .int .i64 (s.cut i)) (by
    have hci : i < C.length := by rw [h.cl]; exact hin
    rw [List.getElem?_map, ← h.cs i hin, List.getD_eq_getElem?_getD, List.getElem?_eq_getElem hci]; rfl))
  obtain ⟨hci, hcf⟩ := hCi

  by_cases k5 : kd = 5
  · subst k5
    go_upto_region 6 with fail
    go_region
    obtain ⟨V1, hV1⟩ : ∃ V1, V1 = (V.setCell ⟨gc, i, none⟩ (.int .i64 1)).drew := ⟨_, rfl⟩
    have hN1 : SpN V1 B base n ⟨fun p => if p = (i : Int) then 1 else s.cut p, s.bag⟩ (.slice (some ⟨gc, 0, none⟩) n cc) av (C.set i 1) I := by rw [hV1]; exact (hNV.cutAt hin 1).1.drew
    have hK1 : KeepS W V1 B base := by
      have := (KeepS.ofBelow (B := B) (base := base) hBV).trans (hNV.cutAt hin 1).2
      rw [hV1]
      exact ⟨this.os, this.tape, this.output, this.size, this.block⟩
    rw [← hV1]
    clear hV1 hNV hKV hbV hci hcf e0 e1 e2 e3 e4 r0 r1 rf0 rf1 c0 c1 c2 cf0 cf1 cf2
    obtain ⟨aa, ac, hav⟩ := own_shape hN1.all
    rw [hN.out] at hav
    subst hav
    have hI0 : cutTo I i 0 = I := by simp [cutTo]
    have hD0 : SpN V1 B base n ⟨fun p => if p = (i : Int) then 1 else s.cut p, fun p d => bagS ((cutTo I i 0).map (·.1)) p d⟩ (.slice (some ⟨gc, 0, none⟩) n cc) (.slice aa N ac) (C.set i 1) (cutTo I i 0) := by rw [hI0]; exact hN1.as (fun _ _ => rfl) (fun p d => h.bs p d)
    clear hN1 hI0
    go_wp2_with fail
    go_loopw [5] (fun iv wr => ∃ k : Nat, k ≤ N ∧ iv = .int .i64 k ∧ KeepS W wr B base ∧ SpN wr B base n ⟨fun p => if p = (i : Int) then 1 else s.cut p, fun p d => bagS ((cutTo I i k).map (·.1)) p d⟩ (.slice (some ⟨gc, 0, none⟩) n cc) (.slice aa N ac) (C.set i 1) (cutTo I i k)) (fun iv _ => N - (intOf iv).toNat)
    case atStart => exact ⟨0, Nat.zero_le _, rfl, hK1, hD0⟩
    case round =>
      clear hD0 hK1
      obtain ⟨k, hk, rfl, hKr, hSr⟩ := hrel
      obtain ⟨⟨e0, e1, e2, e3, e4⟩, hRr, hKw⟩ := HVK.out wr hKr
      obtain ⟨⟨c0, c1, c2⟩, cf0, cf1, cf2⟩ := hSr.cells
      by_cases hlt : k < N
      · have hki : (k : Int) < (N : Int) := by omega
        have hkl : k < I.length := by rw [hN.out]; exact hlt
        have hcl := cutTo_length I i k
        have hkl2 : k < (cutTo I i k).length := by rw [hcl]; exact hkl
        have hat := cutTo_at I i k hkl
        have hsc := cutTo_succ I i k hkl
        have hall := hSr.all
        rw [hcl, hN.out] at hall
        rcases hall.2 with ⟨e, _⟩ | ⟨ga, cap', cur, e, rest⟩
        · simp only [Value.slice.injEq] at e; omega
        simp only [Value.slice.injEq] at e
        obtain ⟨rfl, _, _⟩ := e
        obtain ⟨q0, q1, q2, q3⟩ := flatI_at hkl2
        obtain ⟨⟨⟨pk, dk, datk, gone⟩, iv⟩, hik⟩ : ∃ q, I[k] = q := ⟨_, rfl⟩
        rw [hik] at hat hsc
        have hge : (cutTo I i k)[k] = (⟨pk, dk, datk, gone⟩, iv) := by rw [List.getElem?_eq_getElem hkl2] at hat; exact Option.some.inj hat
        rw [hge] at q0 q3
        simp only at q0 q3 hsc
        obtain ⟨a0, af0⟩ := own_cell hall q0
        obtain ⟨a3, af3⟩ := own_cell hall q3
        have HSC : Hid _ := hsc
        have HAT : Hid _ := hat
        have HCL : Hid _ := hcl
        clear hsc hat hcl q0 q1 q2 q3 hge hik hall rest hkl2
        by_cases hp : pk = (i : Int)
        · have bp : (pk == (i : Int)) = true := by simpa using hp
          have HP2 : Hid _ := hp
          clear hp
          go_wp2_with fail
          go_quiet (fail)
          obtain ⟨W5, hW5⟩ : ∃ W5, W5 = wr.drewN nq := ⟨_, rfl⟩
          have hS5 : SpN W5 B base n ⟨fun p => if p = (i : Int) then 1 else s.cut p, fun p d => bagS ((cutTo I i k).map (·.1)) p d⟩ (.slice (some ⟨gc, 0, none⟩) n cc) (.slice (some ⟨ga, 0, none⟩) N ac) (C.set i 1) (cutTo I i k) := by rw [hW5]; exact hSr.drewN _
          have hK5 : KeepS W W5 B base := by rw [hW5]; exact ⟨hKr.os, hKr.tape, hKr.output, hKr.size, hKr.block⟩
          have hG := SpN.gone hS5 (HCL.out.trans hN.out) HAT.out
          have x2 := hS5.cells.1.2.2
          have x3 : W5.cell? ⟨ga, k * 4 + 3, none⟩ = some (.bool gone) := by rw [hW5]; exact a3
          have xf3 : W5.frozen? ⟨ga, k * 4 + 3, none⟩ = false := by rw [hW5]; exact af3
          have he : cutTo I i (k + 1) = (cutTo I i k).set k (goneI ⟨pk, dk, datk, gone⟩, iv) := by rw [HSC.out]; unfold cutI; rw [if_pos HP2.out]
          have HE2 : Hid _ := he
          have HG5 : Hid _ := hG
          rw [← hW5]
          clear hW5 hSr hKr hS5 he hG a0 af0 a3 af3 e0 e1 e2 e3 e4 c0 c1 c2
          go_wp2_with fail
          go_roundw
          case rel => exact ⟨k + 1, by omega, by go_num, hK5.trans HG5.out.2, by rw [HE2.out]; exact HG5.out.1⟩
          case measure => simp [intOf]; omega
        · have bp : (pk == (i : Int)) = false := by simpa using hp
          have he : cutTo I i (k + 1) = cutTo I i k := by
            rw [HSC.out]
            unfold cutI
            rw [if_neg hp]
            have := HAT.out
            refine List.ext_getElem? fun j => ?_
            by_cases ej : k = j
            · subst ej; rw [this, List.getElem?_set_self (by rw [HCL.out]; exact hkl)]
            · rw [List.getElem?_set_ne ej]
          have HE2 : Hid _ := he
          have HP2 : Hid _ := hp
          clear hp he
          go_wp2_with fail
          go_quiet (fail)
          obtain ⟨W5, hW5⟩ : ∃ W5, W5 = wr.drewN nq := ⟨_, rfl⟩
          have hS5 : SpN W5 B base n ⟨fun p => if p = (i : Int) then 1 else s.cut p, fun p d => bagS ((cutTo I i k).map (·.1)) p d⟩ (.slice (some ⟨gc, 0, none⟩) n cc) (.slice (some ⟨ga, 0, none⟩) N ac) (C.set i 1) (cutTo I i k) := by rw [hW5]; exact hSr.drewN _
          have hK5 : KeepS W W5 B base := by rw [hW5]; exact ⟨hKr.os, hKr.tape, hKr.output, hKr.size, hKr.block⟩
          rw [← hW5]
          clear hW5 hSr hKr
          go_wp2_with fail
          go_roundw
          case rel => exact ⟨k + 1, by omega, by go_num, hK5, by rw [HE2.out]; exact hS5⟩
          case measure => simp [intOf]; omega
      · obtain rfl : k = N := by omega
        have hkk : ¬ (k : Int) < (k : Int) := by omega
        obtain ⟨⟨r0, r1⟩, rf⟩ := cells2r hRr
        have rf0 := rf 0
        have rf1 := rf 1
        obtain ⟨⟨z0, z1⟩, _⟩ := cells2r (set2r hRr (.int .i64 0) (.slice none 0 0))
        clear rf
        go_wp2_with fail
        refine bodyPost_ret (v := .agg #[.int .i64 0, .slice none 0 0]) (by simp [results, Try.results46, go_sem, z0, z1]) rfl ?_
        have hSe : S = (⟨0, []⟩, s.cutOff i) := by rw [HS.out, stepN, if_neg HK.out, if_neg HP.out, if_pos rfl]
        subst hSe
        refine ⟨_, (cutTo I i k), _, none, 0, rfl, (hSr.as ?_ ?_).fill hRr _ _, by rw [cutTo_length]; omega, hKw.fill HRW.out _ _, World.ownsRow_nil _ _ _ _⟩
        · intro j hj; rfl
        · intro p d; simp only [NS.cutOff]; rw [← hN.out, cutTo_all, bagS_cut, h.bs]
  by_cases k6 : kd = 6
  · subst k6
    go_upto_region 6 with fail
    go_region
    obtain ⟨V1, hV1⟩ : ∃ V1, V1 = (V.setCell ⟨gc, i, none⟩ (.int .i64 0)).drew := ⟨_, rfl⟩
    have hN1 : SpN V1 B base n ⟨fun p => if p = (i : Int) then 0 else s.cut p, s.bag⟩ (.slice (some ⟨gc, 0, none⟩) n cc) av (C.set i 0) I := by rw [hV1]; exact (hNV.cutAt hin 0).1.drew
    have hK1 : KeepS W V1 B base := by
      have := (KeepS.ofBelow (B := B) (base := base) hBV).trans (hNV.cutAt hin 0).2
      rw [hV1]
      exact ⟨this.os, this.tape, this.output, this.size, this.block⟩
    rw [← hV1]
    clear hV1 hNV hKV hbV hci hcf e0 e1 e2 e3 e4 r0 r1 rf0 rf1 c0 c1 c2 cf0 cf1 cf2
    obtain ⟨aa, ac, hav⟩ := own_shape hN1.all
    rw [hN.out] at hav
    subst hav
    have hI0 : cutTo I i 0 = I := by simp [cutTo]
    have hD0 : SpN V1 B base n ⟨fun p => if p = (i : Int) then 0 else s.cut p, s.bag⟩ (.slice (some ⟨gc, 0, none⟩) n cc) (.slice aa N ac) (C.set i 0) I := hN1
    clear hN1 hI0
    go_wp2_with fail
    go_loopw [5] (fun iv wr => ∃ k : Nat, k ≤ N ∧ iv = .int .i64 k ∧ KeepS W wr B base ∧ SpN wr B base n ⟨fun p => if p = (i : Int) then 0 else s.cut p, s.bag⟩ (.slice (some ⟨gc, 0, none⟩) n cc) (.slice aa N ac) (C.set i 0) I) (fun iv _ => N - (intOf iv).toNat)
    case atStart => exact ⟨0, Nat.zero_le _, rfl, hK1, hD0⟩
    case round =>
      clear hD0 hK1
      obtain ⟨k, hk, rfl, hKr, hSr⟩ := hrel
      obtain ⟨⟨e0, e1, e2, e3, e4⟩, hRr, hKw⟩ := HVK.out wr hKr
      obtain ⟨⟨c0, c1, c2⟩, cf0, cf1, cf2⟩ := hSr.cells
      by_cases hlt : k < N
      · have hki : (k : Int) < (N : Int) := by omega
        go_wp2_with fail
        go_quiet (fail)
        obtain ⟨W5, hW5⟩ : ∃ W5, W5 = wr.drewN nq := ⟨_, rfl⟩
        have hS5 : SpN W5 B base n ⟨fun p => if p = (i : Int) then 0 else s.cut p, s.bag⟩ (.slice (some ⟨gc, 0, none⟩) n cc) (.slice aa N ac) (C.set i 0) I := by rw [hW5]; exact hSr.drewN _
        have hK5 : KeepS W W5 B base := by rw [hW5]; exact ⟨hKr.os, hKr.tape, hKr.output, hKr.size, hKr.block⟩
        rw [← hW5]
        clear hW5 hSr hKr
        go_wp2_with fail
        go_roundw
        case rel => exact ⟨k + 1, by omega, by go_num, hK5, hS5⟩
        case measure => simp [intOf]; omega
      · obtain rfl : k = N := by omega
        have hkk : ¬ (k : Int) < (k : Int) := by omega
        obtain ⟨⟨r0, r1⟩, rf⟩ := cells2r hRr
        have rf0 := rf 0
        have rf1 := rf 1
        obtain ⟨⟨z0, z1⟩, _⟩ := cells2r (set2r hRr (.int .i64 0) (.slice none 0 0))
        clear rf
        go_wp2_with fail
        refine bodyPost_ret (v := .agg #[.int .i64 0, .slice none 0 0]) (by simp [results, Try.results46, go_sem, z0, z1]) rfl ?_
        have hSe : S = (⟨0, []⟩, s.up i) := by rw [HS.out, stepN, if_neg HK.out, if_neg HP.out, if_neg (by simp), if_pos rfl]
        subst hSe
        refine ⟨_, I, _, none, 0, rfl, (hSr.as ?_ ?_).fill hRr _ _, by omega, hKw.fill HRW.out _ _, World.ownsRow_nil _ _ _ _⟩
        · intro j hj; rfl
        · intro p d; rfl
  have HK5 : Hid _ := k5
  have HK6 : Hid _ := k6
  have b5 : (kd == 5) = false := by simpa using k5
  have b6 : (kd == 6) = false := by simpa using k6
  clear k5 k6
  obtain ⟨aa, ac, hav⟩ := own_shape h.all
  rw [hN.out] at hav
  subst hav
  by_cases hdd : di ≠ 0 ∧ di ≠ 1
  · have d0 : (di != 0) = true := by simpa using hdd.1
    have d1 : (di != 1) = true := by simpa using hdd.2
    have HD : Hid _ := hdd
    clear hdd
    go_wp2_with fail
    refine (l3Code_any 1 V).mono ?_
    rintro r w9 ⟨rfl, hb9⟩
    obtain ⟨_, _, _, hR9, _, hB9⟩ := HV.out w9 (hBV.trans (hb9.mono hBV.size))
    clear r0 r1 rf0 rf1
    obtain ⟨⟨r0, r1⟩, rf⟩ := cells2r hR9
    have rf0 := rf 0
    have rf1 := rf 1
    obtain ⟨⟨z0, z1⟩, _⟩ := cells2r (set2r hR9 (.int .i64 1) (.slice none 0 0))
    clear rf
    go_wp2_with fail
    exact bodyPost_ret (v := .agg #[.int .i64 1, .slice none 0 0]) (by simp [results, Try.results46, go_sem, z0, z1]) rfl (HFIN.out w9 1 hB9 hR9 (by rw [HS.out, stepN, if_neg HK.out, if_neg HP.out, if_neg HK5.out, if_neg HK6.out, if_pos HD.out]))
  rcases (show di = 0 ∨ di = 1 by omega) with hD | hD
  · clear hdd
    subst hD
    have hfl := l3Flight_any V B base n s (.slice (some ⟨gc, 0, none⟩) n cc) (.slice aa N ac) C I hNV (by have := HI.out; omega) (i : Int) 0
    obtain ⟨m, hm⟩ : ∃ m, Hid ((s.bag (i : Int) 0).length = m) := ⟨_, rfl⟩
    have hm64 : m ≤ 64 := by rw [← hm.out]; exact hinv.len _ _
    rw [hm.out] at hfl
    go_upto_region 15 with fail
    go_wp2_with fail
    refine hfl.mono ?_
    rintro r w4 ⟨xa, xc, rfl, hidx, hb4⟩
    have hB4 : Below W.heap.size W w4 := hBV.trans (hb4.mono hBV.size)
    clear e0 e1 e2 e3 e4 r0 r1 rf0 rf1 c0 c1 c2 cf0 cf1 cf2 hci hcf hfl
    obtain ⟨⟨e0, e1, e2, e3, e4⟩, ⟨⟨c0, c1, c2⟩, cf0, cf1, cf2⟩, hN4, hR4, hK4, hbw4⟩ := HV.out w4 hB4
    obtain ⟨⟨r0, r1⟩, rf⟩ := cells2r hR4
    have rf0 := rf 0
    have rf1 := rf 1
    clear rf
    obtain ⟨q, hq⟩ : ∃ q, Hid (s.cut (i : Int) = q) := ⟨_, rfl⟩
    obtain ⟨hci, hcf⟩ := own_cell hN4.cut (j := i) (x := .int .i64 (s.cut i)) (by
      have hci : i < C.length := by rw [h.cl]; exact hin
      rw [List.getElem?_map, ← h.cs i hin, List.getD_eq_getElem?_getD, List.getElem?_eq_getElem hci]; rfl)
    rw [hq.out] at hci
    by_cases k1 : kd = 1
    · subst k1
      by_cases hd6 : 64 < dl
      · have d6 : decide (64 < (dl : Int)) = true := by rw [decide_eq_true_iff]; omega
        go_wp2_with fail
        refine (l3Code_any 2 w4).mono ?_
        rintro r w9 ⟨rfl, hb9⟩
        obtain ⟨_, _, _, hR9, _, hB9⟩ := HV.out w9 (hB4.trans (hb9.mono hB4.size))
        clear r0 r1 rf0 rf1
        obtain ⟨⟨r0, r1⟩, rf⟩ := cells2r hR9
        have rf0 := rf 0
        have rf1 := rf 1
        obtain ⟨⟨z0, z1⟩, _⟩ := cells2r (set2r hR9 (.int .i64 2) (.slice none 0 0))
        clear rf
        go_wp2_with fail
        exact bodyPost_ret (v := .agg #[.int .i64 2, .slice none 0 0]) (by simp [results, Try.results46, go_sem, z0, z1]) rfl (HFIN.out w9 2 hB9 hR9 (by rw [HS.out, stepN, if_neg HK.out, if_neg HP.out, if_neg HK5.out, if_neg HK6.out, if_neg (by simp), if_pos rfl, sendN, if_pos (by rw [HDL.out]; exact hd6)]))
      have d6 : decide (64 < (dl : Int)) = false := by rw [decide_eq_false_iff_not]; omega
      have hint := HW.out.moved hB4
      go_upto_region 19 with fail
      by_cases hq1 : q = 1
      · have b1 : (q == 1) = true := by simpa using hq1
        have HQ : Hid _ := hq1
        clear hq1
        go_quiet (fail)
        obtain ⟨V6, hV6⟩ : ∃ V6, V6 = w4.drewN nq := ⟨_, rfl⟩
        have hB6 : Below W.heap.size W V6 := by rw [hV6]; exact drewsN hB4 _
        rw [← hV6]
        clear hV6
        go_wp2_with fail
        refine (l3Code_any 8 V6).mono ?_
        rintro r w9 ⟨rfl, hb9⟩
        obtain ⟨_, _, _, hR9, _, hB9⟩ := HV.out w9 (hB6.trans (hb9.mono hB6.size))
        clear r0 r1 rf0 rf1
        obtain ⟨⟨r0, r1⟩, rf⟩ := cells2r hR9
        have rf0 := rf 0
        have rf1 := rf 1
        obtain ⟨⟨z0, z1⟩, _⟩ := cells2r (set2r hR9 (.int .i64 8) (.slice none 0 0))
        clear rf
        go_wp2_with fail
        exact bodyPost_ret (v := .agg #[.int .i64 8, .slice none 0 0]) (by simp [results, Try.results46, go_sem, z0, z1]) rfl (HFIN.out w9 8 hB9 hR9 (by rw [HS.out, stepN, if_neg HK.out, if_neg HP.out, if_neg HK5.out, if_neg HK6.out, if_neg (by simp), if_pos rfl, sendN, if_neg (by have := HDL.out; simp only; omega), if_pos (by rw [hq.out]; exact HQ.out)]))
      have b1 : (q == 1) = false := by simpa using hq1
      have HQ : Hid _ := hq1
      clear hq1
      go_quiet (fail)
      obtain ⟨V6, hV6⟩ : ∃ V6, V6 = w4.drewN nq := ⟨_, rfl⟩
      have hB6 : Below W.heap.size W V6 := by rw [hV6]; exact drewsN hB4 _
      rw [← hV6]
      clear hV6 e0 e1 e2 e3 e4 r0 r1 rf0 rf1 c0 c1 c2 cf0 cf1 cf2 hci hcf
      obtain ⟨⟨e0, e1, e2, e3, e4⟩, ⟨⟨c0, c1, c2⟩, cf0, cf1, cf2⟩, hN6, hR6, hK6, hbw6⟩ := HV.out V6 hB6
      obtain ⟨⟨r0, r1⟩, rf⟩ := cells2r hR6
      have rf0 := rf 0
      have rf1 := rf 1
      clear rf
      by_cases hf : 64 ≤ m
      · have d7 : decide (64 ≤ (m : Int)) = true := by rw [decide_eq_true_iff]; omega
        have HF : Hid _ := hf
        clear hf
        go_wp2_with fail
        refine (l3Code_any 9 V6).mono ?_
        rintro r w9 ⟨rfl, hb9⟩
        obtain ⟨_, _, _, hR9, _, hB9⟩ := HV.out w9 (hB6.trans (hb9.mono hB6.size))
        clear r0 r1 rf0 rf1
        obtain ⟨⟨r0, r1⟩, rf⟩ := cells2r hR9
        have rf0 := rf 0
        have rf1 := rf 1
        obtain ⟨⟨z0, z1⟩, _⟩ := cells2r (set2r hR9 (.int .i64 9) (.slice none 0 0))
        clear rf
        go_wp2_with fail
        exact bodyPost_ret (v := .agg #[.int .i64 9, .slice none 0 0]) (by simp [results, Try.results46, go_sem, z0, z1]) rfl (HFIN.out w9 9 hB9 hR9 (by rw [HS.out, stepN, if_neg HK.out, if_neg HP.out, if_neg HK5.out, if_neg HK6.out, if_neg (by simp), if_pos rfl, sendN, if_neg (by have := HDL.out; simp only; omega), if_neg (by rw [hq.out]; exact HQ.out), if_pos (by rw [hm.out]; exact HF.out)]))
      have d7 : decide (64 ≤ (m : Int)) = false := by rw [decide_eq_false_iff_not]; omega
      have HF : Hid _ := hf
      clear hf
      go_upto_region 29 with fail
      have LC := l1Copy_any da dat dl dc V6.drew (HW.out.moved hB6.drew) HDL.out (by omega)
      have HN9 : Hid (∀ w9, Below V6.drew.heap.size V6.drew w9 → SpN w9 B base n s (.slice (some ⟨gc, 0, none⟩) n cc) (.slice aa N ac) C I ∧ Below W.heap.size W w9) := by
        unfold Hid
        intro w9 hb9
        have hbb : Below W.heap.size W w9 := hB6.drew.trans (hb9.mono hB6.size)
        exact ⟨(HV.out w9 hbb).2.2.1, hbb⟩
      have x1 : V6.drew.cell? ⟨E, 1, none⟩ = some (.int .i64 (i : Int)) := e1
      have x2 : V6.drew.cell? ⟨E, 2, none⟩ = some (.int .i64 0) := e2
      have y2 : V6.drew.cell? ⟨B, 2, none⟩ = some (.slice aa N ac) := c2
      clear r0 r1 rf0 rf1 c0 c1 cf0 cf1
      go_wp2_with fail
      refine wp_region_noPanic ?_
      refine wp_region_held_drew (S := fun w' => w'.cell? ⟨E, 1, none⟩ = some (.int .i64 (i : Int)) ∧ w'.cell? ⟨E, 2, none⟩ = some (.int .i64 0)) (by kernel_rfl) ⟨x1, x2⟩ (fun hHeld => ?_)
      refine wpAnyH_take (i := 0) (v := ?_) rfl (by kernel_rfl) (by kernel_rfl) (by kernel_rfl) (fun _ _ _ h => h) (Or.inl ⟨by rfl, ?_⟩) (by assumption) ?_
      rotate_left
      · intro w hSw
        try dsimp only at hSw
        (go_simp; try with_reducible rfl)
      try simp only [Act.put, List.setIfInBounds_toArray, List.set_cons_zero, List.set_cons_succ]
      refine wpAnyH_take (i := 1) (v := ?_) rfl (by kernel_rfl) (by kernel_rfl) (by kernel_rfl) (fun _ _ _ h => h) (Or.inl ⟨by rfl, ?_⟩) (by assumption) ?_
      rotate_left
      · intro w hSw
        try dsimp only at hSw
        (go_simp; try with_reducible rfl)
      try simp only [Act.put, List.setIfInBounds_toArray, List.set_cons_zero, List.set_cons_succ]
      refine wpAnyH_take (i := 2) (v := ?_) rfl (by kernel_rfl) (by kernel_rfl) (by kernel_rfl) (fun _ _ _ h => h) (Or.inl ⟨by rfl, ?_⟩) (by assumption) ?_
      rotate_left
      · intro w hSw
        try dsimp only at hSw
        (go_simp; try with_reducible rfl)
      try simp only [Act.put, List.setIfInBounds_toArray, List.set_cons_zero, List.set_cons_succ]
      refine wpAnyH_take (i := 3) (v := ?_) rfl (by kernel_rfl) (by kernel_rfl) (by kernel_rfl) (fun _ _ _ h => h) (Or.inl ⟨by rfl, ?_⟩) (by assumption) ?_
      rotate_left
      · intro w hSw
        try dsimp only at hSw
        (go_simp; try with_reducible rfl)
      try simp only [Act.put, List.setIfInBounds_toArray, List.set_cons_zero, List.set_cons_succ]
      refine wpAnyH_take (i := 5) (v := ?_) rfl (by kernel_rfl) (by kernel_rfl) (by kernel_rfl) (fun _ _ _ h => h) (Or.inl ⟨by rfl, ?_⟩) (by assumption) ?_
      rotate_left
      · intro w hSw
        try dsimp only at hSw
        (go_simp; try with_reducible rfl)
      try simp only [Act.put, List.setIfInBounds_toArray, List.set_cons_zero, List.set_cons_succ]
      refine wpAnyH_take (i := 6) (v := ?_) rfl (by kernel_rfl) (by kernel_rfl) (by kernel_rfl) (fun _ _ _ h => h) (Or.inl ⟨by rfl, ?_⟩) (by assumption) ?_
      rotate_left
      · intro w hSw
        try dsimp only at hSw
        (go_simp; try with_reducible rfl)
      try simp only [Act.put, List.setIfInBounds_toArray, List.set_cons_zero, List.set_cons_succ]
      refine wpAnyH_take (i := 7) (v := ?_) rfl (by kernel_rfl) (by kernel_rfl) (by kernel_rfl) (fun _ _ _ h => h) (Or.inl ⟨by rfl, ?_⟩) (by assumption) ?_
      rotate_left
      · intro w hSw
        try dsimp only at hSw
        (go_simp; try with_reducible rfl)
      try simp only [Act.put, List.setIfInBounds_toArray, List.set_cons_zero, List.set_cons_succ]
      refine wpAnyH_take (i := 8) (v := ?_) rfl (by kernel_rfl) (by kernel_rfl) (by kernel_rfl) (fun _ _ _ h => h) (Or.inl ⟨by rfl, ?_⟩) (by assumption) ?_
      rotate_left
      · intro w hSw
        try dsimp only at hSw
        (go_simp; try with_reducible rfl)
      try simp only [Act.put, List.setIfInBounds_toArray, List.set_cons_zero, List.set_cons_succ]
      refine wpAnyH_take (i := 9) (v := ?_) rfl (by kernel_rfl) (by kernel_rfl) (by kernel_rfl) (fun _ _ _ h => h) (Or.inl ⟨by rfl, ?_⟩) (by assumption) ?_
      rotate_left
      · intro w hSw
        try dsimp only at hSw
        (go_simp; try with_reducible rfl)
      try simp only [Act.put, List.setIfInBounds_toArray, List.set_cons_zero, List.set_cons_succ]
      refine wpAnyH_ready (rs := [4, 10]) (by kernel_rfl) (by simp) ?_
      refine AllReadyH.cons rfl (fun K hK => ?_) ?_
      · go_simp
        refine hK.out _ _ ?_ (fun hHeld => ?_)
        · first | exact ⟨by assumption, by assumption⟩ | (go_keep; done)
        clear hK K
        try simp only [Act.put, List.setIfInBounds_toArray, List.set_cons_zero, List.set_cons_succ]
        refine wpAnyH_ready (rs := [10]) (by kernel_rfl) (by simp) ?_
        refine AllReadyH.cons rfl (fun K hK => ?_) ?_
        rotate_left
        · exact AllReadyH.nil
        go_simp
        go_at_call 50
        with_reducible (refine Calls.mono LC ?_)
        rintro e w9 ⟨ya, yc, rfl, hy, hb9⟩
        obtain ⟨hN9, hbb9⟩ := HN9.out w9 hb9
        obtain ⟨⟨u0, u1, u2, u3, u4⟩, ⟨⟨v0, v1, v2⟩, vf0, vf1, vf2⟩, _⟩ := HV.out w9 hbb9
        have hB9l : B < w9.heap.size := hN9.lt
        have hBn : ¬ B = w9.heap.size := by omega
        have hE9 := HEB.out w9 hbb9
        have hE9l := (Array.getElem?_eq_some_iff.1 hE9).1
        have hall9 := hN9.all
        rw [hN.out] at hall9
        have hbs9 : base ≤ w9.heap.size := by have := hbb9.size; omega
        dsimp only
        refine hK.out _ _ ?_ (fun hHeld => ?_)
        · first | exact ⟨by assumption, by assumption⟩ | (go_keep; done)
        clear hK K
        try simp only [Act.put, List.setIfInBounds_toArray, List.set_cons_zero, List.set_cons_succ]
        refine wpAnyH_take (i := 11) (v := ?_) rfl (by kernel_rfl) (by kernel_rfl) (by kernel_rfl) (fun _ _ _ h => h) (Or.inl ⟨by rfl, ?_⟩) (by assumption) ?_
        rotate_left
        · intro w hSw
          try dsimp only at hSw
          (go_simp; try with_reducible rfl)
        try simp only [Act.put, List.setIfInBounds_toArray, List.set_cons_zero, List.set_cons_succ]
        refine wpAnyH_ready (rs := [12]) (by kernel_rfl) (by simp) ?_
        refine AllReadyH.cons rfl (fun K hK => ?_) ?_
        rotate_left
        · exact AllReadyH.nil
        go_simp
        refine hK.out _ _ ?_ (fun hHeld => ?_)
        · first | exact ⟨by assumption, by assumption⟩ | (go_keep; done)
        clear hK K
        try simp only [Act.put, List.setIfInBounds_toArray, List.set_cons_zero, List.set_cons_succ]
        refine wpAnyH_ready (rs := [13]) (by kernel_rfl) (by simp) ?_
        refine AllReadyH.cons rfl (fun K hK => ?_) ?_
        rotate_left
        · exact AllReadyH.nil
        refine step_appI (w9.alloc (.cells #[.int .i64 (i : Int), .int .i64 0, .slice ya dl yc, .bool false] 100)) (by rfl) _ _ (by rfl) base aa N ac (flatI I) (by simp [Act.eval, Act.put]) (own_alloc hall9 _) w9.heap.size _ _ _ _ (by simp [Act.eval, Act.put]) (heap_alloc_new w9 _) (by simp [Value.oneCell']) (by omega) (by simp; omega) ?_
        intro g11 cap11 w11 ho11 hg11
        have hi11 := (hg11.block B (by simp; omega) (fun e => own_ne hall9 hN9.blk (by decide) e.symm)).trans ((Below.heap_alloc w9 _ B hB9l).trans hN9.blk)
        have t2 := Go.Joins.cell_of_block hi11 2
        have tf := Go.Joins.unfrozen_of_block hi11 2
        have hE11 := (hg11.block E (by simp; omega) (fun e => own_ne hall9 hE9 (by decide) e.symm)).trans ((Below.heap_alloc w9 _ E hE9l).trans hE9)
        obtain ⟨⟨s0, s1, s2, s3, s4⟩, _⟩ := cells5r hE11
        refine hK.out _ _ ?_ (fun hHeld => ?_)
        · first | exact ⟨by assumption, by assumption⟩ | (go_keep; done)
        clear hK K
        try simp only [Act.put, List.setIfInBounds_toArray, List.set_cons_zero, List.set_cons_succ]
        refine wpAnyH_take (i := 14) (v := ?_) rfl (by kernel_rfl) (by kernel_rfl) (by kernel_rfl) (fun _ _ _ h => h) (Or.inl ⟨by rfl, ?_⟩) (by assumption) ?_
        rotate_left
        · intro w hSw
          try dsimp only at hSw
          (go_simp; try with_reducible rfl)
        try simp only [Act.put, List.setIfInBounds_toArray, List.set_cons_zero, List.set_cons_succ]
        refine wpAnyH_take (i := 15) (v := ?_) rfl (by kernel_rfl) (by kernel_rfl) (by kernel_rfl) (fun _ _ _ h => h) (Or.inl ⟨by rfl, ?_⟩) (by assumption) ?_
        rotate_left
        · intro w hSw
          try dsimp only at hSw
          (go_simp; try with_reducible rfl)
        try simp only [Act.put, List.setIfInBounds_toArray, List.set_cons_zero, List.set_cons_succ]
        refine wpAnyH_ready (rs := [16]) (by kernel_rfl) (by simp) ?_
        refine AllReadyH.cons rfl (fun K hK => ?_) ?_
        rotate_left
        · exact AllReadyH.nil
        go_simp
        refine hK.out _ _ ?_ (fun hHeld => ?_)
        · exact ⟨(World.cell?_setCell_far _ _ _ _ (Ne.symm hEB)).trans s1, (World.cell?_setCell_far _ _ _ _ (Ne.symm hEB)).trans s2⟩
        clear hK K
        try simp only [Act.put, List.setIfInBounds_toArray, List.set_cons_zero, List.set_cons_succ]
        refine wpAnyH_done (by kernel_rfl) ?_ _
        refine NoPanic.normal ?_
        obtain ⟨hS7, hK79⟩ := SpN.push (pa := (i : Int)) (di := 0) (dat := dat) (dv := .slice ya dl yc) hN9 hN.out (by rw [HDL.out]; exact owned_base hy (by have := hB6.size; show base ≤ V6.heap.size; omega)) hg11 hbs9 ho11
        obtain ⟨_, hR7, hKw7⟩ := HVK.out _ ((KeepS.ofBelow hbb9).trans hK79)
        obtain ⟨⟨r0, r1⟩, rf⟩ := cells2r hR7
        have rf0 := rf 0
        have rf1 := rf 1
        obtain ⟨⟨z0, z1⟩, _⟩ := cells2r (set2r hR7 (.int .i64 0) (.slice none 0 0))
        have hSe : S = (⟨0, []⟩, s.put (i : Int) 0 (s.bag (i : Int) 0 ++ [dat])) := by first | (rw [HS.out, stepN, if_neg HK.out, if_neg HP.out, if_neg HK5.out, if_neg HK6.out, if_neg (by simp), if_pos rfl, sendN, if_neg (by have := HDL.out; simp only; omega), if_neg (by rw [hq.out]; exact HQ.out), if_neg (by rw [hm.out]; exact HF.out)]; done) | (rw [HS.out, stepN, if_neg HK.out, if_neg HP.out, if_neg HK5.out, if_neg HK6.out, if_neg (by simp), if_pos rfl, sendN, if_neg (by have := HDL.out; simp only; omega), if_neg (by rw [hq.out]; exact HQ.out), if_neg (by rw [hm.out]; exact HF.out)]; rfl)
        have HSE : Hid _ := hSe
        have HS7 : Hid _ := hS7
        have HR7 : Hid _ := hR7
        have HKW7 : Hid _ := hKw7
        clear rf hSe hS7 hR7 hKw7 hK79
        go_wp2_with fail
        refine bodyPost_ret (v := .agg #[.int .i64 0, .slice none 0 0]) (by simp [results, Try.results46, go_sem, z0, z1]) rfl ?_
        rw [HSE.out]
        exact ⟨_, I ++ [(⟨(i : Int), 0, dat, false⟩, .slice ya dl yc)], C, none, 0, rfl, HS7.out.fill HR7.out _ _, by simp, HKW7.out.fill HRW.out _ _, World.ownsRow_nil _ _ _ _⟩
      refine AllReadyH.cons rfl (fun K hK => ?_) AllReadyH.nil
      go_simp
      go_at_call 50
      with_reducible (refine Calls.mono LC ?_)
      rintro e w9 ⟨ya, yc, rfl, hy, hb9⟩
      obtain ⟨hN9, hbb9⟩ := HN9.out w9 hb9
      obtain ⟨⟨u0, u1, u2, u3, u4⟩, ⟨⟨v0, v1, v2⟩, vf0, vf1, vf2⟩, _⟩ := HV.out w9 hbb9
      have hB9l : B < w9.heap.size := hN9.lt
      have hBn : ¬ B = w9.heap.size := by omega
      have hE9 := HEB.out w9 hbb9
      have hE9l := (Array.getElem?_eq_some_iff.1 hE9).1
      have hall9 := hN9.all
      rw [hN.out] at hall9
      have hbs9 : base ≤ w9.heap.size := by have := hbb9.size; omega
      dsimp only
      refine hK.out _ _ ?_ (fun hHeld => ?_)
      · first | exact ⟨by assumption, by assumption⟩ | (go_keep; done)
      clear hK K
      try simp only [Act.put, List.setIfInBounds_toArray, List.set_cons_zero, List.set_cons_succ]
      refine wpAnyH_take (i := 11) (v := ?_) rfl (by kernel_rfl) (by kernel_rfl) (by kernel_rfl) (fun _ _ _ h => h) (Or.inl ⟨by rfl, ?_⟩) (by assumption) ?_
      rotate_left
      · intro w hSw
        try dsimp only at hSw
        (go_simp; try with_reducible rfl)
      try simp only [Act.put, List.setIfInBounds_toArray, List.set_cons_zero, List.set_cons_succ]
      refine wpAnyH_ready (rs := [4, 12]) (by kernel_rfl) (by simp) ?_
      refine AllReadyH.cons rfl (fun K hK => ?_) ?_
      · go_simp
        refine hK.out _ _ ?_ (fun hHeld => ?_)
        · first | exact ⟨by assumption, by assumption⟩ | (go_keep; done)
        clear hK K
        try simp only [Act.put, List.setIfInBounds_toArray, List.set_cons_zero, List.set_cons_succ]
        refine wpAnyH_ready (rs := [12]) (by kernel_rfl) (by simp) ?_
        refine AllReadyH.cons rfl (fun K hK => ?_) ?_
        rotate_left
        · exact AllReadyH.nil
        go_simp
        refine hK.out _ _ ?_ (fun hHeld => ?_)
        · first | exact ⟨by assumption, by assumption⟩ | (go_keep; done)
        clear hK K
        try simp only [Act.put, List.setIfInBounds_toArray, List.set_cons_zero, List.set_cons_succ]
        refine wpAnyH_ready (rs := [13]) (by kernel_rfl) (by simp) ?_
        refine AllReadyH.cons rfl (fun K hK => ?_) ?_
        rotate_left
        · exact AllReadyH.nil
        refine step_appI (w9.alloc (.cells #[.int .i64 (i : Int), .int .i64 0, .slice ya dl yc, .bool false] 100)) (by rfl) _ _ (by rfl) base aa N ac (flatI I) (by simp [Act.eval, Act.put]) (own_alloc hall9 _) w9.heap.size _ _ _ _ (by simp [Act.eval, Act.put]) (heap_alloc_new w9 _) (by simp [Value.oneCell']) (by omega) (by simp; omega) ?_
        intro g11 cap11 w11 ho11 hg11
        have hi11 := (hg11.block B (by simp; omega) (fun e => own_ne hall9 hN9.blk (by decide) e.symm)).trans ((Below.heap_alloc w9 _ B hB9l).trans hN9.blk)
        have t2 := Go.Joins.cell_of_block hi11 2
        have tf := Go.Joins.unfrozen_of_block hi11 2
        have hE11 := (hg11.block E (by simp; omega) (fun e => own_ne hall9 hE9 (by decide) e.symm)).trans ((Below.heap_alloc w9 _ E hE9l).trans hE9)
        obtain ⟨⟨s0, s1, s2, s3, s4⟩, _⟩ := cells5r hE11
        refine hK.out _ _ ?_ (fun hHeld => ?_)
        · first | exact ⟨by assumption, by assumption⟩ | (go_keep; done)
        clear hK K
        try simp only [Act.put, List.setIfInBounds_toArray, List.set_cons_zero, List.set_cons_succ]
        refine wpAnyH_take (i := 14) (v := ?_) rfl (by kernel_rfl) (by kernel_rfl) (by kernel_rfl) (fun _ _ _ h => h) (Or.inl ⟨by rfl, ?_⟩) (by assumption) ?_
        rotate_left
        · intro w hSw
          try dsimp only at hSw
          (go_simp; try with_reducible rfl)
        try simp only [Act.put, List.setIfInBounds_toArray, List.set_cons_zero, List.set_cons_succ]
        refine wpAnyH_take (i := 15) (v := ?_) rfl (by kernel_rfl) (by kernel_rfl) (by kernel_rfl) (fun _ _ _ h => h) (Or.inl ⟨by rfl, ?_⟩) (by assumption) ?_
        rotate_left
        · intro w hSw
          try dsimp only at hSw
          (go_simp; try with_reducible rfl)
        try simp only [Act.put, List.setIfInBounds_toArray, List.set_cons_zero, List.set_cons_succ]
        refine wpAnyH_ready (rs := [16]) (by kernel_rfl) (by simp) ?_
        refine AllReadyH.cons rfl (fun K hK => ?_) ?_
        rotate_left
        · exact AllReadyH.nil
        go_simp
        refine hK.out _ _ ?_ (fun hHeld => ?_)
        · exact ⟨(World.cell?_setCell_far _ _ _ _ (Ne.symm hEB)).trans s1, (World.cell?_setCell_far _ _ _ _ (Ne.symm hEB)).trans s2⟩
        clear hK K
        try simp only [Act.put, List.setIfInBounds_toArray, List.set_cons_zero, List.set_cons_succ]
        refine wpAnyH_done (by kernel_rfl) ?_ _
        refine NoPanic.normal ?_
        obtain ⟨hS7, hK79⟩ := SpN.push (pa := (i : Int)) (di := 0) (dat := dat) (dv := .slice ya dl yc) hN9 hN.out (by rw [HDL.out]; exact owned_base hy (by have := hB6.size; show base ≤ V6.heap.size; omega)) hg11 hbs9 ho11
        obtain ⟨_, hR7, hKw7⟩ := HVK.out _ ((KeepS.ofBelow hbb9).trans hK79)
        obtain ⟨⟨r0, r1⟩, rf⟩ := cells2r hR7
        have rf0 := rf 0
        have rf1 := rf 1
        obtain ⟨⟨z0, z1⟩, _⟩ := cells2r (set2r hR7 (.int .i64 0) (.slice none 0 0))
        have hSe : S = (⟨0, []⟩, s.put (i : Int) 0 (s.bag (i : Int) 0 ++ [dat])) := by first | (rw [HS.out, stepN, if_neg HK.out, if_neg HP.out, if_neg HK5.out, if_neg HK6.out, if_neg (by simp), if_pos rfl, sendN, if_neg (by have := HDL.out; simp only; omega), if_neg (by rw [hq.out]; exact HQ.out), if_neg (by rw [hm.out]; exact HF.out)]; done) | (rw [HS.out, stepN, if_neg HK.out, if_neg HP.out, if_neg HK5.out, if_neg HK6.out, if_neg (by simp), if_pos rfl, sendN, if_neg (by have := HDL.out; simp only; omega), if_neg (by rw [hq.out]; exact HQ.out), if_neg (by rw [hm.out]; exact HF.out)]; rfl)
        have HSE : Hid _ := hSe
        have HS7 : Hid _ := hS7
        have HR7 : Hid _ := hR7
        have HKW7 : Hid _ := hKw7
        clear rf hSe hS7 hR7 hKw7 hK79
        go_wp2_with fail
        refine bodyPost_ret (v := .agg #[.int .i64 0, .slice none 0 0]) (by simp [results, Try.results46, go_sem, z0, z1]) rfl ?_
        rw [HSE.out]
        exact ⟨_, I ++ [(⟨(i : Int), 0, dat, false⟩, .slice ya dl yc)], C, none, 0, rfl, HS7.out.fill HR7.out _ _, by simp, HKW7.out.fill HRW.out _ _, World.ownsRow_nil _ _ _ _⟩
      refine AllReadyH.cons rfl (fun K hK => ?_) AllReadyH.nil
      go_simp
      refine hK.out _ _ ?_ (fun hHeld => ?_)
      · first | exact ⟨by assumption, by assumption⟩ | (go_keep; done)
      clear hK K
      try simp only [Act.put, List.setIfInBounds_toArray, List.set_cons_zero, List.set_cons_succ]
      refine wpAnyH_ready (rs := [4]) (by kernel_rfl) (by simp) ?_
      refine AllReadyH.cons rfl (fun K hK => ?_) ?_
      rotate_left
      · exact AllReadyH.nil
      go_simp
      refine hK.out _ _ ?_ (fun hHeld => ?_)
      · first | exact ⟨by assumption, by assumption⟩ | (go_keep; done)
      clear hK K
      try simp only [Act.put, List.setIfInBounds_toArray, List.set_cons_zero, List.set_cons_succ]
      refine wpAnyH_ready (rs := [13]) (by kernel_rfl) (by simp) ?_
      refine AllReadyH.cons rfl (fun K hK => ?_) ?_
      rotate_left
      · exact AllReadyH.nil
      refine step_appI (w9.alloc (.cells #[.int .i64 (i : Int), .int .i64 0, .slice ya dl yc, .bool false] 100)) (by rfl) _ _ (by rfl) base aa N ac (flatI I) (by simp [Act.eval, Act.put]) (own_alloc hall9 _) w9.heap.size _ _ _ _ (by simp [Act.eval, Act.put]) (heap_alloc_new w9 _) (by simp [Value.oneCell']) (by omega) (by simp; omega) ?_
      intro g11 cap11 w11 ho11 hg11
      have hi11 := (hg11.block B (by simp; omega) (fun e => own_ne hall9 hN9.blk (by decide) e.symm)).trans ((Below.heap_alloc w9 _ B hB9l).trans hN9.blk)
      have t2 := Go.Joins.cell_of_block hi11 2
      have tf := Go.Joins.unfrozen_of_block hi11 2
      have hE11 := (hg11.block E (by simp; omega) (fun e => own_ne hall9 hE9 (by decide) e.symm)).trans ((Below.heap_alloc w9 _ E hE9l).trans hE9)
      obtain ⟨⟨s0, s1, s2, s3, s4⟩, _⟩ := cells5r hE11
      refine hK.out _ _ ?_ (fun hHeld => ?_)
      · first | exact ⟨by assumption, by assumption⟩ | (go_keep; done)
      clear hK K
      try simp only [Act.put, List.setIfInBounds_toArray, List.set_cons_zero, List.set_cons_succ]
      refine wpAnyH_take (i := 14) (v := ?_) rfl (by kernel_rfl) (by kernel_rfl) (by kernel_rfl) (fun _ _ _ h => h) (Or.inl ⟨by rfl, ?_⟩) (by assumption) ?_
      rotate_left
      · intro w hSw
        try dsimp only at hSw
        (go_simp; try with_reducible rfl)
      try simp only [Act.put, List.setIfInBounds_toArray, List.set_cons_zero, List.set_cons_succ]
      refine wpAnyH_take (i := 15) (v := ?_) rfl (by kernel_rfl) (by kernel_rfl) (by kernel_rfl) (fun _ _ _ h => h) (Or.inl ⟨by rfl, ?_⟩) (by assumption) ?_
      rotate_left
      · intro w hSw
        try dsimp only at hSw
        (go_simp; try with_reducible rfl)
      try simp only [Act.put, List.setIfInBounds_toArray, List.set_cons_zero, List.set_cons_succ]
      refine wpAnyH_ready (rs := [16]) (by kernel_rfl) (by simp) ?_
      refine AllReadyH.cons rfl (fun K hK => ?_) ?_
      rotate_left
      · exact AllReadyH.nil
      go_simp
      refine hK.out _ _ ?_ (fun hHeld => ?_)
      · exact ⟨(World.cell?_setCell_far _ _ _ _ (Ne.symm hEB)).trans s1, (World.cell?_setCell_far _ _ _ _ (Ne.symm hEB)).trans s2⟩
      clear hK K
      try simp only [Act.put, List.setIfInBounds_toArray, List.set_cons_zero, List.set_cons_succ]
      refine wpAnyH_done (by kernel_rfl) ?_ _
      refine NoPanic.normal ?_
      obtain ⟨hS7, hK79⟩ := SpN.push (pa := (i : Int)) (di := 0) (dat := dat) (dv := .slice ya dl yc) hN9 hN.out (by rw [HDL.out]; exact owned_base hy (by have := hB6.size; show base ≤ V6.heap.size; omega)) hg11 hbs9 ho11
      obtain ⟨_, hR7, hKw7⟩ := HVK.out _ ((KeepS.ofBelow hbb9).trans hK79)
      obtain ⟨⟨r0, r1⟩, rf⟩ := cells2r hR7
      have rf0 := rf 0
      have rf1 := rf 1
      obtain ⟨⟨z0, z1⟩, _⟩ := cells2r (set2r hR7 (.int .i64 0) (.slice none 0 0))
      have hSe : S = (⟨0, []⟩, s.put (i : Int) 0 (s.bag (i : Int) 0 ++ [dat])) := by first | (rw [HS.out, stepN, if_neg HK.out, if_neg HP.out, if_neg HK5.out, if_neg HK6.out, if_neg (by simp), if_pos rfl, sendN, if_neg (by have := HDL.out; simp only; omega), if_neg (by rw [hq.out]; exact HQ.out), if_neg (by rw [hm.out]; exact HF.out)]; done) | (rw [HS.out, stepN, if_neg HK.out, if_neg HP.out, if_neg HK5.out, if_neg HK6.out, if_neg (by simp), if_pos rfl, sendN, if_neg (by have := HDL.out; simp only; omega), if_neg (by rw [hq.out]; exact HQ.out), if_neg (by rw [hm.out]; exact HF.out)]; rfl)
      have HSE : Hid _ := hSe
      have HS7 : Hid _ := hS7
      have HR7 : Hid _ := hR7
      have HKW7 : Hid _ := hKw7
      clear rf hSe hS7 hR7 hKw7 hK79
      go_wp2_with fail
      refine bodyPost_ret (v := .agg #[.int .i64 0, .slice none 0 0]) (by simp [results, Try.results46, go_sem, z0, z1]) rfl ?_
      rw [HSE.out]
      exact ⟨_, I ++ [(⟨(i : Int), 0, dat, false⟩, .slice ya dl yc)], C, none, 0, rfl, HS7.out.fill HR7.out _ _, by simp, HKW7.out.fill HRW.out _ _, World.ownsRow_nil _ _ _ _⟩
    have HK1 : Hid _ := k1
    have b1 : (kd == 1) = false := by simpa using k1
    clear k1 hci hcf
    by_cases x0 : ix < 0
    · have d6 : decide (ix < 0) = true := by simpa using x0
      go_wp2_with fail
      refine (l3Code_any 7 w4).mono ?_
      rintro r w9 ⟨rfl, hb9⟩
      obtain ⟨_, _, _, hR9, _, hB9⟩ := HV.out w9 (hB4.trans (hb9.mono hB4.size))
      clear r0 r1 rf0 rf1
      obtain ⟨⟨r0, r1⟩, rf⟩ := cells2r hR9
      have rf0 := rf 0
      have rf1 := rf 1
      obtain ⟨⟨z0, z1⟩, _⟩ := cells2r (set2r hR9 (.int .i64 7) (.slice none 0 0))
      clear rf
      go_wp2_with fail
      exact bodyPost_ret (v := .agg #[.int .i64 7, .slice none 0 0]) (by simp [results, Try.results46, go_sem, z0, z1]) rfl (HFIN.out w9 7 hB9 hR9 (by rw [HS.out, stepN, if_neg HK.out, if_neg HP.out, if_neg HK5.out, if_neg HK6.out, if_neg (by simp), if_neg HK1.out, handleN, if_pos (.inl x0)]))
    have d6 : decide (ix < 0) = false := by simpa using x0
    by_cases xm : (m : Int) ≤ ix
    · have d7 : decide ((m : Int) ≤ ix) = true := by simpa using xm
      go_wp2_with fail
      refine (l3Code_any 7 w4).mono ?_
      rintro r w9 ⟨rfl, hb9⟩
      obtain ⟨_, _, _, hR9, _, hB9⟩ := HV.out w9 (hB4.trans (hb9.mono hB4.size))
      clear r0 r1 rf0 rf1
      obtain ⟨⟨r0, r1⟩, rf⟩ := cells2r hR9
      have rf0 := rf 0
      have rf1 := rf 1
      obtain ⟨⟨z0, z1⟩, _⟩ := cells2r (set2r hR9 (.int .i64 7) (.slice none 0 0))
      clear rf
      go_wp2_with fail
      exact bodyPost_ret (v := .agg #[.int .i64 7, .slice none 0 0]) (by simp [results, Try.results46, go_sem, z0, z1]) rfl (HFIN.out w9 7 hB9 hR9 (by rw [HS.out, stepN, if_neg HK.out, if_neg HP.out, if_neg HK5.out, if_neg HK6.out, if_neg (by simp), if_neg HK1.out, handleN, if_pos (.inr (by rw [hm.out]; exact xm))]))
    have d7 : decide ((m : Int) ≤ ix) = false := by simpa using xm
    obtain ⟨x, hx⟩ : ∃ x : Nat, ix = (x : Int) := ⟨ix.toNat, by omega⟩
    subst hx
    have hxm : x < m := by omega
    have hxi : (x : Int) < (m : Int) := by omega
    have HX : Hid (¬ ((x : Int) < 0 ∨ ((s.bag (i : Int) 0).length : Int) ≤ (x : Int))) := by unfold Hid; rw [hm.out]; omega
    clear x0 xm
    obtain ⟨j, it, j1, j2, j3, j4, j5⟩ := idxF_at (i : Int) 0 (I.map (·.1)) 0 x (by rw [h.bs, hm.out]; exact hxm)
    obtain ⟨iv, hiv⟩ : ∃ iv, I[j]? = some (it, iv) := by
      rw [List.getElem?_map, Option.map_eq_some_iff] at j2
      obtain ⟨⟨a, b⟩, h1, rfl⟩ := j2
      exact ⟨b, h1⟩
    rw [h.bs] at j3 j4
    obtain ⟨hjl, hje⟩ := List.getElem?_eq_some_iff.1 hiv
    have hjN : j < N := by rw [← hN.out]; exact hjl
    have hji : (j : Int) < (N : Int) := by omega
    rcases h.all.2 with ⟨e, _⟩ | ⟨ga, ac', cur, e, rest⟩
    · simp only [Value.slice.injEq] at e; omega
    simp only [Value.slice.injEq] at e
    obtain ⟨rfl, -, e9⟩ := e
    subst e9
    clear rest
    rcases hidx.2 with ⟨e, _⟩ | ⟨gx, xc', cur, e, rest⟩
    · simp only [Value.slice.injEq] at e; omega
    simp only [Value.slice.injEq] at e
    obtain ⟨rfl, -, e9⟩ := e
    subst e9
    clear rest
    have hgx := (hidx.lt gx rfl)
    have hix := (own_cell hidx (j := x) (x := .int .i64 (j : Int)) (by
      rw [List.getElem?_map, natI, List.getElem?_map, j1]; simp)).1
    obtain ⟨q0, q1, q2, q3⟩ := flatI_at hjl
    rw [hje] at q2 q3
    simp only at q2 q3
    have hdi := h.dat (it, iv) (List.mem_of_getElem? hiv)
    obtain ⟨ia, ic, hivs⟩ := own_shape hdi
    simp only at hivs
    subst hivs
    obtain ⟨tl, htl⟩ : ∃ tl, it.dat.length = tl := ⟨_, rfl⟩
    have htl6 : tl ≤ 64 := by rw [← htl, j3]; exact (hinv.get (i : Int) 0 x).1
    rw [htl] at q2
    have HIV : Hid (∀ V, SpN V B base n s (.slice (some ⟨gc, 0, none⟩) n cc) (.slice (some ⟨ga, 0, none⟩) N ac) C I → (V.cell? ⟨ga, j * 4 + 2, none⟩ = some (.slice ia tl ic) ∧ V.cell? ⟨ga, j * 4 + 3, none⟩ = some (.bool it.gone)) ∧ V.frozen? ⟨ga, j * 4 + 3, none⟩ = false ∧ Ints .u8 V ia it.dat) := by
      unfold Hid
      intro V hV
      have hall := hV.all
      rw [hN.out] at hall
      have hd9 := hV.dat (it, .slice ia it.dat.length ic) (List.mem_of_getElem? hiv)
      exact ⟨⟨(own_cell hall q2).1, (own_cell hall q3).1⟩, (own_cell hall q3).2, Ints.ofRow hd9⟩
    have HTL : Hid _ := htl
    have HJ3 : Hid _ := j3
    have HJ4 : Hid _ := j4
    have HJ5 : Hid _ := j5
    have HIJ : Hid _ := hiv
    have HGX : Hid (∀ V, Below w4.heap.size w4 V → V.cell? ⟨gx, x, none⟩ = some (.int .i64 (j : Int))) := fun V hV => (hV.cell (World.block_lt_of_cell? _ _ hix)).trans hix
    have hgx1 : W.heap.size ≤ gx := by have := hBV.size; omega
    clear j1 j2 j3 j4 j5 hiv htl hje hjl q0 q1 q2 q3 hdi
    obtain ⟨⟨v2, v3⟩, vf3, vi⟩ := HIV.out w4 hN4
    by_cases k4 : kd = 4
    · subst k4
      by_cases hf : 64 ≤ m
      · have d8 : decide (64 ≤ (m : Int)) = true := by rw [decide_eq_true_iff]; omega
        have HF : Hid _ := hf
        clear hf
        go_wp2_with fail
        refine (l3Code_any 9 w4).mono ?_
        rintro r w9 ⟨rfl, hb9⟩
        obtain ⟨_, _, _, hR9, _, hB9⟩ := HV.out w9 (hB4.trans (hb9.mono hB4.size))
        clear r0 r1 rf0 rf1
        obtain ⟨⟨r0, r1⟩, rf⟩ := cells2r hR9
        have rf0 := rf 0
        have rf1 := rf 1
        obtain ⟨⟨z0, z1⟩, _⟩ := cells2r (set2r hR9 (.int .i64 9) (.slice none 0 0))
        clear rf
        go_wp2_with fail
        exact bodyPost_ret (v := .agg #[.int .i64 9, .slice none 0 0]) (by simp [results, Try.results46, go_sem, z0, z1]) rfl (HFIN.out w9 9 hB9 hR9 (by rw [HS.out, stepN, if_neg HK.out, if_neg HP.out, if_neg HK5.out, if_neg HK6.out, if_neg (by simp), if_neg HK1.out, handleN, if_neg HX.out, if_neg (by simp), if_neg (by simp), if_pos (by rw [hm.out]; exact HF.out)]))
      have d8 : decide (64 ≤ (m : Int)) = false := by rw [decide_eq_false_iff_not]; omega
      have HF : Hid _ := hf
      clear hf
      go_upto_region 28 with fail
      go_quiet (fail)
      obtain ⟨V6, hV6⟩ : ∃ V6, V6 = w4.drewN nq := ⟨_, rfl⟩
      have hB6 : Below W.heap.size W V6 := by rw [hV6]; exact drewsN hB4 _
      rw [← hV6]
      clear hV6 e0 e1 e2 e3 e4 r0 r1 rf0 rf1 c0 c1 c2 cf0 cf1 cf2 v2 v3 vf3 vi hix
      obtain ⟨⟨e0, e1, e2, e3, e4⟩, ⟨⟨c0, c1, c2⟩, cf0, cf1, cf2⟩, hN6, hR6, hK6, hbw6⟩ := HV.out V6 hB6
      obtain ⟨⟨r0, r1⟩, rf⟩ := cells2r hR6
      have rf0 := rf 0
      have rf1 := rf 1
      clear rf
      obtain ⟨_, _, vi⟩ := HIV.out V6 hN6
      go_upto_region 29 with fail
      have LC := l1Copy_any ia it.dat tl ic V6.drew (vi.moved (Below.refl _ _).drew) HTL.out (by omega)
      have HN9 : Hid (∀ w9, Below V6.drew.heap.size V6.drew w9 → SpN w9 B base n s (.slice (some ⟨gc, 0, none⟩) n cc) (.slice (some ⟨ga, 0, none⟩) N ac) C I ∧ Below W.heap.size W w9) := by
        unfold Hid
        intro w9 hb9
        have hbb : Below W.heap.size W w9 := hB6.drew.trans (hb9.mono hB6.size)
        exact ⟨(HV.out w9 hbb).2.2.1, hbb⟩
      have x1 : V6.drew.cell? ⟨E, 1, none⟩ = some (.int .i64 (i : Int)) := e1
      have x2 : V6.drew.cell? ⟨E, 2, none⟩ = some (.int .i64 0) := e2
      have y2 : V6.drew.cell? ⟨B, 2, none⟩ = some (.slice (some ⟨ga, 0, none⟩) N ac) := c2
      clear r0 r1 rf0 rf1 c0 c1 cf0 cf1
      go_wp2_with fail
      refine wp_region_noPanic ?_
      refine wp_region_held_drew (S := fun w' => w'.cell? ⟨E, 1, none⟩ = some (.int .i64 (i : Int)) ∧ w'.cell? ⟨E, 2, none⟩ = some (.int .i64 0)) (by kernel_rfl) ⟨x1, x2⟩ (fun hHeld => ?_)
      refine wpAnyH_take (i := 0) (v := ?_) rfl (by kernel_rfl) (by kernel_rfl) (by kernel_rfl) (fun _ _ _ h => h) (Or.inl ⟨by rfl, ?_⟩) (by assumption) ?_
      rotate_left
      · intro w hSw
        try dsimp only at hSw
        (go_simp; try with_reducible rfl)
      try simp only [Act.put, List.setIfInBounds_toArray, List.set_cons_zero, List.set_cons_succ]
      refine wpAnyH_take (i := 1) (v := ?_) rfl (by kernel_rfl) (by kernel_rfl) (by kernel_rfl) (fun _ _ _ h => h) (Or.inl ⟨by rfl, ?_⟩) (by assumption) ?_
      rotate_left
      · intro w hSw
        try dsimp only at hSw
        (go_simp; try with_reducible rfl)
      try simp only [Act.put, List.setIfInBounds_toArray, List.set_cons_zero, List.set_cons_succ]
      refine wpAnyH_take (i := 2) (v := ?_) rfl (by kernel_rfl) (by kernel_rfl) (by kernel_rfl) (fun _ _ _ h => h) (Or.inl ⟨by rfl, ?_⟩) (by assumption) ?_
      rotate_left
      · intro w hSw
        try dsimp only at hSw
        (go_simp; try with_reducible rfl)
      try simp only [Act.put, List.setIfInBounds_toArray, List.set_cons_zero, List.set_cons_succ]
      refine wpAnyH_take (i := 3) (v := ?_) rfl (by kernel_rfl) (by kernel_rfl) (by kernel_rfl) (fun _ _ _ h => h) (Or.inl ⟨by rfl, ?_⟩) (by assumption) ?_
      rotate_left
      · intro w hSw
        try dsimp only at hSw
        (go_simp; try with_reducible rfl)
      try simp only [Act.put, List.setIfInBounds_toArray, List.set_cons_zero, List.set_cons_succ]
      refine wpAnyH_take (i := 5) (v := ?_) rfl (by kernel_rfl) (by kernel_rfl) (by kernel_rfl) (fun _ _ _ h => h) (Or.inl ⟨by rfl, ?_⟩) (by assumption) ?_
      rotate_left
      · intro w hSw
        try dsimp only at hSw
        (go_simp; try with_reducible rfl)
      try simp only [Act.put, List.setIfInBounds_toArray, List.set_cons_zero, List.set_cons_succ]
      refine wpAnyH_take (i := 6) (v := ?_) rfl (by kernel_rfl) (by kernel_rfl) (by kernel_rfl) (fun _ _ _ h => h) (Or.inl ⟨by rfl, ?_⟩) (by assumption) ?_
      rotate_left
      · intro w hSw
        try dsimp only at hSw
        (go_simp; try with_reducible rfl)
      try simp only [Act.put, List.setIfInBounds_toArray, List.set_cons_zero, List.set_cons_succ]
      refine wpAnyH_take (i := 7) (v := ?_) rfl (by kernel_rfl) (by kernel_rfl) (by kernel_rfl) (fun _ _ _ h => h) (Or.inl ⟨by rfl, ?_⟩) (by assumption) ?_
      rotate_left
      · intro w hSw
        try dsimp only at hSw
        (go_simp; try with_reducible rfl)
      try simp only [Act.put, List.setIfInBounds_toArray, List.set_cons_zero, List.set_cons_succ]
      refine wpAnyH_take (i := 8) (v := ?_) rfl (by kernel_rfl) (by kernel_rfl) (by kernel_rfl) (fun _ _ _ h => h) (Or.inl ⟨by rfl, ?_⟩) (by assumption) ?_
      rotate_left
      · intro w hSw
        try dsimp only at hSw
        (go_simp; try with_reducible rfl)
      try simp only [Act.put, List.setIfInBounds_toArray, List.set_cons_zero, List.set_cons_succ]
      refine wpAnyH_take (i := 9) (v := ?_) rfl (by kernel_rfl) (by kernel_rfl) (by kernel_rfl) (fun _ _ _ h => h) (Or.inl ⟨by rfl, ?_⟩) (by assumption) ?_
      rotate_left
      · intro w hSw
        try dsimp only at hSw
        (go_simp; try with_reducible rfl)
      try simp only [Act.put, List.setIfInBounds_toArray, List.set_cons_zero, List.set_cons_succ]
      refine wpAnyH_ready (rs := [4, 10]) (by kernel_rfl) (by simp) ?_
      refine AllReadyH.cons rfl (fun K hK => ?_) ?_
      · go_simp
        refine hK.out _ _ ?_ (fun hHeld => ?_)
        · first | exact ⟨by assumption, by assumption⟩ | (go_keep; done)
        clear hK K
        try simp only [Act.put, List.setIfInBounds_toArray, List.set_cons_zero, List.set_cons_succ]
        refine wpAnyH_ready (rs := [10]) (by kernel_rfl) (by simp) ?_
        refine AllReadyH.cons rfl (fun K hK => ?_) ?_
        rotate_left
        · exact AllReadyH.nil
        go_simp
        go_at_call 50
        with_reducible (refine Calls.mono LC ?_)
        rintro e w9 ⟨ya, yc, rfl, hy, hb9⟩
        obtain ⟨hN9, hbb9⟩ := HN9.out w9 hb9
        obtain ⟨⟨u0, u1, u2, u3, u4⟩, ⟨⟨v0, v1, v2⟩, vf0, vf1, vf2⟩, _⟩ := HV.out w9 hbb9
        have hB9l : B < w9.heap.size := hN9.lt
        have hBn : ¬ B = w9.heap.size := by omega
        have hE9 := HEB.out w9 hbb9
        have hE9l := (Array.getElem?_eq_some_iff.1 hE9).1
        have hall9 := hN9.all
        rw [hN.out] at hall9
        have hbs9 : base ≤ w9.heap.size := by have := hbb9.size; omega
        dsimp only
        refine hK.out _ _ ?_ (fun hHeld => ?_)
        · first | exact ⟨by assumption, by assumption⟩ | (go_keep; done)
        clear hK K
        try simp only [Act.put, List.setIfInBounds_toArray, List.set_cons_zero, List.set_cons_succ]
        refine wpAnyH_take (i := 11) (v := ?_) rfl (by kernel_rfl) (by kernel_rfl) (by kernel_rfl) (fun _ _ _ h => h) (Or.inl ⟨by rfl, ?_⟩) (by assumption) ?_
        rotate_left
        · intro w hSw
          try dsimp only at hSw
          (go_simp; try with_reducible rfl)
        try simp only [Act.put, List.setIfInBounds_toArray, List.set_cons_zero, List.set_cons_succ]
        refine wpAnyH_ready (rs := [12]) (by kernel_rfl) (by simp) ?_
        refine AllReadyH.cons rfl (fun K hK => ?_) ?_
        rotate_left
        · exact AllReadyH.nil
        go_simp
        refine hK.out _ _ ?_ (fun hHeld => ?_)
        · first | exact ⟨by assumption, by assumption⟩ | (go_keep; done)
        clear hK K
        try simp only [Act.put, List.setIfInBounds_toArray, List.set_cons_zero, List.set_cons_succ]
        refine wpAnyH_ready (rs := [13]) (by kernel_rfl) (by simp) ?_
        refine AllReadyH.cons rfl (fun K hK => ?_) ?_
        rotate_left
        · exact AllReadyH.nil
        refine step_appI (w9.alloc (.cells #[.int .i64 (i : Int), .int .i64 0, .slice ya tl yc, .bool false] 100)) (by rfl) _ _ (by rfl) base (some ⟨ga, 0, none⟩) N ac (flatI I) (by simp [Act.eval, Act.put]) (own_alloc hall9 _) w9.heap.size _ _ _ _ (by simp [Act.eval, Act.put]) (heap_alloc_new w9 _) (by simp [Value.oneCell']) (by omega) (by simp; omega) ?_
        intro g11 cap11 w11 ho11 hg11
        have hi11 := (hg11.block B (by simp; omega) (fun e => own_ne hall9 hN9.blk (by decide) e.symm)).trans ((Below.heap_alloc w9 _ B hB9l).trans hN9.blk)
        have t2 := Go.Joins.cell_of_block hi11 2
        have tf := Go.Joins.unfrozen_of_block hi11 2
        have hE11 := (hg11.block E (by simp; omega) (fun e => own_ne hall9 hE9 (by decide) e.symm)).trans ((Below.heap_alloc w9 _ E hE9l).trans hE9)
        obtain ⟨⟨s0, s1, s2, s3, s4⟩, _⟩ := cells5r hE11
        refine hK.out _ _ ?_ (fun hHeld => ?_)
        · first | exact ⟨by assumption, by assumption⟩ | (go_keep; done)
        clear hK K
        try simp only [Act.put, List.setIfInBounds_toArray, List.set_cons_zero, List.set_cons_succ]
        refine wpAnyH_take (i := 14) (v := ?_) rfl (by kernel_rfl) (by kernel_rfl) (by kernel_rfl) (fun _ _ _ h => h) (Or.inl ⟨by rfl, ?_⟩) (by assumption) ?_
        rotate_left
        · intro w hSw
          try dsimp only at hSw
          (go_simp; try with_reducible rfl)
        try simp only [Act.put, List.setIfInBounds_toArray, List.set_cons_zero, List.set_cons_succ]
        refine wpAnyH_take (i := 15) (v := ?_) rfl (by kernel_rfl) (by kernel_rfl) (by kernel_rfl) (fun _ _ _ h => h) (Or.inl ⟨by rfl, ?_⟩) (by assumption) ?_
        rotate_left
        · intro w hSw
          try dsimp only at hSw
          (go_simp; try with_reducible rfl)
        try simp only [Act.put, List.setIfInBounds_toArray, List.set_cons_zero, List.set_cons_succ]
        refine wpAnyH_ready (rs := [16]) (by kernel_rfl) (by simp) ?_
        refine AllReadyH.cons rfl (fun K hK => ?_) ?_
        rotate_left
        · exact AllReadyH.nil
        go_simp
        refine hK.out _ _ ?_ (fun hHeld => ?_)
        · exact ⟨(World.cell?_setCell_far _ _ _ _ (Ne.symm hEB)).trans s1, (World.cell?_setCell_far _ _ _ _ (Ne.symm hEB)).trans s2⟩
        clear hK K
        try simp only [Act.put, List.setIfInBounds_toArray, List.set_cons_zero, List.set_cons_succ]
        refine wpAnyH_done (by kernel_rfl) ?_ _
        refine NoPanic.normal ?_
        obtain ⟨hS7, hK79⟩ := SpN.push (pa := (i : Int)) (di := 0) (dat := it.dat) (dv := .slice ya tl yc) hN9 hN.out (by rw [HTL.out]; exact owned_base hy (by have := hB6.size; show base ≤ V6.heap.size; omega)) hg11 hbs9 ho11
        obtain ⟨_, hR7, hKw7⟩ := HVK.out _ ((KeepS.ofBelow hbb9).trans hK79)
        obtain ⟨⟨r0, r1⟩, rf⟩ := cells2r hR7
        have rf0 := rf 0
        have rf1 := rf 1
        obtain ⟨⟨z0, z1⟩, _⟩ := cells2r (set2r hR7 (.int .i64 0) (.slice none 0 0))
        have hSe : S = (⟨0, []⟩, s.put (i : Int) 0 (s.bag (i : Int) 0 ++ [it.dat])) := by first | (rw [HS.out, stepN, if_neg HK.out, if_neg HP.out, if_neg HK5.out, if_neg HK6.out, if_neg (by simp), if_neg HK1.out, handleN, if_neg HX.out, if_neg (by simp), if_neg (by simp), if_neg (by rw [hm.out]; exact HF.out), HJ3.out]; done) | (rw [HS.out, stepN, if_neg HK.out, if_neg HP.out, if_neg HK5.out, if_neg HK6.out, if_neg (by simp), if_neg HK1.out, handleN, if_neg HX.out, if_neg (by simp), if_neg (by simp), if_neg (by rw [hm.out]; exact HF.out), HJ3.out]; rfl)
        have HSE : Hid _ := hSe
        have HS7 : Hid _ := hS7
        have HR7 : Hid _ := hR7
        have HKW7 : Hid _ := hKw7
        clear rf hSe hS7 hR7 hKw7 hK79
        go_wp2_with fail
        refine bodyPost_ret (v := .agg #[.int .i64 0, .slice none 0 0]) (by simp [results, Try.results46, go_sem, z0, z1]) rfl ?_
        rw [HSE.out]
        exact ⟨_, I ++ [(⟨(i : Int), 0, it.dat, false⟩, .slice ya tl yc)], C, none, 0, rfl, HS7.out.fill HR7.out _ _, by simp, HKW7.out.fill HRW.out _ _, World.ownsRow_nil _ _ _ _⟩
      refine AllReadyH.cons rfl (fun K hK => ?_) AllReadyH.nil
      go_simp
      go_at_call 50
      with_reducible (refine Calls.mono LC ?_)
      rintro e w9 ⟨ya, yc, rfl, hy, hb9⟩
      obtain ⟨hN9, hbb9⟩ := HN9.out w9 hb9
      obtain ⟨⟨u0, u1, u2, u3, u4⟩, ⟨⟨v0, v1, v2⟩, vf0, vf1, vf2⟩, _⟩ := HV.out w9 hbb9
      have hB9l : B < w9.heap.size := hN9.lt
      have hBn : ¬ B = w9.heap.size := by omega
      have hE9 := HEB.out w9 hbb9
      have hE9l := (Array.getElem?_eq_some_iff.1 hE9).1
      have hall9 := hN9.all
      rw [hN.out] at hall9
      have hbs9 : base ≤ w9.heap.size := by have := hbb9.size; omega
      dsimp only
      refine hK.out _ _ ?_ (fun hHeld => ?_)
      · first | exact ⟨by assumption, by assumption⟩ | (go_keep; done)
      clear hK K
      try simp only [Act.put, List.setIfInBounds_toArray, List.set_cons_zero, List.set_cons_succ]
      refine wpAnyH_take (i := 11) (v := ?_) rfl (by kernel_rfl) (by kernel_rfl) (by kernel_rfl) (fun _ _ _ h => h) (Or.inl ⟨by rfl, ?_⟩) (by assumption) ?_
      rotate_left
      · intro w hSw
        try dsimp only at hSw
        (go_simp; try with_reducible rfl)
      try simp only [Act.put, List.setIfInBounds_toArray, List.set_cons_zero, List.set_cons_succ]
      refine wpAnyH_ready (rs := [4, 12]) (by kernel_rfl) (by simp) ?_
      refine AllReadyH.cons rfl (fun K hK => ?_) ?_
      · go_simp
        refine hK.out _ _ ?_ (fun hHeld => ?_)
        · first | exact ⟨by assumption, by assumption⟩ | (go_keep; done)
        clear hK K
        try simp only [Act.put, List.setIfInBounds_toArray, List.set_cons_zero, List.set_cons_succ]
        refine wpAnyH_ready (rs := [12]) (by kernel_rfl) (by simp) ?_
        refine AllReadyH.cons rfl (fun K hK => ?_) ?_
        rotate_left
        · exact AllReadyH.nil
        go_simp
        refine hK.out _ _ ?_ (fun hHeld => ?_)
        · first | exact ⟨by assumption, by assumption⟩ | (go_keep; done)
        clear hK K
        try simp only [Act.put, List.setIfInBounds_toArray, List.set_cons_zero, List.set_cons_succ]
        refine wpAnyH_ready (rs := [13]) (by kernel_rfl) (by simp) ?_
        refine AllReadyH.cons rfl (fun K hK => ?_) ?_
        rotate_left
        · exact AllReadyH.nil
        refine step_appI (w9.alloc (.cells #[.int .i64 (i : Int), .int .i64 0, .slice ya tl yc, .bool false] 100)) (by rfl) _ _ (by rfl) base (some ⟨ga, 0, none⟩) N ac (flatI I) (by simp [Act.eval, Act.put]) (own_alloc hall9 _) w9.heap.size _ _ _ _ (by simp [Act.eval, Act.put]) (heap_alloc_new w9 _) (by simp [Value.oneCell']) (by omega) (by simp; omega) ?_
        intro g11 cap11 w11 ho11 hg11
        have hi11 := (hg11.block B (by simp; omega) (fun e => own_ne hall9 hN9.blk (by decide) e.symm)).trans ((Below.heap_alloc w9 _ B hB9l).trans hN9.blk)
        have t2 := Go.Joins.cell_of_block hi11 2
        have tf := Go.Joins.unfrozen_of_block hi11 2
        have hE11 := (hg11.block E (by simp; omega) (fun e => own_ne hall9 hE9 (by decide) e.symm)).trans ((Below.heap_alloc w9 _ E hE9l).trans hE9)
        obtain ⟨⟨s0, s1, s2, s3, s4⟩, _⟩ := cells5r hE11
        refine hK.out _ _ ?_ (fun hHeld => ?_)
        · first | exact ⟨by assumption, by assumption⟩ | (go_keep; done)
        clear hK K
        try simp only [Act.put, List.setIfInBounds_toArray, List.set_cons_zero, List.set_cons_succ]
        refine wpAnyH_take (i := 14) (v := ?_) rfl (by kernel_rfl) (by kernel_rfl) (by kernel_rfl) (fun _ _ _ h => h) (Or.inl ⟨by rfl, ?_⟩) (by assumption) ?_
        rotate_left
        · intro w hSw
          try dsimp only at hSw
          (go_simp; try with_reducible rfl)
        try simp only [Act.put, List.setIfInBounds_toArray, List.set_cons_zero, List.set_cons_succ]
        refine wpAnyH_take (i := 15) (v := ?_) rfl (by kernel_rfl) (by kernel_rfl) (by kernel_rfl) (fun _ _ _ h => h) (Or.inl ⟨by rfl, ?_⟩) (by assumption) ?_
        rotate_left
        · intro w hSw
          try dsimp only at hSw
          (go_simp; try with_reducible rfl)
        try simp only [Act.put, List.setIfInBounds_toArray, List.set_cons_zero, List.set_cons_succ]
        refine wpAnyH_ready (rs := [16]) (by kernel_rfl) (by simp) ?_
        refine AllReadyH.cons rfl (fun K hK => ?_) ?_
        rotate_left
        · exact AllReadyH.nil
        go_simp
        refine hK.out _ _ ?_ (fun hHeld => ?_)
        · exact ⟨(World.cell?_setCell_far _ _ _ _ (Ne.symm hEB)).trans s1, (World.cell?_setCell_far _ _ _ _ (Ne.symm hEB)).trans s2⟩
        clear hK K
        try simp only [Act.put, List.setIfInBounds_toArray, List.set_cons_zero, List.set_cons_succ]
        refine wpAnyH_done (by kernel_rfl) ?_ _
        refine NoPanic.normal ?_
        obtain ⟨hS7, hK79⟩ := SpN.push (pa := (i : Int)) (di := 0) (dat := it.dat) (dv := .slice ya tl yc) hN9 hN.out (by rw [HTL.out]; exact owned_base hy (by have := hB6.size; show base ≤ V6.heap.size; omega)) hg11 hbs9 ho11
        obtain ⟨_, hR7, hKw7⟩ := HVK.out _ ((KeepS.ofBelow hbb9).trans hK79)
        obtain ⟨⟨r0, r1⟩, rf⟩ := cells2r hR7
        have rf0 := rf 0
        have rf1 := rf 1
        obtain ⟨⟨z0, z1⟩, _⟩ := cells2r (set2r hR7 (.int .i64 0) (.slice none 0 0))
        have hSe : S = (⟨0, []⟩, s.put (i : Int) 0 (s.bag (i : Int) 0 ++ [it.dat])) := by first | (rw [HS.out, stepN, if_neg HK.out, if_neg HP.out, if_neg HK5.out, if_neg HK6.out, if_neg (by simp), if_neg HK1.out, handleN, if_neg HX.out, if_neg (by simp), if_neg (by simp), if_neg (by rw [hm.out]; exact HF.out), HJ3.out]; done) | (rw [HS.out, stepN, if_neg HK.out, if_neg HP.out, if_neg HK5.out, if_neg HK6.out, if_neg (by simp), if_neg HK1.out, handleN, if_neg HX.out, if_neg (by simp), if_neg (by simp), if_neg (by rw [hm.out]; exact HF.out), HJ3.out]; rfl)
        have HSE : Hid _ := hSe
        have HS7 : Hid _ := hS7
        have HR7 : Hid _ := hR7
        have HKW7 : Hid _ := hKw7
        clear rf hSe hS7 hR7 hKw7 hK79
        go_wp2_with fail
        refine bodyPost_ret (v := .agg #[.int .i64 0, .slice none 0 0]) (by simp [results, Try.results46, go_sem, z0, z1]) rfl ?_
        rw [HSE.out]
        exact ⟨_, I ++ [(⟨(i : Int), 0, it.dat, false⟩, .slice ya tl yc)], C, none, 0, rfl, HS7.out.fill HR7.out _ _, by simp, HKW7.out.fill HRW.out _ _, World.ownsRow_nil _ _ _ _⟩
      refine AllReadyH.cons rfl (fun K hK => ?_) AllReadyH.nil
      go_simp
      refine hK.out _ _ ?_ (fun hHeld => ?_)
      · first | exact ⟨by assumption, by assumption⟩ | (go_keep; done)
      clear hK K
      try simp only [Act.put, List.setIfInBounds_toArray, List.set_cons_zero, List.set_cons_succ]
      refine wpAnyH_ready (rs := [4]) (by kernel_rfl) (by simp) ?_
      refine AllReadyH.cons rfl (fun K hK => ?_) ?_
      rotate_left
      · exact AllReadyH.nil
      go_simp
      refine hK.out _ _ ?_ (fun hHeld => ?_)
      · first | exact ⟨by assumption, by assumption⟩ | (go_keep; done)
      clear hK K
      try simp only [Act.put, List.setIfInBounds_toArray, List.set_cons_zero, List.set_cons_succ]
      refine wpAnyH_ready (rs := [13]) (by kernel_rfl) (by simp) ?_
      refine AllReadyH.cons rfl (fun K hK => ?_) ?_
      rotate_left
      · exact AllReadyH.nil
      refine step_appI (w9.alloc (.cells #[.int .i64 (i : Int), .int .i64 0, .slice ya tl yc, .bool false] 100)) (by rfl) _ _ (by rfl) base (some ⟨ga, 0, none⟩) N ac (flatI I) (by simp [Act.eval, Act.put]) (own_alloc hall9 _) w9.heap.size _ _ _ _ (by simp [Act.eval, Act.put]) (heap_alloc_new w9 _) (by simp [Value.oneCell']) (by omega) (by simp; omega) ?_
      intro g11 cap11 w11 ho11 hg11
      have hi11 := (hg11.block B (by simp; omega) (fun e => own_ne hall9 hN9.blk (by decide) e.symm)).trans ((Below.heap_alloc w9 _ B hB9l).trans hN9.blk)
      have t2 := Go.Joins.cell_of_block hi11 2
      have tf := Go.Joins.unfrozen_of_block hi11 2
      have hE11 := (hg11.block E (by simp; omega) (fun e => own_ne hall9 hE9 (by decide) e.symm)).trans ((Below.heap_alloc w9 _ E hE9l).trans hE9)
      obtain ⟨⟨s0, s1, s2, s3, s4⟩, _⟩ := cells5r hE11
      refine hK.out _ _ ?_ (fun hHeld => ?_)
      · first | exact ⟨by assumption, by assumption⟩ | (go_keep; done)
      clear hK K
      try simp only [Act.put, List.setIfInBounds_toArray, List.set_cons_zero, List.set_cons_succ]
      refine wpAnyH_take (i := 14) (v := ?_) rfl (by kernel_rfl) (by kernel_rfl) (by kernel_rfl) (fun _ _ _ h => h) (Or.inl ⟨by rfl, ?_⟩) (by assumption) ?_
      rotate_left
      · intro w hSw
        try dsimp only at hSw
        (go_simp; try with_reducible rfl)
      try simp only [Act.put, List.setIfInBounds_toArray, List.set_cons_zero, List.set_cons_succ]
      refine wpAnyH_take (i := 15) (v := ?_) rfl (by kernel_rfl) (by kernel_rfl) (by kernel_rfl) (fun _ _ _ h => h) (Or.inl ⟨by rfl, ?_⟩) (by assumption) ?_
      rotate_left
      · intro w hSw
        try dsimp only at hSw
        (go_simp; try with_reducible rfl)
      try simp only [Act.put, List.setIfInBounds_toArray, List.set_cons_zero, List.set_cons_succ]
      refine wpAnyH_ready (rs := [16]) (by kernel_rfl) (by simp) ?_
      refine AllReadyH.cons rfl (fun K hK => ?_) ?_
      rotate_left
      · exact AllReadyH.nil
      go_simp
      refine hK.out _ _ ?_ (fun hHeld => ?_)
      · exact ⟨(World.cell?_setCell_far _ _ _ _ (Ne.symm hEB)).trans s1, (World.cell?_setCell_far _ _ _ _ (Ne.symm hEB)).trans s2⟩
      clear hK K
      try simp only [Act.put, List.setIfInBounds_toArray, List.set_cons_zero, List.set_cons_succ]
      refine wpAnyH_done (by kernel_rfl) ?_ _
      refine NoPanic.normal ?_
      obtain ⟨hS7, hK79⟩ := SpN.push (pa := (i : Int)) (di := 0) (dat := it.dat) (dv := .slice ya tl yc) hN9 hN.out (by rw [HTL.out]; exact owned_base hy (by have := hB6.size; show base ≤ V6.heap.size; omega)) hg11 hbs9 ho11
      obtain ⟨_, hR7, hKw7⟩ := HVK.out _ ((KeepS.ofBelow hbb9).trans hK79)
      obtain ⟨⟨r0, r1⟩, rf⟩ := cells2r hR7
      have rf0 := rf 0
      have rf1 := rf 1
      obtain ⟨⟨z0, z1⟩, _⟩ := cells2r (set2r hR7 (.int .i64 0) (.slice none 0 0))
      have hSe : S = (⟨0, []⟩, s.put (i : Int) 0 (s.bag (i : Int) 0 ++ [it.dat])) := by first | (rw [HS.out, stepN, if_neg HK.out, if_neg HP.out, if_neg HK5.out, if_neg HK6.out, if_neg (by simp), if_neg HK1.out, handleN, if_neg HX.out, if_neg (by simp), if_neg (by simp), if_neg (by rw [hm.out]; exact HF.out), HJ3.out]; done) | (rw [HS.out, stepN, if_neg HK.out, if_neg HP.out, if_neg HK5.out, if_neg HK6.out, if_neg (by simp), if_neg HK1.out, handleN, if_neg HX.out, if_neg (by simp), if_neg (by simp), if_neg (by rw [hm.out]; exact HF.out), HJ3.out]; rfl)
      have HSE : Hid _ := hSe
      have HS7 : Hid _ := hS7
      have HR7 : Hid _ := hR7
      have HKW7 : Hid _ := hKw7
      clear rf hSe hS7 hR7 hKw7 hK79
      go_wp2_with fail
      refine bodyPost_ret (v := .agg #[.int .i64 0, .slice none 0 0]) (by simp [results, Try.results46, go_sem, z0, z1]) rfl ?_
      rw [HSE.out]
      exact ⟨_, I ++ [(⟨(i : Int), 0, it.dat, false⟩, .slice ya tl yc)], C, none, 0, rfl, HS7.out.fill HR7.out _ _, by simp, HKW7.out.fill HRW.out _ _, World.ownsRow_nil _ _ _ _⟩
    have HK4 : Hid _ := k4
    have b4 : (kd == 4) = false := by simpa using k4
    have HGV : Hid (∀ V, SpN V B base n s (.slice (some ⟨gc, 0, none⟩) n cc) (.slice (some ⟨ga, 0, none⟩) N ac) C I → SpN (V.setCell ⟨ga, j * 4 + 3, none⟩ (.bool true)) B base n (s.put (i : Int) 0 ((s.bag (i : Int) 0).eraseIdx x)) (.slice (some ⟨gc, 0, none⟩) n cc) (.slice (some ⟨ga, 0, none⟩) N ac) C (I.set j (goneI it, .slice ia it.dat.length ic)) ∧ KeepS V (V.setCell ⟨ga, j * 4 + 3, none⟩ (.bool true)) B base) := by
      unfold Hid
      intro V hV
      obtain ⟨g1, g2⟩ := SpN.gone hV hN.out HIJ.out
      refine ⟨g1.as (fun _ _ => rfl) fun p d => ?_, g2⟩
      simp only [NS.put, List.map_set]
      by_cases e : p = (i : Int) ∧ d = 0
      · obtain ⟨rfl, rfl⟩ := e
        rw [if_pos ⟨rfl, rfl⟩, HJ4.out]
      · rw [if_neg e, HJ5.out p d e, h.bs]
    clear k4
    go_upto_region 31 with fail
    go_region
    obtain ⟨V8, hV8⟩ : ∃ V8, V8 = (w4.setCell ⟨ga, j * 4 + 3, none⟩ (.bool true)).drew := ⟨_, rfl⟩
    have hN8 : SpN V8 B base n (s.put (i : Int) 0 ((s.bag (i : Int) 0).eraseIdx x)) (.slice (some ⟨gc, 0, none⟩) n cc) (.slice (some ⟨ga, 0, none⟩) N ac) C (I.set j (goneI it, .slice ia it.dat.length ic)) := by rw [hV8]; exact (HGV.out w4 hN4).1.drew
    have hK8 : KeepS W V8 B base := by
      have := (KeepS.ofBelow (B := B) (base := base) hB4).trans (HGV.out w4 hN4).2
      rw [hV8]
      exact ⟨this.os, this.tape, this.output, this.size, this.block⟩
    have hx8 : V8.cell? ⟨gx, x, none⟩ = some (.int .i64 (j : Int)) := by
      obtain ⟨ci, hci⟩ := row_block hidx rfl
      have hall := hN4.all
      obtain ⟨cj, hcj⟩ := row_block hall rfl
      rw [hV8]
      exact (World.cell?_of_block (w := w4) (w' := (w4.setCell ⟨ga, j * 4 + 3, none⟩ (.bool true)).drew) (a := ⟨gx, x, none⟩) (heap_setCell_other _ _ _ _ (type_ne hci hcj (by decide)))).trans hix
    have hjs : j < (I.set j (goneI it, .slice ia it.dat.length ic)).length := by rw [List.length_set, hN.out]; exact hjN
    have hl8 : (I.set j (goneI it, .slice ia it.dat.length ic)).length = N := by rw [List.length_set]; exact hN.out
    have hv8 : V8.cell? ⟨ga, j * 4 + 2, none⟩ = some (.slice ia tl ic) := by
      have hall := hN8.all
      rw [hl8] at hall
      obtain ⟨_, _, q2, _⟩ := flatI_at hjs
      rw [List.getElem_set_self] at q2
      exact (own_cell hall q2).1.trans (by rw [HTL.out])
    have hi8 : Ints .u8 V8 ia it.dat := Ints.ofRow (hN8.dat (goneI it, .slice ia it.dat.length ic) (List.mem_of_getElem? (by rw [List.getElem?_set_self (by rw [hN.out]; exact hjN)])))
    rw [← hV8]
    clear hV8 hix e0 e1 e2 e3 e4 r0 r1 rf0 rf1 c0 c1 c2 cf0 cf1 cf2 v2 v3 vf3 vi hjs HGV
    obtain ⟨⟨e0, e1, e2, e3, e4⟩, hR8, hKw8⟩ := HVK.out V8 hK8
    obtain ⟨⟨c0, c1, c2⟩, cf0, cf1, cf2⟩ := hN8.cells
    obtain ⟨⟨r0, r1⟩, rf⟩ := cells2r hR8
    have rf0 := rf 0
    have rf1 := rf 1
    clear rf
    by_cases k3 : kd = 3
    · subst k3
      have hSe : S = (⟨0, []⟩, s.put (i : Int) 0 ((s.bag (i : Int) 0).eraseIdx x)) := by first | (rw [HS.out, stepN, if_neg HK.out, if_neg HP.out, if_neg HK5.out, if_neg HK6.out, if_neg (by simp), if_neg HK1.out, handleN, if_neg HX.out, if_neg (by simp), if_pos rfl]; done) | (rw [HS.out, stepN, if_neg HK.out, if_neg HP.out, if_neg HK5.out, if_neg HK6.out, if_neg (by simp), if_neg HK1.out, handleN, if_neg HX.out, if_neg (by simp), if_pos rfl]; rfl)
      have HSE : Hid _ := hSe
      clear hSe
      obtain ⟨⟨z0, z1⟩, _⟩ := cells2r (set2r hR8 (.int .i64 0) (.slice none 0 0))
      go_wp2_with fail
      refine bodyPost_ret (v := .agg #[.int .i64 0, .slice none 0 0]) (by simp [results, Try.results46, go_sem, z0, z1]) rfl ?_
      rw [HSE.out]
      exact ⟨_, I.set j (goneI it, .slice ia it.dat.length ic), C, none, 0, rfl, hN8.fill hR8 _ _, by rw [List.length_set]; omega, hKw8.fill HRW.out _ _, World.ownsRow_nil _ _ _ _⟩
    have b3 : (kd == 3) = false := by simpa using k3
    have hk2 : kd = 2 := by have h1 : ¬ (kd < 1 ∨ 6 < kd) := HK.out; have h2 : ¬ kd = 1 := HK1.out; have h4 : ¬ kd = 4 := HK4.out; have h5 : ¬ kd = 5 := HK5.out; have h6 : ¬ kd = 6 := HK6.out; omega
    subst hk2
    have hSe : S = (⟨0, it.dat⟩, s.put (i : Int) 0 ((s.bag (i : Int) 0).eraseIdx x)) := by first | (rw [HS.out, stepN, if_neg HK.out, if_neg HP.out, if_neg HK5.out, if_neg HK6.out, if_neg (by simp), if_neg HK1.out, handleN, if_neg HX.out, if_pos rfl, HJ3.out]; done) | (rw [HS.out, stepN, if_neg HK.out, if_neg HP.out, if_neg HK5.out, if_neg HK6.out, if_neg (by simp), if_neg HK1.out, handleN, if_neg HX.out, if_pos rfl, HJ3.out]; rfl)
    have HSE : Hid _ := hSe
    clear hSe k3
    have LC := l1Copy_any ia it.dat tl ic V8.drew (hi8.moved (Below.refl _ _).drew) HTL.out (by omega)
    have HR8 : Hid (∀ w9, Below V8.drew.heap.size V8.drew w9 → (w9.cell? ⟨E, 3, none⟩ = some (.int .i64 (x : Int)) ∧ w9.cell? ⟨B, 2, none⟩ = some (.slice (some ⟨ga, 0, none⟩) N ac) ∧ w9.cell? ⟨gx, x, none⟩ = some (.int .i64 (j : Int)) ∧ w9.cell? ⟨ga, j * 4 + 2, none⟩ = some (.slice ia tl ic)) ∧ w9.heap[R]? = some (.cells #[.int .i64 0, .slice none 0 0] 37 (0, 0)) ∧ KeepS w w9 B base ∧ SpN w9 B base n (s.put (i : Int) 0 ((s.bag (i : Int) 0).eraseIdx x)) (.slice (some ⟨gc, 0, none⟩) n cc) (.slice (some ⟨ga, 0, none⟩) N ac) C (I.set j (goneI it, .slice ia it.dat.length ic))) := by
      unfold Hid
      intro w9 hb9
      have hb8 : Below V8.heap.size V8 w9 := ⟨hb9.os, hb9.tape, hb9.output, hb9.size, hb9.block⟩
      exact ⟨⟨(hb8.cell (World.block_lt_of_cell? _ _ e3)).trans e3, (hb8.cell (World.block_lt_of_cell? _ _ c2)).trans c2, (hb8.cell (World.block_lt_of_cell? _ _ hx8)).trans hx8, (hb8.cell (World.block_lt_of_cell? _ _ hv8)).trans hv8⟩, (hb8.block R (Array.getElem?_eq_some_iff.1 hR8).1).trans hR8, hKw8.trans (KeepS.ofBelow hb8), hN8.moved hb8⟩
    have s1 : V8.drew.cell? ⟨E, 3, none⟩ = some (.int .i64 (x : Int)) := e3
    have s2 : V8.drew.cell? ⟨B, 2, none⟩ = some (.slice (some ⟨ga, 0, none⟩) N ac) := c2
    have s3 : V8.drew.cell? ⟨gx, x, none⟩ = some (.int .i64 (j : Int)) := hx8
    have s4 : V8.drew.cell? ⟨ga, j * 4 + 2, none⟩ = some (.slice ia tl ic) := hv8
    have hsz8 : w.heap.size ≤ V8.drew.heap.size := hKw8.size
    have HCO : Hid (∀ (V : World) (k o : Nat) (a b : Value), k ≠ R → ((V.setCell ⟨R, 0, none⟩ a).setCell ⟨R, 1, none⟩ b).cell? ⟨k, o, none⟩ = V.cell? ⟨k, o, none⟩) := fun V k o a b hk => World.cell?_of_block (fill2_other V hk a b)
    have hgR : gx ≠ R := by omega
    have haR : ga ≠ R := by
      obtain ⟨cj, hcj⟩ := row_block hN8.all rfl
      exact type_ne hcj hR8 (by decide)
    go_upto_region 34 with fail
    go_region_held3 (fun w' => w'.cell? ⟨E, 3, none⟩ = some (.int .i64 (x : Int)) ∧ w'.cell? ⟨B, 2, none⟩ = some (.slice (some ⟨ga, 0, none⟩) N ac) ∧ w'.cell? ⟨gx, x, none⟩ = some (.int .i64 (j : Int)) ∧ w'.cell? ⟨ga, j * 4 + 2, none⟩ = some (.slice ia tl ic))
      (first | exact ⟨by assumption, by assumption, by assumption, by assumption⟩ | (go_keep; done) | exact HSR.out _ _)
      (first
        | (go_at_call 50; with_reducible (refine Calls.mono LC ?_); rintro e w9 ⟨ya, yc, rfl, hy, hb9⟩; obtain ⟨⟨t1, t2, t3, t4⟩, hR9, hKw9, hN9⟩ := HR8.out w9 hb9; obtain ⟨⟨u0, u1⟩, uf⟩ := cells2r hR9; have uf0 := uf 0; have uf1 := uf 1; have HSR : Hid (∀ a b, (fun w' : World => w'.cell? ⟨E, 3, none⟩ = some (.int .i64 (x : Int)) ∧ w'.cell? ⟨B, 2, none⟩ = some (.slice (some ⟨ga, 0, none⟩) N ac) ∧ w'.cell? ⟨gx, x, none⟩ = some (.int .i64 (j : Int)) ∧ w'.cell? ⟨ga, j * 4 + 2, none⟩ = some (.slice ia tl ic)) ((w9.setCell ⟨R, 0, none⟩ a).setCell ⟨R, 1, none⟩ b)) := (by unfold Hid; exact fun a b => ⟨(HCO.out w9 E 3 a b hER).trans t1, (HCO.out w9 B 2 a b (Ne.symm hRB)).trans t2, (HCO.out w9 gx x a b hgR).trans t3, (HCO.out w9 ga (j * 4 + 2) a b haR).trans t4⟩)))
    obtain ⟨⟨z0, z1⟩, _⟩ := cells2r (set2r hR9 (.int .i64 0) (.slice ya tl yc))
    have HR9 : Hid _ := hR9
    clear hR9 uf u0 u1 uf0 uf1 t1 t2 t3 t4 HSR
    go_wp2_with fail
    refine bodyPost_ret (v := .agg #[.int .i64 0, .slice ya tl yc]) (by simp [results, Try.results46, go_sem, z0, z1]) rfl ?_
    have hyR := row_stays (w' := (w9.setCell ⟨R, 0, none⟩ (.int .i64 0)).setCell ⟨R, 1, none⟩ (.slice ya tl yc)) (owned_base hy hsz8) (fun k hk => fill2_other _ (by
      obtain ⟨ck, hck⟩ := row_block hy hk
      exact type_ne hck HR9.out (by decide)) _ _)
    rw [HSE.out]
    refine ⟨.slice (some ⟨ga, 0, none⟩) N ac, I.set j (goneI it, .slice ia it.dat.length ic), C, ya, yc, by rw [← HTL.out], hN9.fill HR9.out _ _, by rw [List.length_set]; omega, hKw9.fill HRW.out _ _, ?_⟩
    rw [HTL.out]
    exact hyR
  · clear hdd
    subst hD
    have hfl := l3Flight_any V B base n s (.slice (some ⟨gc, 0, none⟩) n cc) (.slice aa N ac) C I hNV (by have := HI.out; omega) (i : Int) 1
    obtain ⟨m, hm⟩ : ∃ m, Hid ((s.bag (i : Int) 1).length = m) := ⟨_, rfl⟩
    have hm64 : m ≤ 64 := by rw [← hm.out]; exact hinv.len _ _
    rw [hm.out] at hfl
    go_upto_region 15 with fail
    go_wp2_with fail
    refine hfl.mono ?_
    rintro r w4 ⟨xa, xc, rfl, hidx, hb4⟩
    have hB4 : Below W.heap.size W w4 := hBV.trans (hb4.mono hBV.size)
    clear e0 e1 e2 e3 e4 r0 r1 rf0 rf1 c0 c1 c2 cf0 cf1 cf2 hci hcf hfl
    obtain ⟨⟨e0, e1, e2, e3, e4⟩, ⟨⟨c0, c1, c2⟩, cf0, cf1, cf2⟩, hN4, hR4, hK4, hbw4⟩ := HV.out w4 hB4
    obtain ⟨⟨r0, r1⟩, rf⟩ := cells2r hR4
    have rf0 := rf 0
    have rf1 := rf 1
    clear rf
    obtain ⟨q, hq⟩ : ∃ q, Hid (s.cut (i : Int) = q) := ⟨_, rfl⟩
    obtain ⟨hci, hcf⟩ := own_cell hN4.cut (j := i) (x := .int .i64 (s.cut i)) (by
      have hci : i < C.length := by rw [h.cl]; exact hin
      rw [List.getElem?_map, ← h.cs i hin, List.getD_eq_getElem?_getD, List.getElem?_eq_getElem hci]; rfl)
    rw [hq.out] at hci
    by_cases k1 : kd = 1
    · subst k1
      by_cases hd6 : 64 < dl
      · have d6 : decide (64 < (dl : Int)) = true := by rw [decide_eq_true_iff]; omega
        go_wp2_with fail
        refine (l3Code_any 2 w4).mono ?_
        rintro r w9 ⟨rfl, hb9⟩
        obtain ⟨_, _, _, hR9, _, hB9⟩ := HV.out w9 (hB4.trans (hb9.mono hB4.size))
        clear r0 r1 rf0 rf1
        obtain ⟨⟨r0, r1⟩, rf⟩ := cells2r hR9
        have rf0 := rf 0
        have rf1 := rf 1
        obtain ⟨⟨z0, z1⟩, _⟩ := cells2r (set2r hR9 (.int .i64 2) (.slice none 0 0))
        clear rf
        go_wp2_with fail
        exact bodyPost_ret (v := .agg #[.int .i64 2, .slice none 0 0]) (by simp [results, Try.results46, go_sem, z0, z1]) rfl (HFIN.out w9 2 hB9 hR9 (by rw [HS.out, stepN, if_neg HK.out, if_neg HP.out, if_neg HK5.out, if_neg HK6.out, if_neg (by simp), if_pos rfl, sendN, if_pos (by rw [HDL.out]; exact hd6)]))
      have d6 : decide (64 < (dl : Int)) = false := by rw [decide_eq_false_iff_not]; omega
      have hint := HW.out.moved hB4
      go_upto_region 19 with fail
      by_cases hq1 : q = 1
      · have b1 : (q == 1) = true := by simpa using hq1
        have HQ : Hid _ := hq1
        clear hq1
        go_quiet (fail)
        obtain ⟨V6, hV6⟩ : ∃ V6, V6 = w4.drewN nq := ⟨_, rfl⟩
        have hB6 : Below W.heap.size W V6 := by rw [hV6]; exact drewsN hB4 _
        rw [← hV6]
        clear hV6
        go_wp2_with fail
        refine (l3Code_any 8 V6).mono ?_
        rintro r w9 ⟨rfl, hb9⟩
        obtain ⟨_, _, _, hR9, _, hB9⟩ := HV.out w9 (hB6.trans (hb9.mono hB6.size))
        clear r0 r1 rf0 rf1
        obtain ⟨⟨r0, r1⟩, rf⟩ := cells2r hR9
        have rf0 := rf 0
        have rf1 := rf 1
        obtain ⟨⟨z0, z1⟩, _⟩ := cells2r (set2r hR9 (.int .i64 8) (.slice none 0 0))
        clear rf
        go_wp2_with fail
        exact bodyPost_ret (v := .agg #[.int .i64 8, .slice none 0 0]) (by simp [results, Try.results46, go_sem, z0, z1]) rfl (HFIN.out w9 8 hB9 hR9 (by rw [HS.out, stepN, if_neg HK.out, if_neg HP.out, if_neg HK5.out, if_neg HK6.out, if_neg (by simp), if_pos rfl, sendN, if_neg (by have := HDL.out; simp only; omega), if_pos (by rw [hq.out]; exact HQ.out)]))
      have b1 : (q == 1) = false := by simpa using hq1
      have HQ : Hid _ := hq1
      clear hq1
      go_quiet (fail)
      obtain ⟨V6, hV6⟩ : ∃ V6, V6 = w4.drewN nq := ⟨_, rfl⟩
      have hB6 : Below W.heap.size W V6 := by rw [hV6]; exact drewsN hB4 _
      rw [← hV6]
      clear hV6 e0 e1 e2 e3 e4 r0 r1 rf0 rf1 c0 c1 c2 cf0 cf1 cf2 hci hcf
      obtain ⟨⟨e0, e1, e2, e3, e4⟩, ⟨⟨c0, c1, c2⟩, cf0, cf1, cf2⟩, hN6, hR6, hK6, hbw6⟩ := HV.out V6 hB6
      obtain ⟨⟨r0, r1⟩, rf⟩ := cells2r hR6
      have rf0 := rf 0
      have rf1 := rf 1
      clear rf
      by_cases hf : 64 ≤ m
      · have d7 : decide (64 ≤ (m : Int)) = true := by rw [decide_eq_true_iff]; omega
        have HF : Hid _ := hf
        clear hf
        go_wp2_with fail
        refine (l3Code_any 9 V6).mono ?_
        rintro r w9 ⟨rfl, hb9⟩
        obtain ⟨_, _, _, hR9, _, hB9⟩ := HV.out w9 (hB6.trans (hb9.mono hB6.size))
        clear r0 r1 rf0 rf1
        obtain ⟨⟨r0, r1⟩, rf⟩ := cells2r hR9
        have rf0 := rf 0
        have rf1 := rf 1
        obtain ⟨⟨z0, z1⟩, _⟩ := cells2r (set2r hR9 (.int .i64 9) (.slice none 0 0))
        clear rf
        go_wp2_with fail
        exact bodyPost_ret (v := .agg #[.int .i64 9, .slice none 0 0]) (by simp [results, Try.results46, go_sem, z0, z1]) rfl (HFIN.out w9 9 hB9 hR9 (by rw [HS.out, stepN, if_neg HK.out, if_neg HP.out, if_neg HK5.out, if_neg HK6.out, if_neg (by simp), if_pos rfl, sendN, if_neg (by have := HDL.out; simp only; omega), if_neg (by rw [hq.out]; exact HQ.out), if_pos (by rw [hm.out]; exact HF.out)]))
      have d7 : decide (64 ≤ (m : Int)) = false := by rw [decide_eq_false_iff_not]; omega
      have HF : Hid _ := hf
      clear hf
      go_upto_region 29 with fail
      have LC := l1Copy_any da dat dl dc V6.drew (HW.out.moved hB6.drew) HDL.out (by omega)
      have HN9 : Hid (∀ w9, Below V6.drew.heap.size V6.drew w9 → SpN w9 B base n s (.slice (some ⟨gc, 0, none⟩) n cc) (.slice aa N ac) C I ∧ Below W.heap.size W w9) := by
        unfold Hid
        intro w9 hb9
        have hbb : Below W.heap.size W w9 := hB6.drew.trans (hb9.mono hB6.size)
        exact ⟨(HV.out w9 hbb).2.2.1, hbb⟩
      have x1 : V6.drew.cell? ⟨E, 1, none⟩ = some (.int .i64 (i : Int)) := e1
      have x2 : V6.drew.cell? ⟨E, 2, none⟩ = some (.int .i64 1) := e2
      have y2 : V6.drew.cell? ⟨B, 2, none⟩ = some (.slice aa N ac) := c2
      clear r0 r1 rf0 rf1 c0 c1 cf0 cf1
      go_wp2_with fail
      refine wp_region_noPanic ?_
      refine wp_region_held_drew (S := fun w' => w'.cell? ⟨E, 1, none⟩ = some (.int .i64 (i : Int)) ∧ w'.cell? ⟨E, 2, none⟩ = some (.int .i64 1)) (by kernel_rfl) ⟨x1, x2⟩ (fun hHeld => ?_)
      refine wpAnyH_take (i := 0) (v := ?_) rfl (by kernel_rfl) (by kernel_rfl) (by kernel_rfl) (fun _ _ _ h => h) (Or.inl ⟨by rfl, ?_⟩) (by assumption) ?_
      rotate_left
      · intro w hSw
        try dsimp only at hSw
        (go_simp; try with_reducible rfl)
      try simp only [Act.put, List.setIfInBounds_toArray, List.set_cons_zero, List.set_cons_succ]
      refine wpAnyH_take (i := 1) (v := ?_) rfl (by kernel_rfl) (by kernel_rfl) (by kernel_rfl) (fun _ _ _ h => h) (Or.inl ⟨by rfl, ?_⟩) (by assumption) ?_
      rotate_left
      · intro w hSw
        try dsimp only at hSw
        (go_simp; try with_reducible rfl)
      try simp only [Act.put, List.setIfInBounds_toArray, List.set_cons_zero, List.set_cons_succ]
      refine wpAnyH_take (i := 2) (v := ?_) rfl (by kernel_rfl) (by kernel_rfl) (by kernel_rfl) (fun _ _ _ h => h) (Or.inl ⟨by rfl, ?_⟩) (by assumption) ?_
      rotate_left
      · intro w hSw
        try dsimp only at hSw
        (go_simp; try with_reducible rfl)
      try simp only [Act.put, List.setIfInBounds_toArray, List.set_cons_zero, List.set_cons_succ]
      refine wpAnyH_take (i := 3) (v := ?_) rfl (by kernel_rfl) (by kernel_rfl) (by kernel_rfl) (fun _ _ _ h => h) (Or.inl ⟨by rfl, ?_⟩) (by assumption) ?_
      rotate_left
      · intro w hSw
        try dsimp only at hSw
        (go_simp; try with_reducible rfl)
      try simp only [Act.put, List.setIfInBounds_toArray, List.set_cons_zero, List.set_cons_succ]
      refine wpAnyH_take (i := 5) (v := ?_) rfl (by kernel_rfl) (by kernel_rfl) (by kernel_rfl) (fun _ _ _ h => h) (Or.inl ⟨by rfl, ?_⟩) (by assumption) ?_
      rotate_left
      · intro w hSw
        try dsimp only at hSw
        (go_simp; try with_reducible rfl)
      try simp only [Act.put, List.setIfInBounds_toArray, List.set_cons_zero, List.set_cons_succ]
      refine wpAnyH_take (i := 6) (v := ?_) rfl (by kernel_rfl) (by kernel_rfl) (by kernel_rfl) (fun _ _ _ h => h) (Or.inl ⟨by rfl, ?_⟩) (by assumption) ?_
      rotate_left
      · intro w hSw
        try dsimp only at hSw
        (go_simp; try with_reducible rfl)
      try simp only [Act.put, List.setIfInBounds_toArray, List.set_cons_zero, List.set_cons_succ]
      refine wpAnyH_take (i := 7) (v := ?_) rfl (by kernel_rfl) (by kernel_rfl) (by kernel_rfl) (fun _ _ _ h => h) (Or.inl ⟨by rfl, ?_⟩) (by assumption) ?_
      rotate_left
      · intro w hSw
        try dsimp only at hSw
        (go_simp; try with_reducible rfl)
      try simp only [Act.put, List.setIfInBounds_toArray, List.set_cons_zero, List.set_cons_succ]
      refine wpAnyH_take (i := 8) (v := ?_) rfl (by kernel_rfl) (by kernel_rfl) (by kernel_rfl) (fun _ _ _ h => h) (Or.inl ⟨by rfl, ?_⟩) (by assumption) ?_
      rotate_left
      · intro w hSw
        try dsimp only at hSw
        (go_simp; try with_reducible rfl)
      try simp only [Act.put, List.setIfInBounds_toArray, List.set_cons_zero, List.set_cons_succ]
      refine wpAnyH_take (i := 9) (v := ?_) rfl (by kernel_rfl) (by kernel_rfl) (by kernel_rfl) (fun _ _ _ h => h) (Or.inl ⟨by rfl, ?_⟩) (by assumption) ?_
      rotate_left
      · intro w hSw
        try dsimp only at hSw
        (go_simp; try with_reducible rfl)
      try simp only [Act.put, List.setIfInBounds_toArray, List.set_cons_zero, List.set_cons_succ]
      refine wpAnyH_ready (rs := [4, 10]) (by kernel_rfl) (by simp) ?_
      refine AllReadyH.cons rfl (fun K hK => ?_) ?_
      · go_simp
        refine hK.out _ _ ?_ (fun hHeld => ?_)
        · first | exact ⟨by assumption, by assumption⟩ | (go_keep; done)
        clear hK K
        try simp only [Act.put, List.setIfInBounds_toArray, List.set_cons_zero, List.set_cons_succ]
        refine wpAnyH_ready (rs := [10]) (by kernel_rfl) (by simp) ?_
        refine AllReadyH.cons rfl (fun K hK => ?_) ?_
        rotate_left
        · exact AllReadyH.nil
        go_simp
        go_at_call 50
        with_reducible (refine Calls.mono LC ?_)
        rintro e w9 ⟨ya, yc, rfl, hy, hb9⟩
        obtain ⟨hN9, hbb9⟩ := HN9.out w9 hb9
        obtain ⟨⟨u0, u1, u2, u3, u4⟩, ⟨⟨v0, v1, v2⟩, vf0, vf1, vf2⟩, _⟩ := HV.out w9 hbb9
        have hB9l : B < w9.heap.size := hN9.lt
        have hBn : ¬ B = w9.heap.size := by omega
        have hE9 := HEB.out w9 hbb9
        have hE9l := (Array.getElem?_eq_some_iff.1 hE9).1
        have hall9 := hN9.all
        rw [hN.out] at hall9
        have hbs9 : base ≤ w9.heap.size := by have := hbb9.size; omega
        dsimp only
        refine hK.out _ _ ?_ (fun hHeld => ?_)
        · first | exact ⟨by assumption, by assumption⟩ | (go_keep; done)
        clear hK K
        try simp only [Act.put, List.setIfInBounds_toArray, List.set_cons_zero, List.set_cons_succ]
        refine wpAnyH_take (i := 11) (v := ?_) rfl (by kernel_rfl) (by kernel_rfl) (by kernel_rfl) (fun _ _ _ h => h) (Or.inl ⟨by rfl, ?_⟩) (by assumption) ?_
        rotate_left
        · intro w hSw
          try dsimp only at hSw
          (go_simp; try with_reducible rfl)
        try simp only [Act.put, List.setIfInBounds_toArray, List.set_cons_zero, List.set_cons_succ]
        refine wpAnyH_ready (rs := [12]) (by kernel_rfl) (by simp) ?_
        refine AllReadyH.cons rfl (fun K hK => ?_) ?_
        rotate_left
        · exact AllReadyH.nil
        go_simp
        refine hK.out _ _ ?_ (fun hHeld => ?_)
        · first | exact ⟨by assumption, by assumption⟩ | (go_keep; done)
        clear hK K
        try simp only [Act.put, List.setIfInBounds_toArray, List.set_cons_zero, List.set_cons_succ]
        refine wpAnyH_ready (rs := [13]) (by kernel_rfl) (by simp) ?_
        refine AllReadyH.cons rfl (fun K hK => ?_) ?_
        rotate_left
        · exact AllReadyH.nil
        refine step_appI (w9.alloc (.cells #[.int .i64 (i : Int), .int .i64 1, .slice ya dl yc, .bool false] 100)) (by rfl) _ _ (by rfl) base aa N ac (flatI I) (by simp [Act.eval, Act.put]) (own_alloc hall9 _) w9.heap.size _ _ _ _ (by simp [Act.eval, Act.put]) (heap_alloc_new w9 _) (by simp [Value.oneCell']) (by omega) (by simp; omega) ?_
        intro g11 cap11 w11 ho11 hg11
        have hi11 := (hg11.block B (by simp; omega) (fun e => own_ne hall9 hN9.blk (by decide) e.symm)).trans ((Below.heap_alloc w9 _ B hB9l).trans hN9.blk)
        have t2 := Go.Joins.cell_of_block hi11 2
        have tf := Go.Joins.unfrozen_of_block hi11 2
        have hE11 := (hg11.block E (by simp; omega) (fun e => own_ne hall9 hE9 (by decide) e.symm)).trans ((Below.heap_alloc w9 _ E hE9l).trans hE9)
        obtain ⟨⟨s0, s1, s2, s3, s4⟩, _⟩ := cells5r hE11
        refine hK.out _ _ ?_ (fun hHeld => ?_)
        · first | exact ⟨by assumption, by assumption⟩ | (go_keep; done)
        clear hK K
        try simp only [Act.put, List.setIfInBounds_toArray, List.set_cons_zero, List.set_cons_succ]
        refine wpAnyH_take (i := 14) (v := ?_) rfl (by kernel_rfl) (by kernel_rfl) (by kernel_rfl) (fun _ _ _ h => h) (Or.inl ⟨by rfl, ?_⟩) (by assumption) ?_
        rotate_left
        · intro w hSw
          try dsimp only at hSw
          (go_simp; try with_reducible rfl)
        try simp only [Act.put, List.setIfInBounds_toArray, List.set_cons_zero, List.set_cons_succ]
        refine wpAnyH_take (i := 15) (v := ?_) rfl (by kernel_rfl) (by kernel_rfl) (by kernel_rfl) (fun _ _ _ h => h) (Or.inl ⟨by rfl, ?_⟩) (by assumption) ?_
        rotate_left
        · intro w hSw
          try dsimp only at hSw
          (go_simp; try with_reducible rfl)
        try simp only [Act.put, List.setIfInBounds_toArray, List.set_cons_zero, List.set_cons_succ]
        refine wpAnyH_ready (rs := [16]) (by kernel_rfl) (by simp) ?_
        refine AllReadyH.cons rfl (fun K hK => ?_) ?_
        rotate_left
        · exact AllReadyH.nil
        go_simp
        refine hK.out _ _ ?_ (fun hHeld => ?_)
        · exact ⟨(World.cell?_setCell_far _ _ _ _ (Ne.symm hEB)).trans s1, (World.cell?_setCell_far _ _ _ _ (Ne.symm hEB)).trans s2⟩
        clear hK K
        try simp only [Act.put, List.setIfInBounds_toArray, List.set_cons_zero, List.set_cons_succ]
        refine wpAnyH_done (by kernel_rfl) ?_ _
        refine NoPanic.normal ?_
        obtain ⟨hS7, hK79⟩ := SpN.push (pa := (i : Int)) (di := 1) (dat := dat) (dv := .slice ya dl yc) hN9 hN.out (by rw [HDL.out]; exact owned_base hy (by have := hB6.size; show base ≤ V6.heap.size; omega)) hg11 hbs9 ho11
        obtain ⟨_, hR7, hKw7⟩ := HVK.out _ ((KeepS.ofBelow hbb9).trans hK79)
        obtain ⟨⟨r0, r1⟩, rf⟩ := cells2r hR7
        have rf0 := rf 0
        have rf1 := rf 1
        obtain ⟨⟨z0, z1⟩, _⟩ := cells2r (set2r hR7 (.int .i64 0) (.slice none 0 0))
        have hSe : S = (⟨0, []⟩, s.put (i : Int) 1 (s.bag (i : Int) 1 ++ [dat])) := by first | (rw [HS.out, stepN, if_neg HK.out, if_neg HP.out, if_neg HK5.out, if_neg HK6.out, if_neg (by simp), if_pos rfl, sendN, if_neg (by have := HDL.out; simp only; omega), if_neg (by rw [hq.out]; exact HQ.out), if_neg (by rw [hm.out]; exact HF.out)]; done) | (rw [HS.out, stepN, if_neg HK.out, if_neg HP.out, if_neg HK5.out, if_neg HK6.out, if_neg (by simp), if_pos rfl, sendN, if_neg (by have := HDL.out; simp only; omega), if_neg (by rw [hq.out]; exact HQ.out), if_neg (by rw [hm.out]; exact HF.out)]; rfl)
        have HSE : Hid _ := hSe
        have HS7 : Hid _ := hS7
        have HR7 : Hid _ := hR7
        have HKW7 : Hid _ := hKw7
        clear rf hSe hS7 hR7 hKw7 hK79
        go_wp2_with fail
        refine bodyPost_ret (v := .agg #[.int .i64 0, .slice none 0 0]) (by simp [results, Try.results46, go_sem, z0, z1]) rfl ?_
        rw [HSE.out]
        exact ⟨_, I ++ [(⟨(i : Int), 1, dat, false⟩, .slice ya dl yc)], C, none, 0, rfl, HS7.out.fill HR7.out _ _, by simp, HKW7.out.fill HRW.out _ _, World.ownsRow_nil _ _ _ _⟩
      refine AllReadyH.cons rfl (fun K hK => ?_) AllReadyH.nil
      go_simp
      go_at_call 50
      with_reducible (refine Calls.mono LC ?_)
      rintro e w9 ⟨ya, yc, rfl, hy, hb9⟩
      obtain ⟨hN9, hbb9⟩ := HN9.out w9 hb9
      obtain ⟨⟨u0, u1, u2, u3, u4⟩, ⟨⟨v0, v1, v2⟩, vf0, vf1, vf2⟩, _⟩ := HV.out w9 hbb9
      have hB9l : B < w9.heap.size := hN9.lt
      have hBn : ¬ B = w9.heap.size := by omega
      have hE9 := HEB.out w9 hbb9
      have hE9l := (Array.getElem?_eq_some_iff.1 hE9).1
      have hall9 := hN9.all
      rw [hN.out] at hall9
      have hbs9 : base ≤ w9.heap.size := by have := hbb9.size; omega
      dsimp only
      refine hK.out _ _ ?_ (fun hHeld => ?_)
      · first | exact ⟨by assumption, by assumption⟩ | (go_keep; done)
      clear hK K
      try simp only [Act.put, List.setIfInBounds_toArray, List.set_cons_zero, List.set_cons_succ]
      refine wpAnyH_take (i := 11) (v := ?_) rfl (by kernel_rfl) (by kernel_rfl) (by kernel_rfl) (fun _ _ _ h => h) (Or.inl ⟨by rfl, ?_⟩) (by assumption) ?_
      rotate_left
      · intro w hSw
        try dsimp only at hSw
        (go_simp; try with_reducible rfl)
      try simp only [Act.put, List.setIfInBounds_toArray, List.set_cons_zero, List.set_cons_succ]
      refine wpAnyH_ready (rs := [4, 12]) (by kernel_rfl) (by simp) ?_
      refine AllReadyH.cons rfl (fun K hK => ?_) ?_
      · go_simp
        refine hK.out _ _ ?_ (fun hHeld => ?_)
        · first | exact ⟨by assumption, by assumption⟩ | (go_keep; done)
        clear hK K
        try simp only [Act.put, List.setIfInBounds_toArray, List.set_cons_zero, List.set_cons_succ]
        refine wpAnyH_ready (rs := [12]) (by kernel_rfl) (by simp) ?_
        refine AllReadyH.cons rfl (fun K hK => ?_) ?_
        rotate_left
        · exact AllReadyH.nil
        go_simp
        refine hK.out _ _ ?_ (fun hHeld => ?_)
        · first | exact ⟨by assumption, by assumption⟩ | (go_keep; done)
        clear hK K
        try simp only [Act.put, List.setIfInBounds_toArray, List.set_cons_zero, List.set_cons_succ]
        refine wpAnyH_ready (rs := [13]) (by kernel_rfl) (by simp) ?_
        refine AllReadyH.cons rfl (fun K hK => ?_) ?_
        rotate_left
        · exact AllReadyH.nil
        refine step_appI (w9.alloc (.cells #[.int .i64 (i : Int), .int .i64 1, .slice ya dl yc, .bool false] 100)) (by rfl) _ _ (by rfl) base aa N ac (flatI I) (by simp [Act.eval, Act.put]) (own_alloc hall9 _) w9.heap.size _ _ _ _ (by simp [Act.eval, Act.put]) (heap_alloc_new w9 _) (by simp [Value.oneCell']) (by omega) (by simp; omega) ?_
        intro g11 cap11 w11 ho11 hg11
        have hi11 := (hg11.block B (by simp; omega) (fun e => own_ne hall9 hN9.blk (by decide) e.symm)).trans ((Below.heap_alloc w9 _ B hB9l).trans hN9.blk)
        have t2 := Go.Joins.cell_of_block hi11 2
        have tf := Go.Joins.unfrozen_of_block hi11 2
        have hE11 := (hg11.block E (by simp; omega) (fun e => own_ne hall9 hE9 (by decide) e.symm)).trans ((Below.heap_alloc w9 _ E hE9l).trans hE9)
        obtain ⟨⟨s0, s1, s2, s3, s4⟩, _⟩ := cells5r hE11
        refine hK.out _ _ ?_ (fun hHeld => ?_)
        · first | exact ⟨by assumption, by assumption⟩ | (go_keep; done)
        clear hK K
        try simp only [Act.put, List.setIfInBounds_toArray, List.set_cons_zero, List.set_cons_succ]
        refine wpAnyH_take (i := 14) (v := ?_) rfl (by kernel_rfl) (by kernel_rfl) (by kernel_rfl) (fun _ _ _ h => h) (Or.inl ⟨by rfl, ?_⟩) (by assumption) ?_
        rotate_left
        · intro w hSw
          try dsimp only at hSw
          (go_simp; try with_reducible rfl)
        try simp only [Act.put, List.setIfInBounds_toArray, List.set_cons_zero, List.set_cons_succ]
        refine wpAnyH_take (i := 15) (v := ?_) rfl (by kernel_rfl) (by kernel_rfl) (by kernel_rfl) (fun _ _ _ h => h) (Or.inl ⟨by rfl, ?_⟩) (by assumption) ?_
        rotate_left
        · intro w hSw
          try dsimp only at hSw
          (go_simp; try with_reducible rfl)
        try simp only [Act.put, List.setIfInBounds_toArray, List.set_cons_zero, List.set_cons_succ]
        refine wpAnyH_ready (rs := [16]) (by kernel_rfl) (by simp) ?_
        refine AllReadyH.cons rfl (fun K hK => ?_) ?_
        rotate_left
        · exact AllReadyH.nil
        go_simp
        refine hK.out _ _ ?_ (fun hHeld => ?_)
        · exact ⟨(World.cell?_setCell_far _ _ _ _ (Ne.symm hEB)).trans s1, (World.cell?_setCell_far _ _ _ _ (Ne.symm hEB)).trans s2⟩
        clear hK K
        try simp only [Act.put, List.setIfInBounds_toArray, List.set_cons_zero, List.set_cons_succ]
        refine wpAnyH_done (by kernel_rfl) ?_ _
        refine NoPanic.normal ?_
        obtain ⟨hS7, hK79⟩ := SpN.push (pa := (i : Int)) (di := 1) (dat := dat) (dv := .slice ya dl yc) hN9 hN.out (by rw [HDL.out]; exact owned_base hy (by have := hB6.size; show base ≤ V6.heap.size; omega)) hg11 hbs9 ho11
        obtain ⟨_, hR7, hKw7⟩ := HVK.out _ ((KeepS.ofBelow hbb9).trans hK79)
        obtain ⟨⟨r0, r1⟩, rf⟩ := cells2r hR7
        have rf0 := rf 0
        have rf1 := rf 1
        obtain ⟨⟨z0, z1⟩, _⟩ := cells2r (set2r hR7 (.int .i64 0) (.slice none 0 0))
        have hSe : S = (⟨0, []⟩, s.put (i : Int) 1 (s.bag (i : Int) 1 ++ [dat])) := by first | (rw [HS.out, stepN, if_neg HK.out, if_neg HP.out, if_neg HK5.out, if_neg HK6.out, if_neg (by simp), if_pos rfl, sendN, if_neg (by have := HDL.out; simp only; omega), if_neg (by rw [hq.out]; exact HQ.out), if_neg (by rw [hm.out]; exact HF.out)]; done) | (rw [HS.out, stepN, if_neg HK.out, if_neg HP.out, if_neg HK5.out, if_neg HK6.out, if_neg (by simp), if_pos rfl, sendN, if_neg (by have := HDL.out; simp only; omega), if_neg (by rw [hq.out]; exact HQ.out), if_neg (by rw [hm.out]; exact HF.out)]; rfl)
        have HSE : Hid _ := hSe
        have HS7 : Hid _ := hS7
        have HR7 : Hid _ := hR7
        have HKW7 : Hid _ := hKw7
        clear rf hSe hS7 hR7 hKw7 hK79
        go_wp2_with fail
        refine bodyPost_ret (v := .agg #[.int .i64 0, .slice none 0 0]) (by simp [results, Try.results46, go_sem, z0, z1]) rfl ?_
        rw [HSE.out]
        exact ⟨_, I ++ [(⟨(i : Int), 1, dat, false⟩, .slice ya dl yc)], C, none, 0, rfl, HS7.out.fill HR7.out _ _, by simp, HKW7.out.fill HRW.out _ _, World.ownsRow_nil _ _ _ _⟩
      refine AllReadyH.cons rfl (fun K hK => ?_) AllReadyH.nil
      go_simp
      refine hK.out _ _ ?_ (fun hHeld => ?_)
      · first | exact ⟨by assumption, by assumption⟩ | (go_keep; done)
      clear hK K
      try simp only [Act.put, List.setIfInBounds_toArray, List.set_cons_zero, List.set_cons_succ]
      refine wpAnyH_ready (rs := [4]) (by kernel_rfl) (by simp) ?_
      refine AllReadyH.cons rfl (fun K hK => ?_) ?_
      rotate_left
      · exact AllReadyH.nil
      go_simp
      refine hK.out _ _ ?_ (fun hHeld => ?_)
      · first | exact ⟨by assumption, by assumption⟩ | (go_keep; done)
      clear hK K
      try simp only [Act.put, List.setIfInBounds_toArray, List.set_cons_zero, List.set_cons_succ]
      refine wpAnyH_ready (rs := [13]) (by kernel_rfl) (by simp) ?_
      refine AllReadyH.cons rfl (fun K hK => ?_) ?_
      rotate_left
      · exact AllReadyH.nil
      refine step_appI (w9.alloc (.cells #[.int .i64 (i : Int), .int .i64 1, .slice ya dl yc, .bool false] 100)) (by rfl) _ _ (by rfl) base aa N ac (flatI I) (by simp [Act.eval, Act.put]) (own_alloc hall9 _) w9.heap.size _ _ _ _ (by simp [Act.eval, Act.put]) (heap_alloc_new w9 _) (by simp [Value.oneCell']) (by omega) (by simp; omega) ?_
      intro g11 cap11 w11 ho11 hg11
      have hi11 := (hg11.block B (by simp; omega) (fun e => own_ne hall9 hN9.blk (by decide) e.symm)).trans ((Below.heap_alloc w9 _ B hB9l).trans hN9.blk)
      have t2 := Go.Joins.cell_of_block hi11 2
      have tf := Go.Joins.unfrozen_of_block hi11 2
      have hE11 := (hg11.block E (by simp; omega) (fun e => own_ne hall9 hE9 (by decide) e.symm)).trans ((Below.heap_alloc w9 _ E hE9l).trans hE9)
      obtain ⟨⟨s0, s1, s2, s3, s4⟩, _⟩ := cells5r hE11
      refine hK.out _ _ ?_ (fun hHeld => ?_)
      · first | exact ⟨by assumption, by assumption⟩ | (go_keep; done)
      clear hK K
      try simp only [Act.put, List.setIfInBounds_toArray, List.set_cons_zero, List.set_cons_succ]
      refine wpAnyH_take (i := 14) (v := ?_) rfl (by kernel_rfl) (by kernel_rfl) (by kernel_rfl) (fun _ _ _ h => h) (Or.inl ⟨by rfl, ?_⟩) (by assumption) ?_
      rotate_left
      · intro w hSw
        try dsimp only at hSw
        (go_simp; try with_reducible rfl)
      try simp only [Act.put, List.setIfInBounds_toArray, List.set_cons_zero, List.set_cons_succ]
      refine wpAnyH_take (i := 15) (v := ?_) rfl (by kernel_rfl) (by kernel_rfl) (by kernel_rfl) (fun _ _ _ h => h) (Or.inl ⟨by rfl, ?_⟩) (by assumption) ?_
      rotate_left
      · intro w hSw
        try dsimp only at hSw
        (go_simp; try with_reducible rfl)
      try simp only [Act.put, List.setIfInBounds_toArray, List.set_cons_zero, List.set_cons_succ]
      refine wpAnyH_ready (rs := [16]) (by kernel_rfl) (by simp) ?_
      refine AllReadyH.cons rfl (fun K hK => ?_) ?_
      rotate_left
      · exact AllReadyH.nil
      go_simp
      refine hK.out _ _ ?_ (fun hHeld => ?_)
      · exact ⟨(World.cell?_setCell_far _ _ _ _ (Ne.symm hEB)).trans s1, (World.cell?_setCell_far _ _ _ _ (Ne.symm hEB)).trans s2⟩
      clear hK K
      try simp only [Act.put, List.setIfInBounds_toArray, List.set_cons_zero, List.set_cons_succ]
      refine wpAnyH_done (by kernel_rfl) ?_ _
      refine NoPanic.normal ?_
      obtain ⟨hS7, hK79⟩ := SpN.push (pa := (i : Int)) (di := 1) (dat := dat) (dv := .slice ya dl yc) hN9 hN.out (by rw [HDL.out]; exact owned_base hy (by have := hB6.size; show base ≤ V6.heap.size; omega)) hg11 hbs9 ho11
      obtain ⟨_, hR7, hKw7⟩ := HVK.out _ ((KeepS.ofBelow hbb9).trans hK79)
      obtain ⟨⟨r0, r1⟩, rf⟩ := cells2r hR7
      have rf0 := rf 0
      have rf1 := rf 1
      obtain ⟨⟨z0, z1⟩, _⟩ := cells2r (set2r hR7 (.int .i64 0) (.slice none 0 0))
      have hSe : S = (⟨0, []⟩, s.put (i : Int) 1 (s.bag (i : Int) 1 ++ [dat])) := by first | (rw [HS.out, stepN, if_neg HK.out, if_neg HP.out, if_neg HK5.out, if_neg HK6.out, if_neg (by simp), if_pos rfl, sendN, if_neg (by have := HDL.out; simp only; omega), if_neg (by rw [hq.out]; exact HQ.out), if_neg (by rw [hm.out]; exact HF.out)]; done) | (rw [HS.out, stepN, if_neg HK.out, if_neg HP.out, if_neg HK5.out, if_neg HK6.out, if_neg (by simp), if_pos rfl, sendN, if_neg (by have := HDL.out; simp only; omega), if_neg (by rw [hq.out]; exact HQ.out), if_neg (by rw [hm.out]; exact HF.out)]; rfl)
      have HSE : Hid _ := hSe
      have HS7 : Hid _ := hS7
      have HR7 : Hid _ := hR7
      have HKW7 : Hid _ := hKw7
      clear rf hSe hS7 hR7 hKw7 hK79
      go_wp2_with fail
      refine bodyPost_ret (v := .agg #[.int .i64 0, .slice none 0 0]) (by simp [results, Try.results46, go_sem, z0, z1]) rfl ?_
      rw [HSE.out]
      exact ⟨_, I ++ [(⟨(i : Int), 1, dat, false⟩, .slice ya dl yc)], C, none, 0, rfl, HS7.out.fill HR7.out _ _, by simp, HKW7.out.fill HRW.out _ _, World.ownsRow_nil _ _ _ _⟩
    have HK1 : Hid _ := k1
    have b1 : (kd == 1) = false := by simpa using k1
    clear k1 hci hcf
    by_cases x0 : ix < 0
    · have d6 : decide (ix < 0) = true := by simpa using x0
      go_wp2_with fail
      refine (l3Code_any 7 w4).mono ?_
      rintro r w9 ⟨rfl, hb9⟩
      obtain ⟨_, _, _, hR9, _, hB9⟩ := HV.out w9 (hB4.trans (hb9.mono hB4.size))
      clear r0 r1 rf0 rf1
      obtain ⟨⟨r0, r1⟩, rf⟩ := cells2r hR9
      have rf0 := rf 0
      have rf1 := rf 1
      obtain ⟨⟨z0, z1⟩, _⟩ := cells2r (set2r hR9 (.int .i64 7) (.slice none 0 0))
      clear rf
      go_wp2_with fail
      exact bodyPost_ret (v := .agg #[.int .i64 7, .slice none 0 0]) (by simp [results, Try.results46, go_sem, z0, z1]) rfl (HFIN.out w9 7 hB9 hR9 (by rw [HS.out, stepN, if_neg HK.out, if_neg HP.out, if_neg HK5.out, if_neg HK6.out, if_neg (by simp), if_neg HK1.out, handleN, if_pos (.inl x0)]))
    have d6 : decide (ix < 0) = false := by simpa using x0
    by_cases xm : (m : Int) ≤ ix
    · have d7 : decide ((m : Int) ≤ ix) = true := by simpa using xm
      go_wp2_with fail
      refine (l3Code_any 7 w4).mono ?_
      rintro r w9 ⟨rfl, hb9⟩
      obtain ⟨_, _, _, hR9, _, hB9⟩ := HV.out w9 (hB4.trans (hb9.mono hB4.size))
      clear r0 r1 rf0 rf1
      obtain ⟨⟨r0, r1⟩, rf⟩ := cells2r hR9
      have rf0 := rf 0
      have rf1 := rf 1
      obtain ⟨⟨z0, z1⟩, _⟩ := cells2r (set2r hR9 (.int .i64 7) (.slice none 0 0))
      clear rf
      go_wp2_with fail
      exact bodyPost_ret (v := .agg #[.int .i64 7, .slice none 0 0]) (by simp [results, Try.results46, go_sem, z0, z1]) rfl (HFIN.out w9 7 hB9 hR9 (by rw [HS.out, stepN, if_neg HK.out, if_neg HP.out, if_neg HK5.out, if_neg HK6.out, if_neg (by simp), if_neg HK1.out, handleN, if_pos (.inr (by rw [hm.out]; exact xm))]))
    have d7 : decide ((m : Int) ≤ ix) = false := by simpa using xm
    obtain ⟨x, hx⟩ : ∃ x : Nat, ix = (x : Int) := ⟨ix.toNat, by omega⟩
    subst hx
    have hxm : x < m := by omega
    have hxi : (x : Int) < (m : Int) := by omega
    have HX : Hid (¬ ((x : Int) < 0 ∨ ((s.bag (i : Int) 1).length : Int) ≤ (x : Int))) := by unfold Hid; rw [hm.out]; omega
    clear x0 xm
    obtain ⟨j, it, j1, j2, j3, j4, j5⟩ := idxF_at (i : Int) 1 (I.map (·.1)) 0 x (by rw [h.bs, hm.out]; exact hxm)
    obtain ⟨iv, hiv⟩ : ∃ iv, I[j]? = some (it, iv) := by
      rw [List.getElem?_map, Option.map_eq_some_iff] at j2
      obtain ⟨⟨a, b⟩, h1, rfl⟩ := j2
      exact ⟨b, h1⟩
    rw [h.bs] at j3 j4
    obtain ⟨hjl, hje⟩ := List.getElem?_eq_some_iff.1 hiv
    have hjN : j < N := by rw [← hN.out]; exact hjl
    have hji : (j : Int) < (N : Int) := by omega
    rcases h.all.2 with ⟨e, _⟩ | ⟨ga, ac', cur, e, rest⟩
    · simp only [Value.slice.injEq] at e; omega
    simp only [Value.slice.injEq] at e
    obtain ⟨rfl, -, e9⟩ := e
    subst e9
    clear rest
    rcases hidx.2 with ⟨e, _⟩ | ⟨gx, xc', cur, e, rest⟩
    · simp only [Value.slice.injEq] at e; omega
    simp only [Value.slice.injEq] at e
    obtain ⟨rfl, -, e9⟩ := e
    subst e9
    clear rest
    have hgx := (hidx.lt gx rfl)
    have hix := (own_cell hidx (j := x) (x := .int .i64 (j : Int)) (by
      rw [List.getElem?_map, natI, List.getElem?_map, j1]; simp)).1
    obtain ⟨q0, q1, q2, q3⟩ := flatI_at hjl
    rw [hje] at q2 q3
    simp only at q2 q3
    have hdi := h.dat (it, iv) (List.mem_of_getElem? hiv)
    obtain ⟨ia, ic, hivs⟩ := own_shape hdi
    simp only at hivs
    subst hivs
    obtain ⟨tl, htl⟩ : ∃ tl, it.dat.length = tl := ⟨_, rfl⟩
    have htl6 : tl ≤ 64 := by rw [← htl, j3]; exact (hinv.get (i : Int) 1 x).1
    rw [htl] at q2
    have HIV : Hid (∀ V, SpN V B base n s (.slice (some ⟨gc, 0, none⟩) n cc) (.slice (some ⟨ga, 0, none⟩) N ac) C I → (V.cell? ⟨ga, j * 4 + 2, none⟩ = some (.slice ia tl ic) ∧ V.cell? ⟨ga, j * 4 + 3, none⟩ = some (.bool it.gone)) ∧ V.frozen? ⟨ga, j * 4 + 3, none⟩ = false ∧ Ints .u8 V ia it.dat) := by
      unfold Hid
      intro V hV
      have hall := hV.all
      rw [hN.out] at hall
      have hd9 := hV.dat (it, .slice ia it.dat.length ic) (List.mem_of_getElem? hiv)
      exact ⟨⟨(own_cell hall q2).1, (own_cell hall q3).1⟩, (own_cell hall q3).2, Ints.ofRow hd9⟩
    have HTL : Hid _ := htl
    have HJ3 : Hid _ := j3
    have HJ4 : Hid _ := j4
    have HJ5 : Hid _ := j5
    have HIJ : Hid _ := hiv
    have HGX : Hid (∀ V, Below w4.heap.size w4 V → V.cell? ⟨gx, x, none⟩ = some (.int .i64 (j : Int))) := fun V hV => (hV.cell (World.block_lt_of_cell? _ _ hix)).trans hix
    have hgx1 : W.heap.size ≤ gx := by have := hBV.size; omega
    clear j1 j2 j3 j4 j5 hiv htl hje hjl q0 q1 q2 q3 hdi
    obtain ⟨⟨v2, v3⟩, vf3, vi⟩ := HIV.out w4 hN4
    by_cases k4 : kd = 4
    · subst k4
      by_cases hf : 64 ≤ m
      · have d8 : decide (64 ≤ (m : Int)) = true := by rw [decide_eq_true_iff]; omega
        have HF : Hid _ := hf
        clear hf
        go_wp2_with fail
        refine (l3Code_any 9 w4).mono ?_
        rintro r w9 ⟨rfl, hb9⟩
        obtain ⟨_, _, _, hR9, _, hB9⟩ := HV.out w9 (hB4.trans (hb9.mono hB4.size))
        clear r0 r1 rf0 rf1
        obtain ⟨⟨r0, r1⟩, rf⟩ := cells2r hR9
        have rf0 := rf 0
        have rf1 := rf 1
        obtain ⟨⟨z0, z1⟩, _⟩ := cells2r (set2r hR9 (.int .i64 9) (.slice none 0 0))
        clear rf
        go_wp2_with fail
        exact bodyPost_ret (v := .agg #[.int .i64 9, .slice none 0 0]) (by simp [results, Try.results46, go_sem, z0, z1]) rfl (HFIN.out w9 9 hB9 hR9 (by rw [HS.out, stepN, if_neg HK.out, if_neg HP.out, if_neg HK5.out, if_neg HK6.out, if_neg (by simp), if_neg HK1.out, handleN, if_neg HX.out, if_neg (by simp), if_neg (by simp), if_pos (by rw [hm.out]; exact HF.out)]))
      have d8 : decide (64 ≤ (m : Int)) = false := by rw [decide_eq_false_iff_not]; omega
      have HF : Hid _ := hf
      clear hf
      go_upto_region 28 with fail
      go_quiet (fail)
      obtain ⟨V6, hV6⟩ : ∃ V6, V6 = w4.drewN nq := ⟨_, rfl⟩
      have hB6 : Below W.heap.size W V6 := by rw [hV6]; exact drewsN hB4 _
      rw [← hV6]
      clear hV6 e0 e1 e2 e3 e4 r0 r1 rf0 rf1 c0 c1 c2 cf0 cf1 cf2 v2 v3 vf3 vi hix
      obtain ⟨⟨e0, e1, e2, e3, e4⟩, ⟨⟨c0, c1, c2⟩, cf0, cf1, cf2⟩, hN6, hR6, hK6, hbw6⟩ := HV.out V6 hB6
      obtain ⟨⟨r0, r1⟩, rf⟩ := cells2r hR6
      have rf0 := rf 0
      have rf1 := rf 1
      clear rf
      obtain ⟨_, _, vi⟩ := HIV.out V6 hN6
      go_upto_region 29 with fail
      have LC := l1Copy_any ia it.dat tl ic V6.drew (vi.moved (Below.refl _ _).drew) HTL.out (by omega)
      have HN9 : Hid (∀ w9, Below V6.drew.heap.size V6.drew w9 → SpN w9 B base n s (.slice (some ⟨gc, 0, none⟩) n cc) (.slice (some ⟨ga, 0, none⟩) N ac) C I ∧ Below W.heap.size W w9) := by
        unfold Hid
        intro w9 hb9
        have hbb : Below W.heap.size W w9 := hB6.drew.trans (hb9.mono hB6.size)
        exact ⟨(HV.out w9 hbb).2.2.1, hbb⟩
      have x1 : V6.drew.cell? ⟨E, 1, none⟩ = some (.int .i64 (i : Int)) := e1
      have x2 : V6.drew.cell? ⟨E, 2, none⟩ = some (.int .i64 1) := e2
      have y2 : V6.drew.cell? ⟨B, 2, none⟩ = some (.slice (some ⟨ga, 0, none⟩) N ac) := c2
      clear r0 r1 rf0 rf1 c0 c1 cf0 cf1
      go_wp2_with fail
      refine wp_region_noPanic ?_
      refine wp_region_held_drew (S := fun w' => w'.cell? ⟨E, 1, none⟩ = some (.int .i64 (i : Int)) ∧ w'.cell? ⟨E, 2, none⟩ = some (.int .i64 1)) (by kernel_rfl) ⟨x1, x2⟩ (fun hHeld => ?_)
      refine wpAnyH_take (i := 0) (v := ?_) rfl (by kernel_rfl) (by kernel_rfl) (by kernel_rfl) (fun _ _ _ h => h) (Or.inl ⟨by rfl, ?_⟩) (by assumption) ?_
      rotate_left
      · intro w hSw
        try dsimp only at hSw
        (go_simp; try with_reducible rfl)
      try simp only [Act.put, List.setIfInBounds_toArray, List.set_cons_zero, List.set_cons_succ]
      refine wpAnyH_take (i := 1) (v := ?_) rfl (by kernel_rfl) (by kernel_rfl) (by kernel_rfl) (fun _ _ _ h => h) (Or.inl ⟨by rfl, ?_⟩) (by assumption) ?_
      rotate_left
      · intro w hSw
        try dsimp only at hSw
        (go_simp; try with_reducible rfl)
      try simp only [Act.put, List.setIfInBounds_toArray, List.set_cons_zero, List.set_cons_succ]
      refine wpAnyH_take (i := 2) (v := ?_) rfl (by kernel_rfl) (by kernel_rfl) (by kernel_rfl) (fun _ _ _ h => h) (Or.inl ⟨by rfl, ?_⟩) (by assumption) ?_
      rotate_left
      · intro w hSw
        try dsimp only at hSw
        (go_simp; try with_reducible rfl)
      try simp only [Act.put, List.setIfInBounds_toArray, List.set_cons_zero, List.set_cons_succ]
      refine wpAnyH_take (i := 3) (v := ?_) rfl (by kernel_rfl) (by kernel_rfl) (by kernel_rfl) (fun _ _ _ h => h) (Or.inl ⟨by rfl, ?_⟩) (by assumption) ?_
      rotate_left
      · intro w hSw
        try dsimp only at hSw
        (go_simp; try with_reducible rfl)
      try simp only [Act.put, List.setIfInBounds_toArray, List.set_cons_zero, List.set_cons_succ]
      refine wpAnyH_take (i := 5) (v := ?_) rfl (by kernel_rfl) (by kernel_rfl) (by kernel_rfl) (fun _ _ _ h => h) (Or.inl ⟨by rfl, ?_⟩) (by assumption) ?_
      rotate_left
      · intro w hSw
        try dsimp only at hSw
        (go_simp; try with_reducible rfl)
      try simp only [Act.put, List.setIfInBounds_toArray, List.set_cons_zero, List.set_cons_succ]
      refine wpAnyH_take (i := 6) (v := ?_) rfl (by kernel_rfl) (by kernel_rfl) (by kernel_rfl) (fun _ _ _ h => h) (Or.inl ⟨by rfl, ?_⟩) (by assumption) ?_
      rotate_left
      · intro w hSw
        try dsimp only at hSw
        (go_simp; try with_reducible rfl)
      try simp only [Act.put, List.setIfInBounds_toArray, List.set_cons_zero, List.set_cons_succ]
      refine wpAnyH_take (i := 7) (v := ?_) rfl (by kernel_rfl) (by kernel_rfl) (by kernel_rfl) (fun _ _ _ h => h) (Or.inl ⟨by rfl, ?_⟩) (by assumption) ?_
      rotate_left
      · intro w hSw
        try dsimp only at hSw
        (go_simp; try with_reducible rfl)
      try simp only [Act.put, List.setIfInBounds_toArray, List.set_cons_zero, List.set_cons_succ]
      refine wpAnyH_take (i := 8) (v := ?_) rfl (by kernel_rfl) (by kernel_rfl) (by kernel_rfl) (fun _ _ _ h => h) (Or.inl ⟨by rfl, ?_⟩) (by assumption) ?_
      rotate_left
      · intro w hSw
        try dsimp only at hSw
        (go_simp; try with_reducible rfl)
      try simp only [Act.put, List.setIfInBounds_toArray, List.set_cons_zero, List.set_cons_succ]
      refine wpAnyH_take (i := 9) (v := ?_) rfl (by kernel_rfl) (by kernel_rfl) (by kernel_rfl) (fun _ _ _ h => h) (Or.inl ⟨by rfl, ?_⟩) (by assumption) ?_
      rotate_left
      · intro w hSw
        try dsimp only at hSw
        (go_simp; try with_reducible rfl)
      try simp only [Act.put, List.setIfInBounds_toArray, List.set_cons_zero, List.set_cons_succ]
      refine wpAnyH_ready (rs := [4, 10]) (by kernel_rfl) (by simp) ?_
      refine AllReadyH.cons rfl (fun K hK => ?_) ?_
      · go_simp
        refine hK.out _ _ ?_ (fun hHeld => ?_)
        · first | exact ⟨by assumption, by assumption⟩ | (go_keep; done)
        clear hK K
        try simp only [Act.put, List.setIfInBounds_toArray, List.set_cons_zero, List.set_cons_succ]
        refine wpAnyH_ready (rs := [10]) (by kernel_rfl) (by simp) ?_
        refine AllReadyH.cons rfl (fun K hK => ?_) ?_
        rotate_left
        · exact AllReadyH.nil
        go_simp
        go_at_call 50
        with_reducible (refine Calls.mono LC ?_)
        rintro e w9 ⟨ya, yc, rfl, hy, hb9⟩
        obtain ⟨hN9, hbb9⟩ := HN9.out w9 hb9
        obtain ⟨⟨u0, u1, u2, u3, u4⟩, ⟨⟨v0, v1, v2⟩, vf0, vf1, vf2⟩, _⟩ := HV.out w9 hbb9
        have hB9l : B < w9.heap.size := hN9.lt
        have hBn : ¬ B = w9.heap.size := by omega
        have hE9 := HEB.out w9 hbb9
        have hE9l := (Array.getElem?_eq_some_iff.1 hE9).1
        have hall9 := hN9.all
        rw [hN.out] at hall9
        have hbs9 : base ≤ w9.heap.size := by have := hbb9.size; omega
        dsimp only
        refine hK.out _ _ ?_ (fun hHeld => ?_)
        · first | exact ⟨by assumption, by assumption⟩ | (go_keep; done)
        clear hK K
        try simp only [Act.put, List.setIfInBounds_toArray, List.set_cons_zero, List.set_cons_succ]
        refine wpAnyH_take (i := 11) (v := ?_) rfl (by kernel_rfl) (by kernel_rfl) (by kernel_rfl) (fun _ _ _ h => h) (Or.inl ⟨by rfl, ?_⟩) (by assumption) ?_
        rotate_left
        · intro w hSw
          try dsimp only at hSw
          (go_simp; try with_reducible rfl)
        try simp only [Act.put, List.setIfInBounds_toArray, List.set_cons_zero, List.set_cons_succ]
        refine wpAnyH_ready (rs := [12]) (by kernel_rfl) (by simp) ?_
        refine AllReadyH.cons rfl (fun K hK => ?_) ?_
        rotate_left
        · exact AllReadyH.nil
        go_simp
        refine hK.out _ _ ?_ (fun hHeld => ?_)
        · first | exact ⟨by assumption, by assumption⟩ | (go_keep; done)
        clear hK K
        try simp only [Act.put, List.setIfInBounds_toArray, List.set_cons_zero, List.set_cons_succ]
        refine wpAnyH_ready (rs := [13]) (by kernel_rfl) (by simp) ?_
        refine AllReadyH.cons rfl (fun K hK => ?_) ?_
        rotate_left
        · exact AllReadyH.nil
        refine step_appI (w9.alloc (.cells #[.int .i64 (i : Int), .int .i64 1, .slice ya tl yc, .bool false] 100)) (by rfl) _ _ (by rfl) base (some ⟨ga, 0, none⟩) N ac (flatI I) (by simp [Act.eval, Act.put]) (own_alloc hall9 _) w9.heap.size _ _ _ _ (by simp [Act.eval, Act.put]) (heap_alloc_new w9 _) (by simp [Value.oneCell']) (by omega) (by simp; omega) ?_
        intro g11 cap11 w11 ho11 hg11
        have hi11 := (hg11.block B (by simp; omega) (fun e => own_ne hall9 hN9.blk (by decide) e.symm)).trans ((Below.heap_alloc w9 _ B hB9l).trans hN9.blk)
        have t2 := Go.Joins.cell_of_block hi11 2
        have tf := Go.Joins.unfrozen_of_block hi11 2
        have hE11 := (hg11.block E (by simp; omega) (fun e => own_ne hall9 hE9 (by decide) e.symm)).trans ((Below.heap_alloc w9 _ E hE9l).trans hE9)
        obtain ⟨⟨s0, s1, s2, s3, s4⟩, _⟩ := cells5r hE11
        refine hK.out _ _ ?_ (fun hHeld => ?_)
        · first | exact ⟨by assumption, by assumption⟩ | (go_keep; done)
        clear hK K
        try simp only [Act.put, List.setIfInBounds_toArray, List.set_cons_zero, List.set_cons_succ]
        refine wpAnyH_take (i := 14) (v := ?_) rfl (by kernel_rfl) (by kernel_rfl) (by kernel_rfl) (fun _ _ _ h => h) (Or.inl ⟨by rfl, ?_⟩) (by assumption) ?_
        rotate_left
        · intro w hSw
          try dsimp only at hSw
          (go_simp; try with_reducible rfl)
        try simp only [Act.put, List.setIfInBounds_toArray, List.set_cons_zero, List.set_cons_succ]
        refine wpAnyH_take (i := 15) (v := ?_) rfl (by kernel_rfl) (by kernel_rfl) (by kernel_rfl) (fun _ _ _ h => h) (Or.inl ⟨by rfl, ?_⟩) (by assumption) ?_
        rotate_left
        · intro w hSw
          try dsimp only at hSw
          (go_simp; try with_reducible rfl)
        try simp only [Act.put, List.setIfInBounds_toArray, List.set_cons_zero, List.set_cons_succ]
        refine wpAnyH_ready (rs := [16]) (by kernel_rfl) (by simp) ?_
        refine AllReadyH.cons rfl (fun K hK => ?_) ?_
        rotate_left
        · exact AllReadyH.nil
        go_simp
        refine hK.out _ _ ?_ (fun hHeld => ?_)
        · exact ⟨(World.cell?_setCell_far _ _ _ _ (Ne.symm hEB)).trans s1, (World.cell?_setCell_far _ _ _ _ (Ne.symm hEB)).trans s2⟩
        clear hK K
        try simp only [Act.put, List.setIfInBounds_toArray, List.set_cons_zero, List.set_cons_succ]
        refine wpAnyH_done (by kernel_rfl) ?_ _
        refine NoPanic.normal ?_
        obtain ⟨hS7, hK79⟩ := SpN.push (pa := (i : Int)) (di := 1) (dat := it.dat) (dv := .slice ya tl yc) hN9 hN.out (by rw [HTL.out]; exact owned_base hy (by have := hB6.size; show base ≤ V6.heap.size; omega)) hg11 hbs9 ho11
        obtain ⟨_, hR7, hKw7⟩ := HVK.out _ ((KeepS.ofBelow hbb9).trans hK79)
        obtain ⟨⟨r0, r1⟩, rf⟩ := cells2r hR7
        have rf0 := rf 0
        have rf1 := rf 1
        obtain ⟨⟨z0, z1⟩, _⟩ := cells2r (set2r hR7 (.int .i64 0) (.slice none 0 0))
        have hSe : S = (⟨0, []⟩, s.put (i : Int) 1 (s.bag (i : Int) 1 ++ [it.dat])) := by first | (rw [HS.out, stepN, if_neg HK.out, if_neg HP.out, if_neg HK5.out, if_neg HK6.out, if_neg (by simp), if_neg HK1.out, handleN, if_neg HX.out, if_neg (by simp), if_neg (by simp), if_neg (by rw [hm.out]; exact HF.out), HJ3.out]; done) | (rw [HS.out, stepN, if_neg HK.out, if_neg HP.out, if_neg HK5.out, if_neg HK6.out, if_neg (by simp), if_neg HK1.out, handleN, if_neg HX.out, if_neg (by simp), if_neg (by simp), if_neg (by rw [hm.out]; exact HF.out), HJ3.out]; rfl)
        have HSE : Hid _ := hSe
        have HS7 : Hid _ := hS7
        have HR7 : Hid _ := hR7
        have HKW7 : Hid _ := hKw7
        clear rf hSe hS7 hR7 hKw7 hK79
        go_wp2_with fail
        refine bodyPost_ret (v := .agg #[.int .i64 0, .slice none 0 0]) (by simp [results, Try.results46, go_sem, z0, z1]) rfl ?_
        rw [HSE.out]
        exact ⟨_, I ++ [(⟨(i : Int), 1, it.dat, false⟩, .slice ya tl yc)], C, none, 0, rfl, HS7.out.fill HR7.out _ _, by simp, HKW7.out.fill HRW.out _ _, World.ownsRow_nil _ _ _ _⟩
      refine AllReadyH.cons rfl (fun K hK => ?_) AllReadyH.nil
      go_simp
      go_at_call 50
      with_reducible (refine Calls.mono LC ?_)
      rintro e w9 ⟨ya, yc, rfl, hy, hb9⟩
      obtain ⟨hN9, hbb9⟩ := HN9.out w9 hb9
      obtain ⟨⟨u0, u1, u2, u3, u4⟩, ⟨⟨v0, v1, v2⟩, vf0, vf1, vf2⟩, _⟩ := HV.out w9 hbb9
      have hB9l : B < w9.heap.size := hN9.lt
      have hBn : ¬ B = w9.heap.size := by omega
      have hE9 := HEB.out w9 hbb9
      have hE9l := (Array.getElem?_eq_some_iff.1 hE9).1
      have hall9 := hN9.all
      rw [hN.out] at hall9
      have hbs9 : base ≤ w9.heap.size := by have := hbb9.size; omega
      dsimp only
      refine hK.out _ _ ?_ (fun hHeld => ?_)
      · first | exact ⟨by assumption, by assumption⟩ | (go_keep; done)
      clear hK K
      try simp only [Act.put, List.setIfInBounds_toArray, List.set_cons_zero, List.set_cons_succ]
      refine wpAnyH_take (i := 11) (v := ?_) rfl (by kernel_rfl) (by kernel_rfl) (by kernel_rfl) (fun _ _ _ h => h) (Or.inl ⟨by rfl, ?_⟩) (by assumption) ?_
      rotate_left
      · intro w hSw
        try dsimp only at hSw
        (go_simp; try with_reducible rfl)
      try simp only [Act.put, List.setIfInBounds_toArray, List.set_cons_zero, List.set_cons_succ]
      refine wpAnyH_ready (rs := [4, 12]) (by kernel_rfl) (by simp) ?_
      refine AllReadyH.cons rfl (fun K hK => ?_) ?_
      · go_simp
        refine hK.out _ _ ?_ (fun hHeld => ?_)
        · first | exact ⟨by assumption, by assumption⟩ | (go_keep; done)
        clear hK K
        try simp only [Act.put, List.setIfInBounds_toArray, List.set_cons_zero, List.set_cons_succ]
        refine wpAnyH_ready (rs := [12]) (by kernel_rfl) (by simp) ?_
        refine AllReadyH.cons rfl (fun K hK => ?_) ?_
        rotate_left
        · exact AllReadyH.nil
        go_simp
        refine hK.out _ _ ?_ (fun hHeld => ?_)
        · first | exact ⟨by assumption, by assumption⟩ | (go_keep; done)
        clear hK K
        try simp only [Act.put, List.setIfInBounds_toArray, List.set_cons_zero, List.set_cons_succ]
        refine wpAnyH_ready (rs := [13]) (by kernel_rfl) (by simp) ?_
        refine AllReadyH.cons rfl (fun K hK => ?_) ?_
        rotate_left
        · exact AllReadyH.nil
        refine step_appI (w9.alloc (.cells #[.int .i64 (i : Int), .int .i64 1, .slice ya tl yc, .bool false] 100)) (by rfl) _ _ (by rfl) base (some ⟨ga, 0, none⟩) N ac (flatI I) (by simp [Act.eval, Act.put]) (own_alloc hall9 _) w9.heap.size _ _ _ _ (by simp [Act.eval, Act.put]) (heap_alloc_new w9 _) (by simp [Value.oneCell']) (by omega) (by simp; omega) ?_
        intro g11 cap11 w11 ho11 hg11
        have hi11 := (hg11.block B (by simp; omega) (fun e => own_ne hall9 hN9.blk (by decide) e.symm)).trans ((Below.heap_alloc w9 _ B hB9l).trans hN9.blk)
        have t2 := Go.Joins.cell_of_block hi11 2
        have tf := Go.Joins.unfrozen_of_block hi11 2
        have hE11 := (hg11.block E (by simp; omega) (fun e => own_ne hall9 hE9 (by decide) e.symm)).trans ((Below.heap_alloc w9 _ E hE9l).trans hE9)
        obtain ⟨⟨s0, s1, s2, s3, s4⟩, _⟩ := cells5r hE11
        refine hK.out _ _ ?_ (fun hHeld => ?_)
        · first | exact ⟨by assumption, by assumption⟩ | (go_keep; done)
        clear hK K
        try simp only [Act.put, List.setIfInBounds_toArray, List.set_cons_zero, List.set_cons_succ]
        refine wpAnyH_take (i := 14) (v := ?_) rfl (by kernel_rfl) (by kernel_rfl) (by kernel_rfl) (fun _ _ _ h => h) (Or.inl ⟨by rfl, ?_⟩) (by assumption) ?_
        rotate_left
        · intro w hSw
          try dsimp only at hSw
          (go_simp; try with_reducible rfl)
        try simp only [Act.put, List.setIfInBounds_toArray, List.set_cons_zero, List.set_cons_succ]
        refine wpAnyH_take (i := 15) (v := ?_) rfl (by kernel_rfl) (by kernel_rfl) (by kernel_rfl) (fun _ _ _ h => h) (Or.inl ⟨by rfl, ?_⟩) (by assumption) ?_
        rotate_left
        · intro w hSw
          try dsimp only at hSw
          (go_simp; try with_reducible rfl)
        try simp only [Act.put, List.setIfInBounds_toArray, List.set_cons_zero, List.set_cons_succ]
        refine wpAnyH_ready (rs := [16]) (by kernel_rfl) (by simp) ?_
        refine AllReadyH.cons rfl (fun K hK => ?_) ?_
        rotate_left
        · exact AllReadyH.nil
        go_simp
        refine hK.out _ _ ?_ (fun hHeld => ?_)
        · exact ⟨(World.cell?_setCell_far _ _ _ _ (Ne.symm hEB)).trans s1, (World.cell?_setCell_far _ _ _ _ (Ne.symm hEB)).trans s2⟩
        clear hK K
        try simp only [Act.put, List.setIfInBounds_toArray, List.set_cons_zero, List.set_cons_succ]
        refine wpAnyH_done (by kernel_rfl) ?_ _
        refine NoPanic.normal ?_
        obtain ⟨hS7, hK79⟩ := SpN.push (pa := (i : Int)) (di := 1) (dat := it.dat) (dv := .slice ya tl yc) hN9 hN.out (by rw [HTL.out]; exact owned_base hy (by have := hB6.size; show base ≤ V6.heap.size; omega)) hg11 hbs9 ho11
        obtain ⟨_, hR7, hKw7⟩ := HVK.out _ ((KeepS.ofBelow hbb9).trans hK79)
        obtain ⟨⟨r0, r1⟩, rf⟩ := cells2r hR7
        have rf0 := rf 0
        have rf1 := rf 1
        obtain ⟨⟨z0, z1⟩, _⟩ := cells2r (set2r hR7 (.int .i64 0) (.slice none 0 0))
        have hSe : S = (⟨0, []⟩, s.put (i : Int) 1 (s.bag (i : Int) 1 ++ [it.dat])) := by first | (rw [HS.out, stepN, if_neg HK.out, if_neg HP.out, if_neg HK5.out, if_neg HK6.out, if_neg (by simp), if_neg HK1.out, handleN, if_neg HX.out, if_neg (by simp), if_neg (by simp), if_neg (by rw [hm.out]; exact HF.out), HJ3.out]; done) | (rw [HS.out, stepN, if_neg HK.out, if_neg HP.out, if_neg HK5.out, if_neg HK6.out, if_neg (by simp), if_neg HK1.out, handleN, if_neg HX.out, if_neg (by simp), if_neg (by simp), if_neg (by rw [hm.out]; exact HF.out), HJ3.out]; rfl)
        have HSE : Hid _ := hSe
        have HS7 : Hid _ := hS7
        have HR7 : Hid _ := hR7
        have HKW7 : Hid _ := hKw7
        clear rf hSe hS7 hR7 hKw7 hK79
        go_wp2_with fail
        refine bodyPost_ret (v := .agg #[.int .i64 0, .slice none 0 0]) (by simp [results, Try.results46, go_sem, z0, z1]) rfl ?_
        rw [HSE.out]
        exact ⟨_, I ++ [(⟨(i : Int), 1, it.dat, false⟩, .slice ya tl yc)], C, none, 0, rfl, HS7.out.fill HR7.out _ _, by simp, HKW7.out.fill HRW.out _ _, World.ownsRow_nil _ _ _ _⟩
      refine AllReadyH.cons rfl (fun K hK => ?_) AllReadyH.nil
      go_simp
      refine hK.out _ _ ?_ (fun hHeld => ?_)
      · first | exact ⟨by assumption, by assumption⟩ | (go_keep; done)
      clear hK K
      try simp only [Act.put, List.setIfInBounds_toArray, List.set_cons_zero, List.set_cons_succ]
      refine wpAnyH_ready (rs := [4]) (by kernel_rfl) (by simp) ?_
      refine AllReadyH.cons rfl (fun K hK => ?_) ?_
      rotate_left
      · exact AllReadyH.nil
      go_simp
      refine hK.out _ _ ?_ (fun hHeld => ?_)
      · first | exact ⟨by assumption, by assumption⟩ | (go_keep; done)
      clear hK K
      try simp only [Act.put, List.setIfInBounds_toArray, List.set_cons_zero, List.set_cons_succ]
      refine wpAnyH_ready (rs := [13]) (by kernel_rfl) (by simp) ?_
      refine AllReadyH.cons rfl (fun K hK => ?_) ?_
      rotate_left
      · exact AllReadyH.nil
      refine step_appI (w9.alloc (.cells #[.int .i64 (i : Int), .int .i64 1, .slice ya tl yc, .bool false] 100)) (by rfl) _ _ (by rfl) base (some ⟨ga, 0, none⟩) N ac (flatI I) (by simp [Act.eval, Act.put]) (own_alloc hall9 _) w9.heap.size _ _ _ _ (by simp [Act.eval, Act.put]) (heap_alloc_new w9 _) (by simp [Value.oneCell']) (by omega) (by simp; omega) ?_
      intro g11 cap11 w11 ho11 hg11
      have hi11 := (hg11.block B (by simp; omega) (fun e => own_ne hall9 hN9.blk (by decide) e.symm)).trans ((Below.heap_alloc w9 _ B hB9l).trans hN9.blk)
      have t2 := Go.Joins.cell_of_block hi11 2
      have tf := Go.Joins.unfrozen_of_block hi11 2
      have hE11 := (hg11.block E (by simp; omega) (fun e => own_ne hall9 hE9 (by decide) e.symm)).trans ((Below.heap_alloc w9 _ E hE9l).trans hE9)
      obtain ⟨⟨s0, s1, s2, s3, s4⟩, _⟩ := cells5r hE11
      refine hK.out _ _ ?_ (fun hHeld => ?_)
      · first | exact ⟨by assumption, by assumption⟩ | (go_keep; done)
      clear hK K
      try simp only [Act.put, List.setIfInBounds_toArray, List.set_cons_zero, List.set_cons_succ]
      refine wpAnyH_take (i := 14) (v := ?_) rfl (by kernel_rfl) (by kernel_rfl) (by kernel_rfl) (fun _ _ _ h => h) (Or.inl ⟨by rfl, ?_⟩) (by assumption) ?_
      rotate_left
      · intro w hSw
        try dsimp only at hSw
        (go_simp; try with_reducible rfl)
      try simp only [Act.put, List.setIfInBounds_toArray, List.set_cons_zero, List.set_cons_succ]
      refine wpAnyH_take (i := 15) (v := ?_) rfl (by kernel_rfl) (by kernel_rfl) (by kernel_rfl) (fun _ _ _ h => h) (Or.inl ⟨by rfl, ?_⟩) (by assumption) ?_
      rotate_left
      · intro w hSw
        try dsimp only at hSw
        (go_simp; try with_reducible rfl)
      try simp only [Act.put, List.setIfInBounds_toArray, List.set_cons_zero, List.set_cons_succ]
      refine wpAnyH_ready (rs := [16]) (by kernel_rfl) (by simp) ?_
      refine AllReadyH.cons rfl (fun K hK => ?_) ?_
      rotate_left
      · exact AllReadyH.nil
      go_simp
      refine hK.out _ _ ?_ (fun hHeld => ?_)
      · exact ⟨(World.cell?_setCell_far _ _ _ _ (Ne.symm hEB)).trans s1, (World.cell?_setCell_far _ _ _ _ (Ne.symm hEB)).trans s2⟩
      clear hK K
      try simp only [Act.put, List.setIfInBounds_toArray, List.set_cons_zero, List.set_cons_succ]
      refine wpAnyH_done (by kernel_rfl) ?_ _
      refine NoPanic.normal ?_
      obtain ⟨hS7, hK79⟩ := SpN.push (pa := (i : Int)) (di := 1) (dat := it.dat) (dv := .slice ya tl yc) hN9 hN.out (by rw [HTL.out]; exact owned_base hy (by have := hB6.size; show base ≤ V6.heap.size; omega)) hg11 hbs9 ho11
      obtain ⟨_, hR7, hKw7⟩ := HVK.out _ ((KeepS.ofBelow hbb9).trans hK79)
      obtain ⟨⟨r0, r1⟩, rf⟩ := cells2r hR7
      have rf0 := rf 0
      have rf1 := rf 1
      obtain ⟨⟨z0, z1⟩, _⟩ := cells2r (set2r hR7 (.int .i64 0) (.slice none 0 0))
      have hSe : S = (⟨0, []⟩, s.put (i : Int) 1 (s.bag (i : Int) 1 ++ [it.dat])) := by first | (rw [HS.out, stepN, if_neg HK.out, if_neg HP.out, if_neg HK5.out, if_neg HK6.out, if_neg (by simp), if_neg HK1.out, handleN, if_neg HX.out, if_neg (by simp), if_neg (by simp), if_neg (by rw [hm.out]; exact HF.out), HJ3.out]; done) | (rw [HS.out, stepN, if_neg HK.out, if_neg HP.out, if_neg HK5.out, if_neg HK6.out, if_neg (by simp), if_neg HK1.out, handleN, if_neg HX.out, if_neg (by simp), if_neg (by simp), if_neg (by rw [hm.out]; exact HF.out), HJ3.out]; rfl)
      have HSE : Hid _ := hSe
      have HS7 : Hid _ := hS7
      have HR7 : Hid _ := hR7
      have HKW7 : Hid _ := hKw7
      clear rf hSe hS7 hR7 hKw7 hK79
      go_wp2_with fail
      refine bodyPost_ret (v := .agg #[.int .i64 0, .slice none 0 0]) (by simp [results, Try.results46, go_sem, z0, z1]) rfl ?_
      rw [HSE.out]
      exact ⟨_, I ++ [(⟨(i : Int), 1, it.dat, false⟩, .slice ya tl yc)], C, none, 0, rfl, HS7.out.fill HR7.out _ _, by simp, HKW7.out.fill HRW.out _ _, World.ownsRow_nil _ _ _ _⟩
    have HK4 : Hid _ := k4
    have b4 : (kd == 4) = false := by simpa using k4
    have HGV : Hid (∀ V, SpN V B base n s (.slice (some ⟨gc, 0, none⟩) n cc) (.slice (some ⟨ga, 0, none⟩) N ac) C I → SpN (V.setCell ⟨ga, j * 4 + 3, none⟩ (.bool true)) B base n (s.put (i : Int) 1 ((s.bag (i : Int) 1).eraseIdx x)) (.slice (some ⟨gc, 0, none⟩) n cc) (.slice (some ⟨ga, 0, none⟩) N ac) C (I.set j (goneI it, .slice ia it.dat.length ic)) ∧ KeepS V (V.setCell ⟨ga, j * 4 + 3, none⟩ (.bool true)) B base) := by
      unfold Hid
      intro V hV
      obtain ⟨g1, g2⟩ := SpN.gone hV hN.out HIJ.out
      refine ⟨g1.as (fun _ _ => rfl) fun p d => ?_, g2⟩
      simp only [NS.put, List.map_set]
      by_cases e : p = (i : Int) ∧ d = 1
      · obtain ⟨rfl, rfl⟩ := e
        rw [if_pos ⟨rfl, rfl⟩, HJ4.out]
      · rw [if_neg e, HJ5.out p d e, h.bs]
    clear k4
    go_upto_region 31 with fail
    go_region
    obtain ⟨V8, hV8⟩ : ∃ V8, V8 = (w4.setCell ⟨ga, j * 4 + 3, none⟩ (.bool true)).drew := ⟨_, rfl⟩
    have hN8 : SpN V8 B base n (s.put (i : Int) 1 ((s.bag (i : Int) 1).eraseIdx x)) (.slice (some ⟨gc, 0, none⟩) n cc) (.slice (some ⟨ga, 0, none⟩) N ac) C (I.set j (goneI it, .slice ia it.dat.length ic)) := by rw [hV8]; exact (HGV.out w4 hN4).1.drew
    have hK8 : KeepS W V8 B base := by
      have := (KeepS.ofBelow (B := B) (base := base) hB4).trans (HGV.out w4 hN4).2
      rw [hV8]
      exact ⟨this.os, this.tape, this.output, this.size, this.block⟩
    have hx8 : V8.cell? ⟨gx, x, none⟩ = some (.int .i64 (j : Int)) := by
      obtain ⟨ci, hci⟩ := row_block hidx rfl
      have hall := hN4.all
      obtain ⟨cj, hcj⟩ := row_block hall rfl
      rw [hV8]
      exact (World.cell?_of_block (w := w4) (w' := (w4.setCell ⟨ga, j * 4 + 3, none⟩ (.bool true)).drew) (a := ⟨gx, x, none⟩) (heap_setCell_other _ _ _ _ (type_ne hci hcj (by decide)))).trans hix
    have hjs : j < (I.set j (goneI it, .slice ia it.dat.length ic)).length := by rw [List.length_set, hN.out]; exact hjN
    have hl8 : (I.set j (goneI it, .slice ia it.dat.length ic)).length = N := by rw [List.length_set]; exact hN.out
    have hv8 : V8.cell? ⟨ga, j * 4 + 2, none⟩ = some (.slice ia tl ic) := by
      have hall := hN8.all
      rw [hl8] at hall
      obtain ⟨_, _, q2, _⟩ := flatI_at hjs
      rw [List.getElem_set_self] at q2
      exact (own_cell hall q2).1.trans (by rw [HTL.out])
    have hi8 : Ints .u8 V8 ia it.dat := Ints.ofRow (hN8.dat (goneI it, .slice ia it.dat.length ic) (List.mem_of_getElem? (by rw [List.getElem?_set_self (by rw [hN.out]; exact hjN)])))
    rw [← hV8]
    clear hV8 hix e0 e1 e2 e3 e4 r0 r1 rf0 rf1 c0 c1 c2 cf0 cf1 cf2 v2 v3 vf3 vi hjs HGV
    obtain ⟨⟨e0, e1, e2, e3, e4⟩, hR8, hKw8⟩ := HVK.out V8 hK8
    obtain ⟨⟨c0, c1, c2⟩, cf0, cf1, cf2⟩ := hN8.cells
    obtain ⟨⟨r0, r1⟩, rf⟩ := cells2r hR8
    have rf0 := rf 0
    have rf1 := rf 1
    clear rf
    by_cases k3 : kd = 3
    · subst k3
      have hSe : S = (⟨0, []⟩, s.put (i : Int) 1 ((s.bag (i : Int) 1).eraseIdx x)) := by first | (rw [HS.out, stepN, if_neg HK.out, if_neg HP.out, if_neg HK5.out, if_neg HK6.out, if_neg (by simp), if_neg HK1.out, handleN, if_neg HX.out, if_neg (by simp), if_pos rfl]; done) | (rw [HS.out, stepN, if_neg HK.out, if_neg HP.out, if_neg HK5.out, if_neg HK6.out, if_neg (by simp), if_neg HK1.out, handleN, if_neg HX.out, if_neg (by simp), if_pos rfl]; rfl)
      have HSE : Hid _ := hSe
      clear hSe
      obtain ⟨⟨z0, z1⟩, _⟩ := cells2r (set2r hR8 (.int .i64 0) (.slice none 0 0))
      go_wp2_with fail
      refine bodyPost_ret (v := .agg #[.int .i64 0, .slice none 0 0]) (by simp [results, Try.results46, go_sem, z0, z1]) rfl ?_
      rw [HSE.out]
      exact ⟨_, I.set j (goneI it, .slice ia it.dat.length ic), C, none, 0, rfl, hN8.fill hR8 _ _, by rw [List.length_set]; omega, hKw8.fill HRW.out _ _, World.ownsRow_nil _ _ _ _⟩
    have b3 : (kd == 3) = false := by simpa using k3
    have hk2 : kd = 2 := by have h1 : ¬ (kd < 1 ∨ 6 < kd) := HK.out; have h2 : ¬ kd = 1 := HK1.out; have h4 : ¬ kd = 4 := HK4.out; have h5 : ¬ kd = 5 := HK5.out; have h6 : ¬ kd = 6 := HK6.out; omega
    subst hk2
    have hSe : S = (⟨0, it.dat⟩, s.put (i : Int) 1 ((s.bag (i : Int) 1).eraseIdx x)) := by first | (rw [HS.out, stepN, if_neg HK.out, if_neg HP.out, if_neg HK5.out, if_neg HK6.out, if_neg (by simp), if_neg HK1.out, handleN, if_neg HX.out, if_pos rfl, HJ3.out]; done) | (rw [HS.out, stepN, if_neg HK.out, if_neg HP.out, if_neg HK5.out, if_neg HK6.out, if_neg (by simp), if_neg HK1.out, handleN, if_neg HX.out, if_pos rfl, HJ3.out]; rfl)
    have HSE : Hid _ := hSe
    clear hSe k3
    have LC := l1Copy_any ia it.dat tl ic V8.drew (hi8.moved (Below.refl _ _).drew) HTL.out (by omega)
    have HR8 : Hid (∀ w9, Below V8.drew.heap.size V8.drew w9 → (w9.cell? ⟨E, 3, none⟩ = some (.int .i64 (x : Int)) ∧ w9.cell? ⟨B, 2, none⟩ = some (.slice (some ⟨ga, 0, none⟩) N ac) ∧ w9.cell? ⟨gx, x, none⟩ = some (.int .i64 (j : Int)) ∧ w9.cell? ⟨ga, j * 4 + 2, none⟩ = some (.slice ia tl ic)) ∧ w9.heap[R]? = some (.cells #[.int .i64 0, .slice none 0 0] 37 (0, 0)) ∧ KeepS w w9 B base ∧ SpN w9 B base n (s.put (i : Int) 1 ((s.bag (i : Int) 1).eraseIdx x)) (.slice (some ⟨gc, 0, none⟩) n cc) (.slice (some ⟨ga, 0, none⟩) N ac) C (I.set j (goneI it, .slice ia it.dat.length ic))) := by
      unfold Hid
      intro w9 hb9
      have hb8 : Below V8.heap.size V8 w9 := ⟨hb9.os, hb9.tape, hb9.output, hb9.size, hb9.block⟩
      exact ⟨⟨(hb8.cell (World.block_lt_of_cell? _ _ e3)).trans e3, (hb8.cell (World.block_lt_of_cell? _ _ c2)).trans c2, (hb8.cell (World.block_lt_of_cell? _ _ hx8)).trans hx8, (hb8.cell (World.block_lt_of_cell? _ _ hv8)).trans hv8⟩, (hb8.block R (Array.getElem?_eq_some_iff.1 hR8).1).trans hR8, hKw8.trans (KeepS.ofBelow hb8), hN8.moved hb8⟩
    have s1 : V8.drew.cell? ⟨E, 3, none⟩ = some (.int .i64 (x : Int)) := e3
    have s2 : V8.drew.cell? ⟨B, 2, none⟩ = some (.slice (some ⟨ga, 0, none⟩) N ac) := c2
    have s3 : V8.drew.cell? ⟨gx, x, none⟩ = some (.int .i64 (j : Int)) := hx8
    have s4 : V8.drew.cell? ⟨ga, j * 4 + 2, none⟩ = some (.slice ia tl ic) := hv8
    have hsz8 : w.heap.size ≤ V8.drew.heap.size := hKw8.size
    have HCO : Hid (∀ (V : World) (k o : Nat) (a b : Value), k ≠ R → ((V.setCell ⟨R, 0, none⟩ a).setCell ⟨R, 1, none⟩ b).cell? ⟨k, o, none⟩ = V.cell? ⟨k, o, none⟩) := fun V k o a b hk => World.cell?_of_block (fill2_other V hk a b)
    have hgR : gx ≠ R := by omega
    have haR : ga ≠ R := by
      obtain ⟨cj, hcj⟩ := row_block hN8.all rfl
      exact type_ne hcj hR8 (by decide)
    go_upto_region 34 with fail
    go_region_held3 (fun w' => w'.cell? ⟨E, 3, none⟩ = some (.int .i64 (x : Int)) ∧ w'.cell? ⟨B, 2, none⟩ = some (.slice (some ⟨ga, 0, none⟩) N ac) ∧ w'.cell? ⟨gx, x, none⟩ = some (.int .i64 (j : Int)) ∧ w'.cell? ⟨ga, j * 4 + 2, none⟩ = some (.slice ia tl ic))
      (first | exact ⟨by assumption, by assumption, by assumption, by assumption⟩ | (go_keep; done) | exact HSR.out _ _)
      (first
        | (go_at_call 50; with_reducible (refine Calls.mono LC ?_); rintro e w9 ⟨ya, yc, rfl, hy, hb9⟩; obtain ⟨⟨t1, t2, t3, t4⟩, hR9, hKw9, hN9⟩ := HR8.out w9 hb9; obtain ⟨⟨u0, u1⟩, uf⟩ := cells2r hR9; have uf0 := uf 0; have uf1 := uf 1; have HSR : Hid (∀ a b, (fun w' : World => w'.cell? ⟨E, 3, none⟩ = some (.int .i64 (x : Int)) ∧ w'.cell? ⟨B, 2, none⟩ = some (.slice (some ⟨ga, 0, none⟩) N ac) ∧ w'.cell? ⟨gx, x, none⟩ = some (.int .i64 (j : Int)) ∧ w'.cell? ⟨ga, j * 4 + 2, none⟩ = some (.slice ia tl ic)) ((w9.setCell ⟨R, 0, none⟩ a).setCell ⟨R, 1, none⟩ b)) := (by unfold Hid; exact fun a b => ⟨(HCO.out w9 E 3 a b hER).trans t1, (HCO.out w9 B 2 a b (Ne.symm hRB)).trans t2, (HCO.out w9 gx x a b hgR).trans t3, (HCO.out w9 ga (j * 4 + 2) a b haR).trans t4⟩)))
    obtain ⟨⟨z0, z1⟩, _⟩ := cells2r (set2r hR9 (.int .i64 0) (.slice ya tl yc))
    have HR9 : Hid _ := hR9
    clear hR9 uf u0 u1 uf0 uf1 t1 t2 t3 t4 HSR
    go_wp2_with fail
    refine bodyPost_ret (v := .agg #[.int .i64 0, .slice ya tl yc]) (by simp [results, Try.results46, go_sem, z0, z1]) rfl ?_
    have hyR := row_stays (w' := (w9.setCell ⟨R, 0, none⟩ (.int .i64 0)).setCell ⟨R, 1, none⟩ (.slice ya tl yc)) (owned_base hy hsz8) (fun k hk => fill2_other _ (by
      obtain ⟨ck, hck⟩ := row_block hy hk
      exact type_ne hck HR9.out (by decide)) _ _)
    rw [HSE.out]
    refine ⟨.slice (some ⟨ga, 0, none⟩) N ac, I.set j (goneI it, .slice ia it.dat.length ic), C, ya, yc, by rw [← HTL.out], hN9.fill HR9.out _ _, by rw [List.length_set]; omega, hKw9.fill HRW.out _ _, ?_⟩
    rw [HTL.out]
    exact hyR
end Go.Proofs.Ytkamdaadgndmbaa
