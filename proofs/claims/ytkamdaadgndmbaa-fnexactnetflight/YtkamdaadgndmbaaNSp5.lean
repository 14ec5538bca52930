import Derived.Test.YtkamdaadgndmbaaNSp3
import Derived.Test.YtkamdaadgndmbaaNSp4
namespace Go.Proofs.Ytkamdaadgndmbaa
open Go.ChangeShapes Go.WideShapes Go.ChangeAt Go.RowKit
set_option linter.unusedVariables false

set_option maxHeartbeats 400000 in
theorem l3Run_bad (x : Int) (hno : ¬ OkN x) (a : Option Addr) (n cap : Nat) (w : World) :
    Calls Try.prog 28 #[.int .i64 x, .slice a n cap] w fun e w' => e = .returned (.tuple #[.agg zeroN3, .slice none 0 0, .int .i64 6]) ∧ Below w.heap.size w w' := by
  have hR0 := heap_alloc_new w (.cells zeroN3 70)
  have hb0 : Below w.heap.size w (w.alloc (.cells zeroN3 70)) := (Below.refl _ _).alloc (Nat.le_refl _) _
  obtain ⟨V, hV⟩ : ∃ V, V = w.alloc (.cells zeroN3 70) := ⟨_, rfl⟩
  rw [← hV] at hR0 hb0
  obtain ⟨R, hR⟩ : ∃ R, R = w.heap.size := ⟨_, rfl⟩
  rw [← hR] at hR0
  have hRw : w.heap.size ≤ R := by omega
  obtain ⟨⟨k0, k1, k2⟩, kf0, kf1, kf2⟩ := cells3r hR0
  obtain ⟨⟨z0, z1, z2⟩, _⟩ := cells3r (set3r hR0 (.int .i64 0) (.slice none 0 0) (.slice none 0 0))
  have hdd : (decide (x < 1) = true) ∨ (decide (x < 1) = false ∧ decide (8 < x) = true) := by
    by_cases h1 : x < 1
    · left; simpa using h1
    · right
      refine ⟨by simpa using h1, ?_⟩
      rw [decide_eq_true_iff]
      exact Classical.byContradiction fun h2 => hno ⟨by omega, by omega⟩
  have HN : Hid _ := hno
  clear hno
  rcases hdd with d1 | ⟨d1, d2⟩
  · go_enter Try.func28, Try.ntmps28
    go_upto_region 1 with fail
    rw [← hV, ← hR]
    clear hV hR
    go_wp2_with fail
    exact bodyPost_ret (v := .tuple #[.agg zeroN3, .slice none 0 0, .int .i64 6]) (by simp [results, Try.results28, go_sem, z0, z1, z2]) rfl ⟨rfl, fill3_below hb0 hRw _ _ _⟩
  · go_enter Try.func28, Try.ntmps28
    go_upto_region 1 with fail
    rw [← hV, ← hR]
    clear hV hR
    go_wp2_with fail
    exact bodyPost_ret (v := .tuple #[.agg zeroN3, .slice none 0 0, .int .i64 6]) (by simp [results, Try.results28, go_sem, z0, z1, z2]) rfl ⟨rfl, fill3_below hb0 hRw _ _ _⟩
set_option maxHeartbeats 400000 in
theorem l3Run_limit (x : Int) (hx : OkN x) (a : Option Addr) (n cap : Nat) (w : World) (hl : 4000 < n) :
    Calls Try.prog 28 #[.int .i64 x, .slice a n cap] w fun e w' => e = .returned (.tuple #[.agg zeroN3, .slice none 0 0, .int .i64 5]) ∧ Below w.heap.size w w' := by
  have hR0 := heap_alloc_new w (.cells zeroN3 70)
  have hb0 : Below w.heap.size w (w.alloc (.cells zeroN3 70)) := (Below.refl _ _).alloc (Nat.le_refl _) _
  obtain ⟨V, hV⟩ : ∃ V, V = w.alloc (.cells zeroN3 70) := ⟨_, rfl⟩
  rw [← hV] at hR0 hb0
  obtain ⟨R, hR⟩ : ∃ R, R = w.heap.size := ⟨_, rfl⟩
  rw [← hR] at hR0
  have hRw : w.heap.size ≤ R := by omega
  obtain ⟨⟨k0, k1, k2⟩, kf0, kf1, kf2⟩ := cells3r hR0
  obtain ⟨⟨z0, z1, z2⟩, _⟩ := cells3r (set3r hR0 (.int .i64 0) (.slice none 0 0) (.slice none 0 0))
  obtain ⟨o1, o2⟩ := hx
  have d1 : decide (x < 1) = false := by rw [decide_eq_false_iff_not]; omega
  have d2 : decide (8 < x) = false := by rw [decide_eq_false_iff_not]; omega
  have d4 : decide ((4000 : Int) < (n : Int)) = true := by rw [decide_eq_true_iff]; omega
  go_enter Try.func28, Try.ntmps28
  go_upto_region 1 with fail
  rw [← hV, ← hR]
  clear hV hR
  go_wp2_with fail
  exact bodyPost_ret (v := .tuple #[.agg zeroN3, .slice none 0 0, .int .i64 5]) (by simp [results, Try.results28, go_sem, z0, z1, z2]) rfl ⟨rfl, fill3_below hb0 hRw _ _ _⟩

/-- All events, one behind the other, on the specification's side. -/
structure AllS (w0 : World) (B base n : Nat) (cv : Value) (es : List NEv) (wr : World) (ov : Value) (G : GotO) : Prop where
  net : ∃ av C I, I.length ≤ es.length ∧ SpN wr B base n (stateN n es) cv av C I
  row : wr.ownsRow w0.heap.size 37 2 ov G.length (flatO G)
  outs : OutsN wr base ov G
  got : G.map (·.1) = outsN n startN es
  keep : KeepS w0 wr B base
theorem KeepS.below {w V w' : World} {B base : Nat} (h : KeepS w V B base) (hb : ∀ k, k < w.heap.size → w'.heap[k]? = V.heap[k]?) (h1 : w'.os = V.os) (h2 : w'.tape = V.tape) (h3 : w'.output = V.output) (h4 : V.heap.size ≤ w'.heap.size) : KeepS w w' B base :=
  ⟨h1.trans h.os, h2.trans h.tape, h3.trans h.output, Nat.le_trans h.size h4, fun k a b c => (hb k a).trans (h.block k a b c)⟩
/-- What is left behind all events. -/
structure RanS (w : World) (B n : Nat) (cv av : Value) (es : List NEv) (w' : World) (ov : Value) (G : GotO) : Prop where
  net : ∃ C I, I.length ≤ 4000 ∧ SpN w' B w.heap.size n (stateN n es) cv av C I
  outs : OutsN w' w.heap.size ov G
  got : G.map (·.1) = outsN n startN es
  below : Below w.heap.size w w'
set_option maxHeartbeats 2000000 in
set_option maxRecDepth 100000 in
theorem l3Run_ok (m : Nat) (hm : OkN m) (a : Option Addr) (es : Evs) (n cap : Nat) (w : World) (hn : es.length = n) (hl : n ≤ 4000) (hz : EvLie w w.heap.size a es) (hok : ∀ p ∈ es, EvOk p.1) :
    Calls Try.prog 28 #[.int .i64 (m : Int), .slice a n cap] w fun e w' => ∃ B cv av oa oc G, e = .returned (.tuple #[.agg #[.int .i64 (m : Int), cv, av], .slice oa n oc, .int .i64 0]) ∧ RanS w B m cv av (es.map (·.1)) w' (.slice oa n oc) G := by
  have hR0 := heap_alloc_new w (.cells zeroN3 70)
  have hb0 : Below w.heap.size w (w.alloc (.cells zeroN3 70)) := (Below.refl _ _).alloc (Nat.le_refl _) _
  obtain ⟨V, hV⟩ : ∃ V, V = w.alloc (.cells zeroN3 70) := ⟨_, rfl⟩
  have hs : Hid (V.heap.size = w.heap.size + 1) := by rw [hV]; unfold Hid; simp
  rw [← hV] at hR0 hb0
  obtain ⟨R, hR⟩ : ∃ R, R = w.heap.size := ⟨_, rfl⟩
  rw [← hR] at hR0
  have hRw : w.heap.size ≤ R := by omega
  have hRV : R < V.heap.size := by have := hs.out; omega
  have hVw : w.heap.size ≤ V.heap.size := by omega
  obtain ⟨o1, o2⟩ := hm
  have d1 : decide ((m : Int) < 1) = false := by rw [decide_eq_false_iff_not]; omega
  have d2 : decide (8 < (m : Int)) = false := by rw [decide_eq_false_iff_not]; omega
  have d4 : decide ((4000 : Int) < (n : Int)) = false := by rw [decide_eq_false_iff_not]; omega
  have hm1 : 1 ≤ m := by omega
  have hm8 : m ≤ 8 := by omega
  have hbg := l3Begin_any m V hm8
  have HN : Hid (es.length = n) := hn
  clear hn
  go_enter Try.func28, Try.ntmps28
  go_upto_region 1 with fail
  rw [← hV, ← hR]
  clear hV hR
  go_wp2_with fail
  refine hbg.mono ?_
  rintro e w2 ⟨ca, cc, rfl, hcut, hb2⟩
  have hs2 := hb2.size
  obtain ⟨W, hW⟩ : ∃ W, W = w2.alloc (.cells #[.int .i64 (m : Int), .slice ca m cc, .slice none 0 0] 70) := ⟨_, rfl⟩
  have hBW := heap_alloc_new w2 (.cells #[.int .i64 (m : Int), .slice ca m cc, .slice none 0 0] 70)
  have hbW : Below V.heap.size V (w2.alloc (.cells #[.int .i64 (m : Int), .slice ca m cc, .slice none 0 0] 70)) := hb2.alloc hs2 _
  have hWs : Hid (W.heap.size = w2.heap.size + 1) := by rw [hW]; unfold Hid; simp
  have hcutW : W.ownsRow w.heap.size 2 1 (.slice ca m cc) m ((List.replicate m (0 : Int)).map (.int .i64)) := by rw [hW]; exact own_alloc (owned_base hcut hVw) _
  rw [← hW] at hBW hbW
  obtain ⟨B, hB⟩ : ∃ B, B = w2.heap.size := ⟨_, rfl⟩
  rw [← hB] at hBW
  have hRW := (hbW.block R hRV).trans hR0
  have hbw := hb0.trans (hbW.mono hVw)
  have hBl : B < W.heap.size := by have := hWs.out; omega
  have hRB : R ≠ B := by omega
  have hBw : w.heap.size ≤ B := by omega
  have hRl : R < W.heap.size := by omega
  have hWw : w.heap.size ≤ W.heap.size := by omega
  have hlim : EvLie W w.heap.size a es := hz.stays fun k hk => hbw.block k hk
  have hSW : SpN W B w.heap.size m startN (.slice ca m cc) (.slice none 0 0) (List.replicate m 0) [] :=
    ⟨hBW, hcutW, World.ownsRow_nil _ _ _ _, (fun p hp => by cases hp), (by simp), (fun i hi => by rw [List.getD_eq_getElem?_getD, List.getElem?_replicate_of_lt hi]; rfl), fun p d => rfl⟩
  have HD0 : Hid (AllS W B w.heap.size m (.slice ca m cc) ((es.map (·.1)).take 0) (W.alloc (.cells #[] 37)) (.slice (some ⟨W.heap.size, 0, none⟩) 0 0) []) := by
    have hr1 : (W.alloc (.cells #[] 37)).ownsRow W.heap.size 37 2 (.slice (some ⟨W.heap.size, 0, none⟩) 0 0) 0 [] := World.ownsRow_made W #[] 0 (Nat.le_refl _) (by unfold maxLen; omega) rfl
    exact ⟨⟨_, _, [], Nat.zero_le _, hSW.moved ((Below.refl _ _).alloc (Nat.le_refl _) _)⟩, hr1, OutsN.start (owned_base hr1 hWw), rfl, KeepS.ofBelow ((Below.refl _ _).alloc (Nat.le_refl _) _)⟩
  have HZ : Hid _ := hlim
  clear hlim hcut hcutW hSW hbg
  go_upto_region 6 with fail
  rw [← hW, ← hB]
  clear hW hB
  go_wp2_with fail
  go_loopw [8, 9] (fun ov i wr => ∃ (k : Nat) (av : Option Addr) (cp : Nat) (G : GotO), k ≤ n ∧ i = .int .i64 k ∧ ov = .slice av k cp ∧ G.length = k ∧ AllS W B w.heap.size m (.slice ca m cc) ((es.map (·.1)).take k) wr (.slice av k cp) G) (fun _ i _ => n - (intOf i).toNat)
  case atStart => exact ⟨0, _, _, [], Nat.zero_le _, rfl, rfl, rfl, HD0.out⟩
  case round =>
    clear HD0
    obtain ⟨k, av, cp, G, hk, rfl, rfl, hGk, hD⟩ := hrel
    by_cases hlt : k < n
    · have hkl : k < es.length := by have := HN.out; omega
      have hszr := hD.keep.size
      have hki : (k : Int) < (n : Int) := by omega
      have hzr : EvLie wr w.heap.size a es := HZ.out.stays fun j hj => hD.keep.block j (by omega) (by omega) (.inl (by omega))
      rcases hzr.at_ with h | ⟨b, off, rfl, hbl, hcz⟩
      · have := HN.out; simp [h] at this; omega
      obtain ⟨c1, c2, c3, c4, c5⟩ := hcz k hkl
      have hpm : es[k] ∈ es := List.getElem_mem hkl
      have hok1 := hok _ hpm
      have hdt := hzr.dat _ hpm
      obtain ⟨⟨e, da, dc⟩, he⟩ : ∃ p, es[k] = p := ⟨_, rfl⟩
      rw [he] at c1 c2 c3 c4 c5 hok1 hdt
      simp only at c1 c2 c3 c4 c5 hok1 hdt
      have hkm : k < (es.map (·.1)).length := by simpa using hkl
      have hSt := stateN_take m (es.map (·.1)) k hkm
      have hOt := outsN_take m (es.map (·.1)) k hkm
      have hem : (es.map (·.1))[k] = e := by rw [List.getElem_map, he]
      rw [hem] at hSt hOt
      have hin := (invN_all m ((es.map (·.1)).take k) (by
        intro e' he' v hv
        obtain ⟨p, hp, rfl⟩ := List.mem_map.1 (List.mem_of_mem_take he')
        exact (hok p hp).dv v hv) startN invN_start).1
      obtain ⟨iv, C, I, hIl, hbL⟩ := hD.net
      have hIk : I.length ≤ k := by rw [List.length_take] at hIl; omega
      obtain ⟨kd, pa, di, ix, dat⟩ := e
      simp only at c1 c2 c3 c4 c5 hdt
      obtain ⟨dl, hdl⟩ : ∃ dl, dat.length = dl := ⟨_, rfl⟩
      rw [hdl] at c5
      obtain ⟨Q, hQ⟩ : ∃ Q, Q = stepN m (stateN m ((es.map (·.1)).take k)) ⟨kd, pa, di, ix, dat⟩ := ⟨_, rfl⟩
      have hst := l3Step_any B w.heap.size m _ _ _ C I wr hbL hm1 hm8 (by omega) hin (by omega) kd pa di ix dat hok1 da dl dc hdl hdt.1 Q hQ
      rw [← hQ] at hSt hOt
      have HST : Hid _ := hSt
      have HOT : Hid _ := hOt
      have HGK : Hid (G.length = k) := hGk
      have HD : Hid _ := hD
      have HBL : Hid _ := hbL
      clear hSt hOt hQ hcz hem hin hGk he hok hbL hdt hok1 hpm hzr hkm hdl
      have hbr : b < wr.heap.size := by omega
      go_wp2_with fail
      refine hst.mono ?_
      rintro e3 w3 ⟨iv', I', C', va, vc, rfl, hN3, hI3, hK3, hO3⟩
      have hw3 := hK3.size
      have ho3 : OutsN w3 w.heap.size (.slice av k cp) G := HD.out.outs.stays fun j cs t _ ht hj => (hK3.at hj (by rcases ht with rfl | rfl <;> decide) (by rcases ht with rfl | rfl <;> decide) (type_ne hj HBL.out.blk (by rcases ht with rfl | rfl <;> decide))).trans hj.symm
      have hrow3 : w3.ownsRow W.heap.size 37 2 (.slice av k cp) k (flatO G) := by
        have h9 := HD.out.row
        rw [HGK.out] at h9
        refine row_stays h9 fun j hj => ?_
        obtain ⟨cs, hc⟩ := row_block h9 hj
        exact (hK3.at hc (by decide) (by decide) (type_ne hc HBL.out.blk (by decide))).trans hc.symm
      have hnb := box_new w3 (.cells #[.int .i64 Q.1.code, .slice va Q.1.dat.length vc] 37) _ rfl
      clear hst c1 c2 c3 c4 c5
      go_wp2_with (at_builtin; refine wpList_appO _ (by rfl) _ _ (by rfl) W.heap.size av k cp (flatO G) (by rfl) (own_alloc hrow3 _) w3.heap.size _ _ (by rfl) hnb (by simp [Value.oneCell']) (by omega) (by simp; omega) ?_; intro g9 cap' w4 ho4 hg4)
      have hsG : ∀ p ∈ G, ∀ j, p.2.ownBlock = some j → j < wr.heap.size := fun p hp j hj => ((HD.out.outs.dat p hp).lt j hj).2
      have hP := OutsN.push (q := Q.1) (dv := .slice va Q.1.dat.length vc) (base := w.heap.size) (ov := .slice av k cp) (G := G) (g := g9) (cap := cap') (w := w3.alloc (.cells #[.int .i64 Q.1.code, .slice va Q.1.dat.length vc] 37)) (w' := w4)
        (ho3.stays fun j cs t _ _ hj => Below.heap_alloc _ _ _ (Array.getElem?_eq_some_iff.1 hj).1) (own_alloc (owned_base hO3 (by omega)) _) (fun p hp j hj e => by
          have h1 := hsG p hp j hj
          have h2 := (hO3.lt j e).1
          omega) hg4 (by rw [HGK.out]; exact owned_base ho4 hWw)
      rw [HGK.out] at hP
      have hgv : ∀ j, j < W.heap.size → w4.heap[j]? = w3.heap[j]? := fun j hj => by
        refine (hg4.block j (by simp; omega) (fun e => ?_)).trans (Below.heap_alloc _ _ _ (by omega))
        have := (hrow3.lt j e.symm).1
        omega
      have hK4 : KeepS W w4 B w.heap.size := (HD.out.keep.trans hK3).below hgv hg4.os hg4.tape hg4.output (by have := hg4.size; simp at this; omega)
      have hN4 : SpN w4 B w.heap.size m Q.2 (.slice ca m cc) iv' C' I' := hN3.stays fun j cs t ht hj => by
        have hj1 := (Array.getElem?_eq_some_iff.1 hj).1
        refine (hg4.block j (by simp; omega) (fun e => ?_)).trans (Below.heap_alloc _ _ _ hj1)
        obtain ⟨c9, hc9⟩ := row_block hrow3 e.symm
        exact type_ne hj hc9 (by rcases ht with rfl | rfl | rfl | rfl <;> decide) rfl
      go_roundw
      case rel =>
        refine ⟨k + 1, _, _, _, by omega, by go_num, rfl, by rw [List.length_append, HGK.out]; rfl, ⟨iv', C', I', ?_, ?_⟩, ?_, hP, ?_, hK4⟩
        · rw [List.length_take, List.length_map]; omega
        · rw [HST.out]
          exact hN4
        · rw [flatO_snoc, List.length_append, HGK.out]
          exact ho4
        · rw [HOT.out, List.map_append, HD.out.got]
          rfl
      case measure => simp [intOf]; omega
    · obtain rfl : k = n := by omega
      have hkk : ¬ (k : Int) < (k : Int) := by omega
      rw [List.take_of_length_le (by have := HN.out; simp; omega)] at hD
      obtain ⟨iv, C, I, hIl, hS⟩ := hD.net
      have hR3 := hD.keep.at hRW (by decide) (by decide) hRB
      obtain ⟨⟨q0, q1, q2⟩, qf0, qf1, qf2⟩ := hS.cells
      obtain ⟨⟨k0, k1, k2⟩, kf0, kf1, kf2⟩ := cells3r hR3
      obtain ⟨⟨z0, z1, z2⟩, _⟩ := cells3r (set3r hR3 (.int .i64 (m : Int)) (.slice ca m cc) iv)
      have hI4 : I.length ≤ 4000 := by rw [List.length_map] at hIl; have := HN.out; omega
      obtain ⟨ia, ic, hiv⟩ := own_shape hS.all
      obtain ⟨il, hil⟩ : ∃ il, Hid (I.length = il) := ⟨_, rfl⟩
      rw [hil.out] at hiv
      subst hiv
      have HS : Hid _ := hS
      have HD : Hid _ := hD
      have HR3 : Hid _ := hR3
      clear hS hD hR3 hIl
      go_wp2_with fail
      refine bodyPost_ret (v := .tuple #[.agg #[.int .i64 (m : Int), .slice ca m cc, .slice ia il ic], .slice av k cp, .int .i64 0]) (by simp [results, Try.results28, go_sem, z0, z1, z2]) rfl ⟨B, _, _, av, cp, rfl, G, ⟨C, I, hI4, ?_⟩, ?_, HD.out.got, ?_⟩
      · have hf := fun (k : Nat) (cs : Array Value) (t : TypeId) (ht : t ≠ 70) (hc : wr.heap[k]? = some (Obj.cells cs t (0, 0))) => fill3_other wr (type_ne hc HR3.out ht) (.int .i64 (m : Int)) (.slice ca m cc) (.slice ia il ic)
        have h9 := HS.out
        exact ⟨(fill3_other wr (Ne.symm hRB) _ _ _).trans h9.blk, row_stays h9.cut fun j hj => (by obtain ⟨cj, hcj⟩ := row_block h9.cut hj; exact hf j cj _ (by decide) hcj), row_stays h9.all fun j hj => (by obtain ⟨cj, hcj⟩ := row_block h9.all hj; exact hf j cj _ (by decide) hcj), fun p hp => row_stays (h9.dat p hp) fun j hj => (by obtain ⟨cj, hcj⟩ := row_block (h9.dat p hp) hj; exact hf j cj _ (by decide) hcj), h9.cl, h9.cs, h9.bs⟩
      · exact HD.out.outs.stays fun j cs t h1 ht hc => fill3_other _ (type_ne hc HR3.out (by rcases ht with rfl | rfl <;> decide)) _ _ _
      · refine fill3_below ⟨HD.out.keep.os.trans hbw.os, HD.out.keep.tape.trans hbw.tape, HD.out.keep.output.trans hbw.output, Nat.le_trans hbw.size HD.out.keep.size, fun j hj => ?_⟩ hRw _ _ _
        exact (HD.out.keep.block j (by omega) (by omega) (.inl hj)).trans (hbw.block j hj)

set_option maxHeartbeats 400000 in
theorem specNetRun_bad (x : Int) (hno : ¬ OkN x) (a : Option Addr) (n cap : Nat) (w : World) :
    Calls Try.prog 11 #[.int .i64 x, .slice a n cap] w fun e w' => e = .returned (.tuple #[.slice none 0 0, .int .i64 6]) ∧ Below w.heap.size w w' := by
  have hrun := l3Run_bad x hno a n cap w
  go_enter Try.func11, Try.ntmps11
  go_wp2_with fail
  refine hrun.mono ?_
  rintro e w1 ⟨rfl, hb1⟩
  have hbw := hb1.alloc hb1.size (.cells zeroN3 70)
  go_wp2_with fail
  exact bodyPost_ret (v := .tuple #[.slice none 0 0, .int .i64 6]) (by simp [results, Try.results11, go_sem]) rfl ⟨rfl, hbw⟩
set_option maxHeartbeats 400000 in
theorem specNetRun_limit (x : Int) (hx : OkN x) (a : Option Addr) (n cap : Nat) (w : World) (hl : 4000 < n) :
    Calls Try.prog 11 #[.int .i64 x, .slice a n cap] w fun e w' => e = .returned (.tuple #[.slice none 0 0, .int .i64 5]) ∧ Below w.heap.size w w' := by
  have hrun := l3Run_limit x hx a n cap w hl
  go_enter Try.func11, Try.ntmps11
  go_wp2_with fail
  refine hrun.mono ?_
  rintro e w1 ⟨rfl, hb1⟩
  have hbw := hb1.alloc hb1.size (.cells zeroN3 70)
  go_wp2_with fail
  exact bodyPost_ret (v := .tuple #[.slice none 0 0, .int .i64 5]) (by simp [results, Try.results11, go_sem]) rfl ⟨rfl, hbw⟩
set_option maxHeartbeats 400000 in
theorem specNetRun_ok (m : Nat) (hm : OkN m) (a : Option Addr) (es : Evs) (n cap : Nat) (w : World) (hn : es.length = n) (hl : n ≤ 4000) (hz : EvLie w w.heap.size a es) (hok : ∀ p ∈ es, EvOk p.1) :
    Calls Try.prog 11 #[.int .i64 (m : Int), .slice a n cap] w fun e w' => ∃ av cp G, e = .returned (.tuple #[.slice av n cp, .int .i64 0]) ∧ OutsN w' w.heap.size (.slice av n cp) G ∧ G.map (·.1) = outsN m startN (es.map (·.1)) ∧ Below w.heap.size w w' := by
  have hrun := l3Run_ok m hm a es n cap w hn hl hz hok
  clear hn
  go_enter Try.func11, Try.ntmps11
  go_wp2_with fail
  refine hrun.mono ?_
  rintro e w1 ⟨B, cv, av, oa, oc, G, rfl, hR⟩
  obtain ⟨C, I, hI, hS⟩ := hR.net
  obtain ⟨ca, cc, rfl⟩ := own_shape hS.cut
  obtain ⟨ia, ic, rfl⟩ := own_shape hS.all
  obtain ⟨il, hil⟩ : ∃ il, Hid (I.length = il) := ⟨_, rfl⟩
  rw [hil.out]
  have hbw := hR.below.alloc hR.below.size (.cells #[.int .i64 (m : Int), .slice ca m cc, .slice ia il ic] 70)
  clear hS hI
  go_wp2_with fail
  exact bodyPost_ret (v := .tuple #[.slice oa n oc, .int .i64 0]) (by simp [results, Try.results11, go_sem]) rfl ⟨oa, oc, G, rfl, hR.outs.stays fun k cs t _ _ hk => Below.heap_alloc _ _ _ (Array.getElem?_eq_some_iff.1 hk).1, hR.got, hbw⟩
end Go.Proofs.Ytkamdaadgndmbaa
