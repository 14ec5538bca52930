import Derived.Test.YtincfdhfoaimbaaNumsQ
import Derived.Deep.Cut
import Derived.Deep.CutRange
namespace Go.Proofs.Ytincfdhfoaimbaa
open Go.ChangeShapes Go.WideShapes Go.ChangeAt Go.RowKit
set_option linter.unusedVariables false

theorem recvs_at (x : Int) (zs : List Int) : ∀ i, i < zs.length → (recvs x zs)[i]? = some (outOf (waits x (zs.take i)) (zs.getD i 0)) := by
  induction zs generalizing x with
  | nil => intro i h; simp at h
  | cons z zs ih =>
    intro i h
    cases i with
    | zero => simp [recvs, waits]
    | succ i =>
      have := ih (nextUp x z) i (by simpa using h)
      simpa [recvs, waits] using this
theorem acked_take_le (os : List Ot) (i : Nat) : (ackedF (os.take i)).length ≤ (ackedF os).length := by
  have h : ackedF os = ackedF (os.take i) ++ ackedF (os.drop i) := by unfold ackedF; rw [← List.flatMap_append, List.take_append_drop]
  rw [h, List.length_append]
  omega
theorem sents_take_le (os : List Ot) (i : Nat) : (sentsF (os.take i)).length ≤ (sentsF os).length := by
  have h : sentsF os = sentsF (os.take i) ++ sentsF (os.drop i) := by unfold sentsF; rw [← List.flatMap_append, List.take_append_drop]
  rw [h, List.length_append]
  omega
theorem firsts_le (F : Tri) : (firsts F).length ≤ F.length := by
  unfold firsts
  rw [List.length_map]
  exact List.length_filter_le _ _
theorem box_tags {w w' : World} {base FB : Nat} {v : Value} {V : List Int} {cs : Array Value} (hb : w.heap[FB]? = some (.cells cs 49 (0, 0))) (h : Tags w base v V) (hg : w.grownBy w' v.ownBlock) : w'.heap[FB]? = some (.cells cs 49 (0, 0)) :=
  (hg.block FB (Array.getElem?_eq_some_iff.1 hb).1 (fun e => by
    obtain ⟨ct, hct⟩ := tags_block h e.symm
    exact type_ne hb hct (by decide) rfl)).trans hb
theorem box_words {w w' : World} {base FB n : Nat} {v : Value} {V : List Value} {cs : Array Value} (hb : w.heap[FB]? = some (.cells cs 49 (0, 0))) (h : w.ownsRow base 22 1 v n V) (hg : w.grownBy w' v.ownBlock) : w'.heap[FB]? = some (.cells cs 49 (0, 0)) :=
  (hg.block FB (Array.getElem?_eq_some_iff.1 hb).1 (fun e => by
    obtain ⟨ct, hct⟩ := row_block h e.symm
    exact type_ne hb hct (by decide) rfl)).trans hb

theorem addrAt (b off j : Nat) : (⟨b, off, none⟩ : Addr).add j = ⟨b, off + j, none⟩ := by
  unfold Addr.add
  split <;> simp_all
theorem Tags.ints {w : World} {base : Nat} {a : Option Addr} {n cap : Nat} {ts : List Int} (h : Tags w base (.slice a n cap) ts) : Ints .i64 w a ts := by
  obtain ⟨a', c', e, _, _, _, hI⟩ := h.shape
  simp only [Value.slice.injEq] at e
  obtain ⟨rfl, _, _⟩ := e
  exact hI
theorem own_same {w w' : World} {base : Nat} {e : TypeId} {size : Nat} {v : Value} {n : Nat} {xs : List Value} (h : w.ownsRow base e size v n xs) (hk : ∀ k, v.ownBlock = some k → w'.heap[k]? = w.heap[k]?) : w'.ownsRow base e size v n xs := by
  refine ⟨h.1, ?_⟩
  rcases h.2 with hn | ⟨g, cap, cur, rfl, hg, hh, rest⟩
  · exact .inl hn
  · exact .inr ⟨g, cap, cur, rfl, hg, (hk g rfl).trans hh, rest⟩

theorem own_put8 {w : World} {base R : Nat} {e : TypeId} {size : Nat} {v : Value} {n : Nat} {xs : List Value} (h : w.ownsRow base e size v n xs) (hR : R < base) (x0 x1 x2 x3 x4 x5 x6 x7 : Value) :
    (put8 w R x0 x1 x2 x3 x4 x5 x6 x7).ownsRow base e size v n xs := by
  have hv : v.ownBlock ≠ some R := fun e => by have := (h.lt R e).1; omega
  exact own_put (own_put (own_put (own_put (own_put (own_put (own_put (own_put h hv) hv) hv) hv) hv) hv) hv) hv

set_option maxHeartbeats 64000000 in
set_option maxRecDepth 100000 in
theorem lawSubRecv (a : Option Addr) (zs : List Int) (cap : Nat) (a2 : Option Addr) (ms : List Int) (cap2 : Nat) (w : World) (hz : Ints .u8 w a zs) (hv : ∀ x ∈ zs, 0 ≤ x ∧ x ≤ 255) (hm : zs.length ≤ 9223372036854775807) (hz2 : Ints .u8 w a2 ms) (hv2 : ∀ x ∈ ms, 0 ≤ x ∧ x ≤ 255) (hm2 : ms.length ≤ 9223372036854775807) :
    Calls Try.prog 5 #[.slice a zs.length cap, .slice a2 ms.length cap2] w fun e w' => e = .returned (.bool true) ∧ Below w.heap.size w w' := by
  by_cases hl : zs.length ≤ 1048576
  case neg =>
    go_enter Try.func5, Try.ntmps5
    go_wp2
    go_ret
    exact ⟨rfl, Below.refl _ _⟩
  case pos =>
  by_cases hl2 : ms.length ≤ 1048576
  case neg =>
    go_enter Try.func5, Try.ntmps5
    go_wp2
    go_ret
    exact ⟨rfl, Below.refl _ _⟩
  case pos =>
  have hdr := drawSub_any w a zs cap hz hv hl
  obtain ⟨L, hL⟩ : ∃ L, Hid (L = zs.length) := ⟨_, rfl⟩
  obtain ⟨M, hM⟩ : ∃ M, Hid (M = ms.length) := ⟨_, rfl⟩
  rw [← hL.out] at hdr hl hm ⊢
  rw [← hM.out] at hl2 hm2 ⊢
  have HZ2 : Hid _ := hz2
  have HV2 : Hid _ := hv2
  clear hz2 hv2 hz hv
  go_enter Try.func5, Try.ntmps5
  go_wp2_with fail
  refine hdr.mono ?_
  rintro e w1 ⟨c, es0, ea, en, ec, rfl, hen, hen8, hi, hrow, hxs, hb1⟩
  clear hdr
  obtain ⟨V, hV⟩ : ∃ V, V = w1.alloc (.cells (cfC c) 35) := ⟨_, rfl⟩
  have hbV : Below w.heap.size w V := by rw [hV]; exact hb1.alloc hb1.size _
  have hCV : V.heap[w1.heap.size]? = some (.cells (cfC c) 35) := by rw [hV]; exact box_new _ _ _ rfl
  have zV : w1.heap.size < V.heap.size := by rw [hV]; simp
  have HC : Hid (∀ U : World, U.heap[w1.heap.size]? = V.heap[w1.heap.size]? → U.cell? ⟨w1.heap.size, 0, none⟩ = some (.int .u32 c.isn) ∧ U.cell? ⟨w1.heap.size, 1, none⟩ = some (.int .i64 c.win) ∧ U.cell? ⟨w1.heap.size, 2, none⟩ = some (.int .i64 c.rto) ∧ U.cell? ⟨w1.heap.size, 3, none⟩ = some (.int .i64 c.mrto) ∧ U.cell? ⟨w1.heap.size, 4, none⟩ = some (.int .i64 c.da) ∧ U.cell? ⟨w1.heap.size, 5, none⟩ = some (.int .i64 c.pe)) := by
    unfold Hid
    intro U hU
    have h := hU.trans hCV
    exact ⟨Go.Joins.cell_of_block h 0, Go.Joins.cell_of_block h 1, Go.Joins.cell_of_block h 2, Go.Joins.cell_of_block h 3, Go.Joins.cell_of_block h 4, Go.Joins.cell_of_block h 5⟩
  have hrowV : V.ownsRow w.heap.size 43 3 (.slice ea en ec) en (flat3 .i64 .i64 .u32 es0) := by rw [hV]; exact own_alloc hrow _
  have hecap : en ≤ ec := by
    rcases hrow.2 with ⟨e, h0⟩ | ⟨g, cc, cur, e, _, _, h1, _⟩
    · omega
    · simp only [Value.slice.injEq] at e
      omega
  have hemax : ec ≤ maxLen := by
    rcases hrow.2 with ⟨e, h0⟩ | ⟨g, cc, cur, e, _, _, h1, h2, _⟩
    · simp only [Value.slice.injEq] at e
      obtain ⟨_, _, rfl⟩ := e
      exact Nat.zero_le _
    · simp only [Value.slice.injEq] at e
      obtain ⟨_, _, rfl⟩ := e
      exact h2
  have hsV := hbV.size
  have hb1s := hb1.size
  have HXS : Hid (∀ e ∈ es0, 0 ≤ e.2.2 ∧ e.2.2 ≤ 4294967295) := hxs
  have HEN : Hid (es0.length = en) := hen
  clear hb1 hrow hxs hen
  unfold maxLen at hemax
  go_upto_if 46 with fail
  rw [← hV]
  clear hV
  go_cut [6] from 31 to 76 (fun ev wx => ∃ (n : Nat) (es : Triples), n ≤ 500 ∧ ev = .slice ea n ec ∧ EvRow V w.heap.size ea n ec es ∧ (∀ e ∈ es, 0 ≤ e.2.2 ∧ e.2.2 ≤ 4294967295) ∧ wx = V)
  case first =>
    by_cases hbig : 500 < en
    · have hd1 : decide ((500 : Int) < (en : Int)) = true := by simp; omega
      have h500 : 500 ≤ ec := by omega
      go_wp2_with fail
      go_meet
      case rel => exact ⟨500, es0.take 500, Nat.le_refl _, rfl, EvRow.owned HEN.out hrowV (by omega), fun e he => HXS.out e (List.mem_of_mem_take he), rfl⟩
    · have hd1 : decide ((500 : Int) < (en : Int)) = false := by simp; omega
      go_wp2_with fail
      go_meet
      case rel => exact ⟨en, es0, by omega, rfl, by have := EvRow.owned HEN.out hrowV (Nat.le_refl _); rw [← HEN.out, List.take_length] at this; rw [← HEN.out]; exact this, HXS.out, rfl⟩
  case rest =>
  obtain ⟨N, es, hN5, rfl, hEv, hx, rfl⟩ := hcut
  clear hrowV HXS HEN hen8 hecap
  have HEV : Hid (EvRow wc w.heap.size ea N ec es) := hEv
  have HX : Hid _ := hx
  have hLen := hEv.len
  have HLEN : Hid (es.length = N) := hLen
  clear hx hLen
  obtain ⟨c0, c1, c2, c3, c4, c5⟩ := HC.out wc rfl
  by_cases hc : c.Ok
  case neg =>
    have hs := specRun_bad c hc ea N ec wc
    clear hEv
    go_wp2_with fail
    refine hs.mono ?_
    rintro e w2 ⟨rfl, hb2⟩
    clear c0 c1 c2 c3 c4 c5 hs
    obtain ⟨c0, c1, c2, c3, c4, c5⟩ := HC.out w2 (hb2.block _ zV)
    have hp := implRun_bad c hc ea N ec w2
    go_wp2_with fail
    refine hp.mono ?_
    rintro e w3 ⟨rfl, hb3⟩
    go_wp2
    go_ret
    exact ⟨rfl, hbV.trans ((hb2.trans (hb3.mono hb2.size)).mono hbV.size)⟩
  case pos =>
  have hs := specRun_ok c hc hi ea es N ec wc HLEN.out (by omega) HX.out hEv.lie
  clear hEv
  go_wp2_with fail
  refine hs.mono ?_
  rintro e w2 ⟨wa, wp, G0, rfl, hO0, hG0, hb2⟩
  clear c0 c1 c2 c3 c4 c5 hs
  obtain ⟨c0, c1, c2, c3, c4, c5⟩ := HC.out w2 (hb2.block _ zV)
  have hp := implRun_ok c hc hi ea es N ec w2 HLEN.out (by omega) HX.out ((HEV.out.kept fun k hk => hb2.block k (HEV.out.lt k hk).2.1).lie)
  go_wp2_with fail
  refine hp.mono ?_
  rintro e wS ⟨oa, oc, G1, rfl, hO1, hG1, hb3⟩
  have hbS := hb2.trans (hb3.mono hb2.size)
  have HEVS : Hid (EvRow wS w.heap.size ea N ec es) := HEV.out.kept fun k hk => hbS.block k (HEV.out.lt k hk).2.1
  have hO0S := hO0.kept (w' := wS) fun k _ hk => hb3.block k hk
  have hCS := hbS.block _ zV
  have hsS := hbS.size
  have hbwS : Below w.heap.size w wS := hbV.trans (hbS.mono hbV.size)
  have HSM : Hid (Small G1) := small_of hc (by have := HLEN.out; omega) hG1
  have HO0 : Hid _ := hO0S
  have HO1 : Hid _ := hO1
  obtain ⟨os, hos⟩ : ∃ os, Hid (os = outsF c (startF c) es) := ⟨_, rfl⟩
  have HG0 : Hid (G0.map (·.1) = os) := by unfold Hid; rw [hos.out]; exact hG0
  have HG1 : Hid (G1.map (·.1) = os) := by unfold Hid; rw [hos.out]; exact hG1
  have HOL : Hid (os.length = N) := by unfold Hid; rw [hos.out, outsF_length]; exact HLEN.out
  have hSent : Hid (Sent c os (stAt c es)) := by unfold Hid; rw [hos.out]; exact sent_at c es
  have HGG : Hid (∀ i, i < N → ∃ o fv av fv' av', o ∈ os ∧ os[i]? = some o ∧ G1[i]? = some (o, fv, av) ∧ G0[i]? = some (o, fv', av')) := by
    unfold Hid
    intro i hi2
    have h1 : i < os.length := by rw [HOL.out]; exact hi2
    obtain ⟨o, ho⟩ : ∃ o, os[i]? = some o := ⟨_, List.getElem?_eq_getElem h1⟩
    have g1 : (G1.map (·.1))[i]? = some o := by rw [HG1.out]; exact ho
    have g0 : (G0.map (·.1))[i]? = some o := by rw [HG0.out]; exact ho
    rw [List.getElem?_map] at g1 g0
    cases h2 : G1[i]? with
    | none => rw [h2] at g1; simp at g1
    | some p =>
      cases h3 : G0[i]? with
      | none => rw [h3] at g0; simp at g0
      | some p' =>
        rw [h2] at g1
        rw [h3] at g0
        simp only [Option.map_some, Option.some.injEq] at g1 g0
        exact ⟨o, p.2.1, p.2.2, p'.2.1, p'.2.2, List.mem_of_getElem? ho, ho, by rw [← g1], by rw [← g0]⟩
  have HBD : Hid (∀ i, (ackedF (os.take i)).length ≤ 500 ∧ (sentsF (os.take i)).length ≤ 500) := by
    unfold Hid
    intro i
    have h1 := acked_take_le os i
    have h2 := sents_take_le os i
    have h3 := hSent.out.done
    have h4 := congrArg List.length hSent.out.all
    rw [List.length_append] at h4
    have h5 := (good_at hc es).all
    have h6 := HLEN.out
    omega
  have hR0 := R4.start wS
  clear hp hO0 hO1 hG0 hG1 hb3 hb2 c0 c1 c2 c3 c4 c5 hO0S hbS
  obtain ⟨W4, hW4, hR4⟩ : ∃ W, W = ((((wS.alloc (.cells #[] 2)).alloc (.cells #[] 2)).alloc (.cells #[] 22)).alloc (.cells #[] 2)) ∧ R4 wS (.slice (some ⟨wS.heap.size, 0, none⟩) 0 0) (.slice (some ⟨wS.heap.size + 1, 0, none⟩) 0 0) (.slice (some ⟨wS.heap.size + 2, 0, none⟩) 0 0) (.slice (some ⟨wS.heap.size + 3, 0, none⟩) 0 0) [] [] [] [] W := ⟨_, rfl, hR0⟩
  clear hR0
  go_wp2_with fail
  rw [← hW4]
  clear hW4
  go_loopw [11, 12, 13, 14, 15, 16] (fun sv av qv tv nv iv wr => ∃ (i nn : Nat) (P : List (Int × Int)) (s1 a1 q1 t1 : Value), s1 = sv ∧ a1 = av ∧ q1 = qv ∧ t1 = tv ∧ i ≤ N ∧ iv = .int .i64 (i : Int) ∧ nv = .int .i64 (nn : Int) ∧ nn ≤ 5000 * i ∧ P.length ≤ 2 * nn ∧ (∀ p ∈ P, SentOk c (sentsF os) p.1 p.2) ∧ R4 wS s1 a1 q1 t1 (sentsF (os.take i)) (ackedF (os.take i)) (P.map (·.1)) (P.map (·.2)) wr) (fun _ _ _ _ _ iv _ => N - (intOf iv).toNat)
  case atStart => exact ⟨0, 0, [], _, _, _, _, rfl, rfl, rfl, rfl, Nat.zero_le _, rfl, rfl, Nat.zero_le _, Nat.zero_le _, by simp, hR4⟩
  case round =>
  clear hR4
  obtain ⟨i, nn, P, sv, av, qv, tv, rfl, rfl, rfl, rfl, hiN, rfl, rfl, hnn, hPl, hPo, hR⟩ := hrel
  by_cases hlt1 : i < N
  case pos =>
    as_aux_lemma =>
      obtain ⟨o, fv, ov, fv', ov', hom, hoi, hp1, hp0⟩ := HGG.out i hlt1
      obtain ⟨g, cc, e1, _, hlg, q0, q1, q2, q3, q4, _⟩ := at5 HO1.out.row rfl hp1
      obtain ⟨g', cc', e2, _, hlg', t0, t1, t2, t3, t4, _⟩ := at5 HO0.out.row rfl hp0
      have hfr := HO1.out.fr _ (List.mem_of_getElem? hp1)
      have hfr' := HO0.out.fr _ (List.mem_of_getElem? hp0)
      have hak := HO1.out.ak _ (List.mem_of_getElem? hp1)
      have hsm := HSM.out _ (List.mem_of_getElem? hp1)
      simp only at hfr hfr' hak hsm
      obtain ⟨fa, fc, rfl⟩ := own_shape hfr
      obtain ⟨fa', fc', rfl⟩ := own_shape hfr'
      obtain ⟨aa, ac, rfl⟩ := own_shape hak
      simp only [Value.slice.injEq] at e1 e2
      obtain ⟨rfl, en1, rfl⟩ := e1
      obtain ⟨rfl, en2, rfl⟩ := e2
      clear en1 en2
      have hLie := Lie3.ofRow rfl hfr
      have hAck := Ints.ofRow hak
      obtain ⟨NF, hNF⟩ : ∃ NF, Hid (NF = o.frames.length) := ⟨_, rfl⟩
      obtain ⟨NA, hNA⟩ : ∃ NA, Hid (NA = o.acked.length) := ⟨_, rfl⟩
      rw [← hNF.out] at q1 t1 hsm
      rw [← hNA.out] at q2 hsm
      have HQ : Hid (∀ U : World, Below wS.heap.size wS U → (U.cell? ⟨g, i * 5, none⟩ = some (.int .i64 o.code) ∧ U.cell? ⟨g, i * 5 + 1, none⟩ = some (.slice fa NF fc) ∧ U.cell? ⟨g, i * 5 + 2, none⟩ = some (.slice aa NA ac)) ∧ U.cell? ⟨g', i * 5, none⟩ = some (.int .i64 o.code) ∧ U.cell? ⟨g', i * 5 + 1, none⟩ = some (.slice fa' NF fc')) := by
        unfold Hid
        intro U hU
        exact ⟨⟨(hU.cell (p := ⟨g, i * 5, none⟩) hlg).trans q0, (hU.cell (p := ⟨g, i * 5 + 1, none⟩) hlg).trans q1, (hU.cell (p := ⟨g, i * 5 + 2, none⟩) hlg).trans q2⟩, (hU.cell (p := ⟨g', i * 5, none⟩) hlg').trans t0, (hU.cell (p := ⟨g', i * 5 + 1, none⟩) hlg').trans t1⟩
      have htk : os.take (i + 1) = os.take i ++ [o] := by
        obtain ⟨h1, h2⟩ := List.getElem?_eq_some_iff.1 hoi
        rw [List.take_succ_eq_append_getElem h1, h2]
      have HS1 : Hid (sentsF (os.take (i + 1)) = sentsF (os.take i) ++ firsts o.frames) := by unfold Hid; rw [htk, sentsF_snoc]
      have HA1 : Hid (ackedF (os.take (i + 1)) = ackedF (os.take i) ++ o.acked) := by unfold Hid; rw [htk, ackedF_snoc]
      have hiN' : (i : Int) < (N : Int) := by omega
      obtain ⟨⟨x0, x1, x2⟩, x3, x4⟩ := HQ.out wr hR.bl
      clear q0 q1 q2 q3 q4 t0 t1 t2 t3 t4 hp1 hp0 hfr hfr' hak htk
      go_wp2_with fail
      go_quiet (fail)
      have hRq := hR.drewN nq
      clear x0 x1 x2 x3 x4 hR
      obtain ⟨Wq, hWq, hRq⟩ : ∃ W, W = wr.drewN nq ∧ R4 wS sv av qv tv (sentsF (os.take i)) (ackedF (os.take i)) (P.map (·.1)) (P.map (·.2)) W := ⟨_, rfl, hRq⟩
      go_wp2_with fail
      rw [← hWq]
      clear hWq
      go_loopw [12, 17] (fun av2 kk wx => ∃ (k : Nat) (a1 : Value), a1 = av2 ∧ k ≤ NA ∧ kk = .int .i64 (k : Int) ∧ R4 wS sv a1 qv tv (sentsF (os.take i)) (ackedF (os.take i) ++ o.acked.take k) (P.map (·.1)) (P.map (·.2)) wx) (fun _ kk _ => NA - (intOf kk).toNat)
      case atStart => exact ⟨0, _, rfl, Nat.zero_le _, rfl, by simpa using hRq⟩
      case round =>
      clear hRq
      obtain ⟨k, av, rfl, hkA, rfl, hR⟩ := hrel
      obtain ⟨⟨x0, x1, x2⟩, x3, x4⟩ := HQ.out wr hR.bl
      have sR := hR.bl.size
      by_cases hlt2 : k < NA
      case pos =>
        as_aux_lemma =>
          rcases hAck with h0 | ⟨ab, ao, rfl, hac⟩
          · have := hNA.out; rw [h0] at this; simp at this; omega
          have hkl : k < o.acked.length := by have := hNA.out; omega
          have hck := hac k hkl
          obtain ⟨t, ht⟩ : ∃ t, o.acked.getD k 0 = t := ⟨_, rfl⟩
          rw [ht] at hck
          have hcr := (hR.bl.cell (World.block_lt_of_cell? wS _ hck)).trans hck
          have HTK : Hid (ackedF (os.take i) ++ o.acked.take k ++ [t] = ackedF (os.take i) ++ o.acked.take (k + 1)) := by
            unfold Hid
            rw [List.take_succ_eq_append_getElem hkl, List.append_assoc]
            have : o.acked[k] = t := by rw [← ht]; simp [hkl]
            rw [this]
          have hRA := hR.alloc (.cells #[.int .i64 t] 2)
          have hcA : (wr.alloc (.cells #[.int .i64 t] 2)).cell? ⟨wr.heap.size, 0, none⟩ = some (.int .i64 t) := cell_alloc1 wr _ _ _ rfl
          have hla : (ackedF (os.take i) ++ o.acked.take k).length ≤ 4294967296 := by
            have h1 := (HBD.out i).1
            rw [List.length_append, List.length_take]
            omega
          have hbA := hRA.bl.size
          have hki : (k : Int) < (NA : Int) := by omega
          have hA := hRA.a
          clear hac ht hck
          go_wp2_with (at_builtin; refine wpList_appTag (wr.alloc (.cells #[.int .i64 t] 2)) (by rfl) _ _ (by rfl) wS.heap.size av (ackedF (os.take i) ++ o.acked.take k) t (by rfl) hA ⟨wr.heap.size, 0, none⟩ (by rfl) hcA hla hbA ?_; intro v' w4 hT4 hg4 hat4)
          have hRn := hRA.pushA hT4 hg4 hat4
          rw [HTK.out] at hRn
          go_roundw
          case rel => exact ⟨k + 1, _, rfl, by omega, by go_num, hRn⟩
          case measure => simp [intOf]; omega
      case neg =>
      obtain rfl : k = NA := by omega
      have hki : ¬ (k : Int) < (k : Int) := by omega
      have hR2 : R4 wS sv av qv tv (sentsF (os.take i) ++ firsts (o.frames.take 0)) (ackedF (os.take (i + 1))) (P.map (·.1)) (P.map (·.2)) wr := by
        have h1 : o.acked.take k = o.acked := List.take_of_length_le (by have := hNA.out; omega)
        rw [h1, ← HA1.out] at hR
        simpa [firsts] using hR
      clear hR
      go_wp2_with fail
      clear x0 x1 x2 x3 x4
      have hNF5 : NF ≤ 5000 := hsm.1
      go_loopw [11, 13, 14, 15, 18] (fun sv2 qv2 tv2 nv kk wx => ∃ (k nn : Nat) (P : List (Int × Int)) (s1 q1 t1 : Value), s1 = sv2 ∧ q1 = qv2 ∧ t1 = tv2 ∧ k ≤ NF ∧ kk = .int .i64 (k : Int) ∧ nv = .int .i64 (nn : Int) ∧ nn ≤ 5000 * i + k ∧ P.length ≤ 2 * nn ∧ (∀ p ∈ P, SentOk c (sentsF os) p.1 p.2) ∧ R4 wS s1 av q1 t1 (sentsF (os.take i) ++ firsts (o.frames.take k)) (ackedF (os.take (i + 1))) (P.map (·.1)) (P.map (·.2)) wx) (fun _ _ _ _ kk _ => NF - (intOf kk).toNat)
      case atStart => exact ⟨0, nn, P, _, _, _, rfl, rfl, rfl, Nat.zero_le _, rfl, rfl, by omega, hPl, hPo, hR2⟩
      case round =>
      clear hR2 hPl hPo hnn
      obtain ⟨k3, nn, P, sv, qv, tv, rfl, rfl, rfl, hkF, rfl, rfl, hnn, hPl, hPo, hR⟩ := hrel
      obtain ⟨⟨x0, x1, x2⟩, x3, x4⟩ := HQ.out wr hR.bl
      have sR := hR.bl.size
      by_cases hlt3 : k3 < NF
      case pos =>
        rcases hLie with h0 | ⟨fb, fo, rfl, hfc⟩
        · have := hNF.out; rw [h0] at this; simp at this; omega
        have hkl : k3 < o.frames.length := by have := hNF.out; omega
        obtain ⟨z0, z1, z2⟩ := hfc k3 hkl
        obtain ⟨⟨f1, f2, f3⟩, hfe⟩ : ∃ f, o.frames[k3] = f := ⟨_, rfl⟩
        rw [hfe] at z0 z1 z2
        have y0 := (hR.bl.cell (World.block_lt_of_cell? wS _ z0)).trans z0
        have y1 := (hR.bl.cell (World.block_lt_of_cell? wS _ z1)).trans z1
        have y2 := (hR.bl.cell (World.block_lt_of_cell? wS _ z2)).trans z2
        have HFS : Hid (firsts (o.frames.take (k3 + 1)) = firsts (o.frames.take k3) ++ (if f1 = 1 then [f3] else [])) := by
          unfold Hid
          rw [List.take_succ_eq_append_getElem hkl, hfe, firsts_snoc]
        have HOK : Hid (f1 ≠ 3 → SentOk c (sentsF os) f2 f3) := by
          unfold Hid
          intro h3
          have := hSent.out.fr o hom (o.frames[k3]) (List.getElem_mem hkl) (by rw [hfe]; exact h3)
          rw [hfe] at this
          exact this
        have hRA := hR.alloc (.cells #[.int .i64 f1, .int .u32 f2, .int .i64 f3] 49)
        have hFB : (wr.alloc (.cells #[.int .i64 f1, .int .u32 f2, .int .i64 f3] 49)).heap[wr.heap.size]? = some (.cells #[.int .i64 f1, .int .u32 f2, .int .i64 f3] 49) := box_new _ _ _ rfl
        have hki3 : (k3 : Int) < (NF : Int) := by omega
        clear hfc z0 z1 z2 hfe hkl
        by_cases hp3 : f1 = 3
        case pos =>
          subst hp3
          have hRn : R4 wS sv av qv tv (sentsF (os.take i) ++ firsts (o.frames.take (k3 + 1))) (ackedF (os.take (i + 1))) (P.map (·.1)) (P.map (·.2)) (wr.alloc (.cells #[.int .i64 3, .int .u32 f2, .int .i64 f3] 49)) := by
            rw [HFS.out]
            simpa using hRA
          go_wp2_with fail
          go_roundw
          case rel => exact ⟨k3 + 1, nn, P, _, _, _, rfl, rfl, rfl, by omega, by go_num, rfl, by omega, hPl, hPo, hRn⟩
          case measure => simp [intOf]; omega
        case neg =>
        have hpb : (f1 == 3) = false := by simpa using hp3
        have hOK := HOK.out hp3
        have HOK2 : Hid (SentOk c (sentsF os) f2 f3) := hOK
        clear hOK
        obtain ⟨FB, hFBe⟩ : ∃ FB, FB = wr.heap.size := ⟨_, rfl⟩
        obtain ⟨U, hU, hRA, hFB⟩ : ∃ U, U = wr.alloc (.cells #[.int .i64 f1, .int .u32 f2, .int .i64 f3] 49) ∧ R4 wS sv av qv tv (sentsF (os.take i) ++ firsts (o.frames.take k3)) (ackedF (os.take (i + 1))) (P.map (·.1)) (P.map (·.2)) U ∧ U.heap[FB]? = some (.cells #[.int .i64 f1, .int .u32 f2, .int .i64 f3] 49) := ⟨_, rfl, hRA, by rw [hFBe]; exact hFB⟩
        go_upto_if 153 with fail
        rw [← hU, ← hFBe]
        clear hU hFBe x0 x1 x2 x3 x4 y0 y1 y2
        go_cut [11] from 130 to 193 (fun s2 wx => ∃ s1, s1 = s2 ∧ R4 wS s1 av qv tv (sentsF (os.take i) ++ firsts (o.frames.take (k3 + 1))) (ackedF (os.take (i + 1))) (P.map (·.1)) (P.map (·.2)) wx ∧ wx.heap[FB]? = some (.cells #[.int .i64 f1, .int .u32 f2, .int .i64 f3] 49))
        case first =>
          obtain ⟨b0, b1, b2, bf⟩ := cell3 hFB
          by_cases hp1 : f1 = 1
          · have hp1b : (f1 == 1) = true := by simpa using hp1
            have HP1 : Hid (f1 = 1) := hp1
            clear hp1
            have hRB := hRA.alloc (.cells #[.int .i64 f3] 2)
            have hcB : (U.alloc (.cells #[.int .i64 f3] 2)).cell? ⟨U.heap.size, 0, none⟩ = some (.int .i64 f3) := cell_alloc1 U _ _ _ rfl
            have hFB2 := (Below.heap_alloc U (.cells #[.int .i64 f3] 2) FB (Array.getElem?_eq_some_iff.1 hFB).1).trans hFB
            have hls : (sentsF (os.take i) ++ firsts (o.frames.take k3)).length ≤ 4294967296 := by
              have h1 := (HBD.out i).2
              have h2 := firsts_le (o.frames.take k3)
              rw [List.length_take] at h2
              rw [List.length_append]
              omega
            have hbB := hRB.bl.size
            have hSr := hRB.s
            clear bf
            go_wp2_with (at_builtin; refine wpList_appTag (U.alloc (.cells #[.int .i64 f3] 2)) (by rfl) _ _ (by rfl) wS.heap.size sv (sentsF (os.take i) ++ firsts (o.frames.take k3)) f3 (by rfl) hSr ⟨U.heap.size, 0, none⟩ (by rfl) hcB hls hbB ?_; intro v' w4 hT4 hg4 hat4)
            have hRn := hRB.pushS hT4 hg4 hat4
            have hFn := box_tags hFB2 hSr hg4
            go_meet
            case rel => exact ⟨_, rfl, by rw [HFS.out, if_pos HP1.out, ← List.append_assoc]; exact hRn, hFn⟩
          · have hp1b : (f1 == 1) = false := by simpa using hp1
            clear bf
            go_wp2_with fail
            go_meet
            case rel => exact ⟨_, rfl, by rw [HFS.out, if_neg hp1, List.append_nil]; exact hRA, hFB⟩
        case rest =>
        obtain ⟨sv, rfl, hR3, hF3⟩ := hcut
        clear hRA hFB hR
        obtain ⟨b0, b1, b2, bf⟩ := cell3 hF3
        obtain ⟨m1, hm1⟩ : ∃ m1 : Nat, m1 = nn + 1 := ⟨_, rfl⟩
        have hm1' : (nn : Int) + 1 = (m1 : Int) := by omega
        have hm1b : m1 ≤ 3000000 := by omega
        have HM1 : Hid (m1 = nn + 1) := hm1
        clear hm1
        have sR3 := hR3.bl.size
        go_wp2_with fail
        clear b0 b1 b2 bf
        go_loopw [13, 14, 20] (fun qv2 tv2 kk wx => ∃ (x : Nat) (P3 : List (Int × Int)) (q1 t1 : Value), q1 = qv2 ∧ t1 = tv2 ∧ x ≤ 2 ∧ kk = .int .i64 (x : Int) ∧ P3.length ≤ 2 * nn + x ∧ (∀ p ∈ P3, SentOk c (sentsF os) p.1 p.2) ∧ R4 wS sv av q1 t1 (sentsF (os.take i) ++ firsts (o.frames.take (k3 + 1))) (ackedF (os.take (i + 1))) (P3.map (·.1)) (P3.map (·.2)) wx ∧ wx.heap[FB]? = some (.cells #[.int .i64 f1, .int .u32 f2, .int .i64 f3] 49)) (fun _ _ kk _ => 2 - (intOf kk).toNat)
        case atStart => exact ⟨0, P, _, _, rfl, rfl, by omega, rfl, by omega, hPo, hR3, hF3⟩
        case round =>
        clear hR3 hF3 hPo sR3
        obtain ⟨x, P3, qv, tv, rfl, rfl, hx2, rfl, hP3, hPo3, hR, hF⟩ := hrel
        have hend : ∀ (wz : World), R4 wS sv av qv tv (sentsF (os.take i) ++ firsts (o.frames.take (k3 + 1))) (ackedF (os.take (i + 1))) (P3.map (·.1)) (P3.map (·.2)) wz → P3.length ≤ 2 * m1 := fun wz _ => by have := HM1.out; omega
        have hd5 : nn + 1 ≤ 5000 * i + (k3 + 1) := by omega
        by_cases hx1 : (x : Int) < 1 + (m1 : Int) % 2
        case neg =>
          have dx : decide ((x : Int) < 1 + (m1 : Int) % 2) = false := by simpa using hx1
          go_wp2_with fail
          go_roundw
          case rel => exact ⟨k3 + 1, m1, P3, _, _, _, rfl, rfl, rfl, by omega, by go_num, rfl, by have := HM1.out; omega, by have := HM1.out; omega, hPo3, hR⟩
          case measure => simp [intOf]; omega
        case pos =>
        have hx3 : x < 2 := by omega
        have dx : decide ((x : Int) < 1 + (m1 : Int) % 2) = true := by simpa using hx1
        by_cases hM0 : M = 0
        case pos =>
          have dM : decide ((0 : Int) < (M : Int)) = false := by simp; omega
          have dM2 : decide (0 < M) = false := by simp; omega
          have dM3 : ¬ 0 < M := by omega
          have HM0 : Hid (M = 0) := hM0
          clear hM0 hend
          go_wp2_with fail
          go_roundw
          case rel => exact ⟨k3 + 1, m1, P3, _, _, _, rfl, rfl, rfl, by omega, by go_num, rfl, by have := HM1.out; omega, by have := HM1.out; omega, hPo3, hR⟩
          case measure => simp [intOf]; omega
        case neg =>
        have dM : decide ((0 : Int) < (M : Int)) = true := by simp; omega
        have dM3 : 0 < M := by omega
        have hMp : (0 : Int) < (M : Int) := by omega
        obtain ⟨J, hJ⟩ : ∃ J : Nat, (m1 : Int) % (M : Int) = (J : Int) := ⟨((m1 : Int) % (M : Int)).toNat, by have := Int.emod_nonneg (m1 : Int) (show (M : Int) ≠ 0 by omega); omega⟩
        have hJM : (J : Int) < (M : Int) := by have := Int.emod_lt_of_pos (m1 : Int) hMp; omega
        rcases HZ2.out with h0 | ⟨mb, mo, rfl, hmc⟩
        · have := hM.out; rw [h0] at this; simp at this; omega
        have hmJ := hmc J (by have := hM.out; omega)
        obtain ⟨y, hy⟩ : ∃ y, ms.getD J 0 = y := ⟨_, rfl⟩
        rw [hy] at hmJ
        have hyb : 0 ≤ y ∧ y ≤ 255 := by
          rw [← hy]
          have hlJ : J < ms.length := by have := hM.out; omega
          have := HV2.out (ms[J]) (List.getElem_mem hlJ)
          simpa [hlJ] using this
        have hmw := ((hbwS.trans (hR.bl.mono hbwS.size)).cell (World.block_lt_of_cell? w _ hmJ)).trans hmJ
        clear hmc hmJ hy
        by_cases hy3 : y % 3 = 0
        case pos =>
          have HY : Hid (y % 3 = 0) := hy3
          have dy : decide (0 < y % 3) = false := by simp; omega
          clear hy3
          go_wp2_with fail
          go_roundw
          case rel => exact ⟨k3 + 1, m1, P3, _, _, _, rfl, rfl, rfl, by omega, by go_num, rfl, by have := HM1.out; omega, by have := HM1.out; omega, hPo3, hR⟩
          case measure => simp [intOf]; omega
        case neg =>
          have dy : decide (0 < y % 3) = true := by simp; omega
          obtain ⟨b0, b1, b2, bf⟩ := cell3 hF
          obtain ⟨qa, qc, rfl⟩ := own_shape hR.q
          have hFlt := (Array.getElem?_eq_some_iff.1 hF).1
          have hRq := hR.alloc (.cells #[.int .u32 f2] 22)
          have hFq := (Below.heap_alloc wr (.cells #[.int .u32 f2] 22) FB hFlt).trans hF
          have hcq : (wr.alloc (.cells #[.int .u32 f2] 22)).cell? ⟨wr.heap.size, 0, none⟩ = some (.int .u32 f2) := cell_alloc1 wr _ _ _ rfl
          have hlq : (P3.map (·.1)).length ≤ 4294967296 := by rw [List.length_map]; omega
          have hlt : (P3.map (·.2)).length ≤ 4294967296 := by rw [List.length_map]; omega
          have hbq := hRq.bl.size
          have hqr := hRq.q
          have HPU : Hid (∀ (w4 : World) g4 c4, w4.ownsRow wS.heap.size 22 1 (.slice (some ⟨g4, 0, none⟩) ((P3.map (·.1)).length + 1) c4) ((P3.map (·.1)).length + 1) (((P3.map (·.1)) ++ [f2]).map (.int .u32)) → (wr.alloc (.cells #[.int .u32 f2] 22)).grownBy w4 (Value.slice qa (P3.map (·.1)).length qc).ownBlock → R4 wS sv av (.slice (some ⟨g4, 0, none⟩) ((P3.map (·.1)).length + 1) c4) tv (sentsF (os.take i) ++ firsts (o.frames.take (k3 + 1))) (ackedF (os.take (i + 1))) (P3.map (·.1) ++ [f2]) (P3.map (·.2)) w4 ∧ w4.heap[FB]? = some (.cells #[.int .i64 f1, .int .u32 f2, .int .i64 f3] 49)) := by
            unfold Hid
            intro w4 g4 c4 h1 h2
            exact ⟨hRq.pushQ (by rw [List.length_append]; exact h1) h2, box_words hFq hqr h2⟩
          clear bf
          go_wp2_with (at_builtin; first
            | (refine wpList_app1 (wr.alloc (.cells #[.int .u32 f2] 22)) (by rfl) _ _ 23 22 (by rfl) .u32 4 Try.underlying23 info_w32 (by omega) wS.heap.size qa (P3.map (·.1)).length qc (P3.map (·.1)) f2 (by rfl) hqr ⟨wr.heap.size, 0, none⟩ (by rfl) hcq hlq hbq ?_; intro g4 c4 w4 ho4 hg4; obtain ⟨hR5, hF5⟩ := HPU.out w4 g4 c4 ho4 hg4; obtain ⟨d0, d1, d2, df⟩ := cell3 hF5; have hR6 := hR5.alloc (.cells #[.int .i64 f3] 2); have hc6 : (w4.alloc (.cells #[.int .i64 f3] 2)).cell? ⟨w4.heap.size, 0, none⟩ = some (.int .i64 f3) := cell_alloc1 w4 _ _ _ rfl; have hb6 := hR6.bl.size; have ht6 := hR6.t)
            | (refine wpList_appTag (w4.alloc (.cells #[.int .i64 f3] 2)) (by rfl) _ _ (by rfl) wS.heap.size tv (P3.map (·.2)) f3 (by rfl) ht6 ⟨w4.heap.size, 0, none⟩ (by rfl) hc6 hlt hb6 ?_; intro v' w7 hT7 hg7 hat7))
          have hR8 := hR6.pushT hT7 hg7 hat7
          have hF8 := box_tags ((Below.heap_alloc w4 (.cells #[.int .i64 f3] 2) FB (Array.getElem?_eq_some_iff.1 hF5).1).trans hF5) ht6 hg7
          have e1 : P3.map (·.1) ++ [f2] = (P3 ++ [(f2, f3)]).map (·.1) := by simp
          have e2 : P3.map (·.2) ++ [f3] = (P3 ++ [(f2, f3)]).map (·.2) := by simp
          rw [e1, e2] at hR8
          simp only [List.length_map] at hR8
          have hPo4 : ∀ p ∈ P3 ++ [(f2, f3)], SentOk c (sentsF os) p.1 p.2 := by
            intro p hp
            rcases List.mem_append.1 hp with h | h
            · exact hPo3 p h
            · simp only [List.mem_singleton] at h
              subst h
              exact HOK2.out
          go_roundw
          case rel => exact ⟨x + 1, P3 ++ [(f2, f3)], _, _, rfl, rfl, by omega, by go_num, by rw [List.length_append]; simp only [List.length_cons, List.length_nil]; omega, hPo4, hR8, hF8⟩
          case measure => simp [intOf]; omega
      case neg =>
        obtain rfl : k3 = NF := by omega
        have hR9 : R4 wS sv av qv tv (sentsF (os.take (i + 1))) (ackedF (os.take (i + 1))) (P.map (·.1)) (P.map (·.2)) wr := by
          rw [HS1.out]
          have h1 : o.frames.take k3 = o.frames := List.take_of_length_le (by have := hNF.out; omega)
          rw [h1] at hR
          exact hR
        have hn9 : nn ≤ 5000 * (i + 1) := by omega
        go_wp2_with fail
        go_roundw
        case rel => exact ⟨i + 1, nn, P, _, _, _, _, rfl, rfl, rfl, rfl, by omega, by go_num, rfl, hn9, hPl, hPo, hR9⟩
        case measure => simp [intOf]; omega
  case neg =>
  obtain rfl : i = N := by omega
  rw [List.take_of_length_le (by rw [HOL.out]; omega)] at hR
  obtain ⟨SL, hSL⟩ : ∃ SL, SL = sentsF os := ⟨_, rfl⟩
  obtain ⟨AL, hAL⟩ : ∃ AL, AL = ackedF os := ⟨_, rfl⟩
  rw [← hSL] at hR hPo
  rw [← hAL] at hR
  have hS0 := hSent.out.all
  have hS1 := hSent.out.done
  rw [← hAL] at hS1
  rw [← hSL, ← hAL] at hS0
  have hgd := (good_at hc es).all
  have hSLl : SL.length ≤ 500 := by rw [hS0, List.length_append, hS1]; have := HLEN.out; omega
  obtain ⟨st, hst⟩ : ∃ st, Hid (st = stAt c es) := ⟨_, rfl⟩
  rw [← hst.out] at hS0 hS1 hgd
  have HS0 : Hid (SL = AL ++ st.tags) := hS0
  have HS1 : Hid (AL.length = st.done) := hS1
  clear hSL hAL hS0 hS1
  obtain ⟨qa, qc, rfl⟩ := own_shape hR.q
  obtain ⟨K, hK⟩ : ∃ K, Hid (K = (P.map (·.1)).length) := ⟨_, rfl⟩
  have hKP : Hid (K = P.length) := by unfold Hid; rw [hK.out, List.length_map]
  have hK5 : K ≤ 6000000 := by rw [hKP.out]; omega
  have hQr := hR.q
  rw [← hK.out] at hQr ⊢
  have hQI := Ints.ofRow hQr
  have hwW : w1.heap.size < wS.heap.size := by omega
  obtain ⟨c0, c1, c2, c3, c4, c5⟩ := HC.out wr ((hR.bl.block _ hwW).trans hCS)
  by_cases hK4 : K ≤ 4000
  case neg =>
    have hrv := implRecv_long c.isn (P.map (·.1)) (by rw [← hK.out]; omega) (by rw [← hK.out]; omega) qa K qc wr hK.out.symm hQI
    have hd4 : decide ((4000 : Int) < (K : Int)) = true := by simp; omega
    go_wp2_with fail
    refine hrv.mono ?_
    rintro e wG ⟨ga, gc, rfl, _, hbG⟩
    go_wp2
    go_ret
    exact ⟨rfl, hbwS.trans ((hR.bl.trans (hbG.mono hR.bl.size)).mono hbwS.size)⟩
  case pos =>
  have hrv := implRecv c.isn (P.map (·.1)) (by rw [← hK.out]; omega) hi.1 hi.2 qa K qc wr hK.out.symm hQI
  rw [recvs_length, ← hK.out] at hrv
  have hd4 : decide ((4000 : Int) < (K : Int)) = false := by simp; omega
  go_wp2_with fail
  refine hrv.mono ?_
  rintro e wG ⟨ga, gc, rfl, hGr, hbG⟩
  have hRG := hR.kept hbG
  clear hrv hR hQr hQI c0 c1 c2 c3 c4 c5
  go_wp2_with fail
  obtain ⟨sa, sc, rfl, _, _, _, hsI⟩ := hRG.s.shape
  obtain ⟨aa, ac, rfl, _, _, _, haI⟩ := hRG.a.shape
  obtain ⟨ta, tc, rfl, _, _, _, htI⟩ := hRG.t.shape
  obtain ⟨NS, hNS⟩ : ∃ NS, Hid (NS = SL.length) := ⟨_, rfl⟩
  obtain ⟨NA, hNA⟩ : ∃ NA, Hid (NA = AL.length) := ⟨_, rfl⟩
  have hTl : (P.map (·.2)).length = K := by rw [List.length_map, hKP.out]
  rw [hTl, ← hNS.out, ← hNA.out]
  rw [← hNS.out] at hSLl
  have hCG : wG.heap[w1.heap.size]? = wc.heap[w1.heap.size]? := (hRG.bl.block _ hwW).trans hCS
  have hL2 := Lie2.ofRow (by rw [recvs_length, hK.out]) hGr
  have sG := hRG.bl.size
  clear hTl
  go_loopw [23, 24] (fun mv iv wx => ∃ (i m : Nat), i ≤ K ∧ iv = .int .i64 (i : Int) ∧ mv = .int .i64 (m : Int) ∧ m ≤ NS ∧ waits c.isn ((P.map (·.1)).take i) = (c.isn + (m : Int)) % 4294967296 ∧ Below wG.heap.size wG wx) (fun _ iv _ => K - (intOf iv).toNat)
  case atStart => exact ⟨0, 0, Nat.zero_le _, rfl, rfl, Nat.zero_le _, by simp [waits]; omega, Below.refl _ _⟩
  case round =>
  obtain ⟨i2, m, hi2, rfl, rfl, hmN, hwt, hbx⟩ := hrel
  have sx := hbx.size
  obtain ⟨c0, c1, c2, c3, c4, c5⟩ := HC.out wr ((hbx.block _ (by omega)).trans hCG)
  by_cases hlt2 : i2 < K
  case pos =>
    have hiP : i2 < P.length := by have := hKP.out; omega
    rcases hL2 with h0 | ⟨gb, go, rfl, hgc⟩
    · have := recvs_length c.isn (P.map (·.1)); rw [h0] at this; have := hK.out; simp at *; omega
    have hrl : i2 < (recvs c.isn (P.map (·.1))).length := by rw [recvs_length, List.length_map]; exact hiP
    obtain ⟨z0, z1⟩ := hgc i2 hrl
    obtain ⟨⟨z, tg⟩, hpe⟩ : ∃ p, P[i2] = p := ⟨_, rfl⟩
    have hzq : (P.map (·.1)).getD i2 0 = z := by simp [hiP, hpe]
    have htq : (P.map (·.2)).getD i2 0 = tg := by simp [hiP, hpe]
    have hra : (recvs c.isn (P.map (·.1)))[i2] = outOf ((c.isn + (m : Int)) % 4294967296) z := by
      have h1 := recvs_at c.isn (P.map (·.1)) i2 (by rw [List.length_map]; exact hiP)
      rw [hwt, hzq, List.getElem?_eq_getElem hrl] at h1
      exact Option.some.inj h1
    rw [hra] at z0 z1
    have hwn := waits_take c.isn (P.map (·.1)) i2 (by rw [List.length_map]; exact hiP)
    rw [hwt, hzq] at hwn
    obtain ⟨idx, hx1, hx2, hx3⟩ := hPo (P[i2]) (List.getElem_mem hiP)
    rw [hpe] at hx2 hx3
    simp only at hx2 hx3
    have hx2' : z = (c.isn + (idx : Int)) % 4294967296 := hx2
    have y0 := (hbx.cell (World.block_lt_of_cell? wG _ z0)).trans z0
    have y1 := (hbx.cell (World.block_lt_of_cell? wG _ z1)).trans z1
    have hi2K : (i2 : Int) < (K : Int) := by omega
    have hto : ∃ tb tof, ta = some ⟨tb, tof, none⟩ ∧ wr.cell? ⟨tb, tof + i2, none⟩ = some (.int .i64 tg) := by
      rcases htI with h0 | ⟨tb, tof, rfl, htc⟩
      · have := congrArg List.length h0; rw [List.length_map] at this; simp only [List.length_nil] at this; omega
      · have h1 := htc i2 (by rw [List.length_map]; exact hiP)
        rw [htq] at h1
        exact ⟨tb, tof, rfl, (hbx.cell (World.block_lt_of_cell? wG _ h1)).trans h1⟩
    obtain ⟨tb, tof, hte, htc2⟩ := hto
    subst hte
    by_cases hz : z = (c.isn + (m : Int)) % 4294967296
    case pos =>
      have him : idx = m := by have := hNS.out; omega
      subst him
      have hmS : idx < NS := by have := hNS.out; omega
      have hmSi : (idx : Int) < (NS : Int) := by omega
      have dms : decide ((NS : Int) ≤ (idx : Int)) = false := by simp; omega
      have hso : ∃ sb so, sa = some ⟨sb, so, none⟩ ∧ wr.cell? ⟨sb, so + idx, none⟩ = some (.int .i64 tg) := by
        rcases hsI with h0 | ⟨sb, so, rfl, hsc⟩
        · rw [h0] at hx1; simp at hx1
        · have h1 := hsc idx hx1
          rw [← hx3] at h1
          exact ⟨sb, so, rfl, (hbx.cell (World.block_lt_of_cell? wG _ h1)).trans h1⟩
      obtain ⟨sb, so, hse, hsc2⟩ := hso
      subst hse
      have hun : outOf ((c.isn + (idx : Int)) % 4294967296) z = (1, (c.isn + ((idx : Int) + 1)) % 4294967296) := by
        unfold outOf nextUp
        rw [if_pos hz, if_pos hz]
        congr 1
        omega
      rw [hun] at y0 y1
      simp only at y0 y1
      have HWN : Hid (waits c.isn ((P.map (·.1)).take (i2 + 1)) = (c.isn + ((idx + 1 : Nat) : Int)) % 4294967296) := by
        unfold Hid
        rw [hwn]
        unfold nextUp
        rw [if_pos hz]
        omega
      obtain ⟨ak, hak⟩ : ∃ ak, (c.isn + ((idx : Int) + 1)) % 4294967296 = ak := ⟨_, rfl⟩
      rw [hak] at y1
      clear hgc z0 z1 hra hwn hun hwt hzq htq hpe hx2 hx2' hz hrl hiP hx3
      go_wp2_with fail
      go_quiet (fail)
      go_wp2_with fail
      go_quiet (fail)
      go_wp2_with fail
      go_roundw
      case rel => exact ⟨i2 + 1, idx + 1, by omega, by go_num, by go_num, by omega, HWN.out, by first | exact drewsN (drewsN hbx _) _ | exact drewsN hbx _ | exact hbx⟩
      case measure => simp [intOf]; omega
    case neg =>
      have hun : outOf ((c.isn + (m : Int)) % 4294967296) z = (0, (c.isn + (m : Int)) % 4294967296) := by
        unfold outOf nextUp
        rw [if_neg hz, if_neg hz]
      rw [hun] at y0 y1
      simp only at y0 y1
      have HWN : Hid (waits c.isn ((P.map (·.1)).take (i2 + 1)) = (c.isn + (m : Int)) % 4294967296) := by
        unfold Hid
        rw [hwn]
        unfold nextUp
        rw [if_neg hz]
      obtain ⟨ak, hak⟩ : ∃ ak, (c.isn + (m : Int)) % 4294967296 = ak := ⟨_, rfl⟩
      rw [hak] at y1
      have hm5 : m ≤ 500 := by omega
      clear hgc z0 z1 hra hwn hun hwt hzq htq hpe hx2 hx2' hz hrl hiP hx3
      go_wp2_with fail
      go_quiet (fail)
      go_wp2_with fail
      go_roundw
      case rel => exact ⟨i2 + 1, m, by omega, by go_num, rfl, hmN, by rw [HWN.out], by first | exact drewsN hbx _ | exact hbx⟩
      case measure => simp [intOf]; omega
  case neg =>
  obtain rfl : i2 = K := by omega
  have hki : ¬ (i2 : Int) < (i2 : Int) := by omega
  have HWM : Hid _ := hwt
  clear hwt
  go_wp2_with fail
  clear c0 c1 c2 c3 c4 c5
  go_loopw [25] (fun iv wx => ∃ (i : Nat), i ≤ NA ∧ iv = .int .i64 (i : Int) ∧ Below wG.heap.size wG wx) (fun iv _ => NA - (intOf iv).toNat)
  case atStart => exact ⟨0, Nat.zero_le _, rfl, hbx⟩
  case round =>
  clear hbx sx
  obtain ⟨i6, hi6, rfl, hbx⟩ := hrel
  have sx := hbx.size
  by_cases hlt6 : i6 < NA
  case pos =>
    as_aux_lemma =>
      have hA6 : i6 < AL.length := by have := hNA.out; omega
      have hLL : AL.length ≤ SL.length := by rw [HS0.out, List.length_append]; omega
      have hSA : SL.getD i6 0 = AL.getD i6 0 := by rw [HS0.out, List.getD_eq_getElem?_getD, List.getD_eq_getElem?_getD, List.getElem?_append_left hA6]
      obtain ⟨y, hy⟩ : ∃ y, AL.getD i6 0 = y := ⟨_, rfl⟩
      rw [hy] at hSA
      have hao : ∃ ab ao, aa = some ⟨ab, ao, none⟩ ∧ wr.cell? ⟨ab, ao + i6, none⟩ = some (.int .i64 y) := by
        rcases haI with h0 | ⟨ab, ao, rfl, h1⟩
        · rw [h0] at hA6; simp at hA6
        · have h2 := h1 i6 hA6
          rw [hy] at h2
          exact ⟨ab, ao, rfl, (hbx.cell (World.block_lt_of_cell? wG _ h2)).trans h2⟩
      have hso : ∃ sb so, sa = some ⟨sb, so, none⟩ ∧ wr.cell? ⟨sb, so + i6, none⟩ = some (.int .i64 y) := by
        rcases hsI with h0 | ⟨sb, so, rfl, h1⟩
        · rw [h0] at hLL; simp at hLL; rw [hLL] at hA6; simp at hA6
        · have h2 := h1 i6 (by omega)
          rw [hSA] at h2
          exact ⟨sb, so, rfl, (hbx.cell (World.block_lt_of_cell? wG _ h2)).trans h2⟩
      obtain ⟨ab, ao, hae, hac2⟩ := hao
      obtain ⟨sb, so, hse, hsc2⟩ := hso
      subst hae hse
      have h6i : (i6 : Int) < (NA : Int) := by omega
      have h6s : (i6 : Int) < (NS : Int) := by have := hNA.out; have := hNS.out; omega
      have d6 : decide ((NS : Int) ≤ (i6 : Int)) = false := by simp; omega
      have h6n : i6 < NS := by omega
      have d6n : decide (NS ≤ i6) = false := by simp; omega
      clear hy hSA
      go_wp2_with fail
      go_quiet (fail)
      go_wp2_with fail
      go_roundw
      case rel => exact ⟨i6 + 1, by omega, by go_num, by first | exact drewsN hbx _ | exact hbx⟩
      case measure => simp [intOf]; omega
  case neg =>
  obtain rfl : i6 = NA := by omega
  have hki6 : ¬ (i6 : Int) < (i6 : Int) := by omega
  obtain ⟨sq, hsq⟩ : ∃ sq, (c.isn + (m : Int)) % 4294967296 = sq := ⟨_, rfl⟩
  have HSQ : Hid ((c.isn + (m : Int)) % 4294967296 = sq) := hsq
  have hsq0 : 0 ≤ sq ∧ sq ≤ 4294967295 := by omega
  have hbSr : Below wS.heap.size wS wr := hRG.bl.trans (hbx.mono hRG.bl.size)
  have hm5 : m ≤ 500 := by omega
  have hwm : IntKind.u32.wrap (m : Int) = (m : Int) := by rw [IntKind.wrap_u32]; omega
  have hws : IntKind.u32.wrap (c.isn + (m : Int)) = sq := by rw [IntKind.wrap_u32]; exact hsq
  have hEvr : EvRow wr w.heap.size ea i ec es := HEVS.out.kept fun k hk => hbSr.block k (HEVS.out.lt k hk).2.1
  have hEvA : EvRow (wr.alloc (.cells #[.int .i64 2, .int .i64 0, .int .u32 sq] 43)).drew w.heap.size ea i ec es := hEvr.kept fun k hk => Below.heap_alloc _ _ _ (hEvr.lt k hk).2.1
  have hnA : (wr.alloc (.cells #[.int .i64 2, .int .i64 0, .int .u32 sq] 43)).drew.heap[wr.heap.size]? = some (.cells #[.int .i64 2, .int .i64 0, .int .u32 sq] 43) := box_new _ _ _ rfl
  have hsA : (wr.alloc (.cells #[.int .i64 2, .int .i64 0, .int .u32 sq] 43)).drew.heap.size = wr.heap.size + 1 := by simp
  have hbA : w.heap.size ≤ (wr.alloc (.cells #[.int .i64 2, .int .i64 0, .int .u32 sq] 43)).drew.heap.size := by have := hbwS.size; have := hbSr.size; omega
  have hiA : i ≤ 1000000 := by omega
  have hCr : wr.heap[w1.heap.size]? = wc.heap[w1.heap.size]? := (hbSr.block _ hwW).trans hCS
  have hzw : w1.heap.size < wr.heap.size := by have := hbSr.size; omega
  have HEL : Hid ((es ++ [(2, 0, sq)]).length = i + 1) := by unfold Hid; rw [List.length_append, HLEN.out]; rfl
  have HXL : Hid (∀ e ∈ es ++ [((2 : Int), (0 : Int), sq)], 0 ≤ e.2.2 ∧ e.2.2 ≤ 4294967295) := by
    unfold Hid
    intro e he
    rcases List.mem_append.1 he with h | h
    · exact HX.out e h
    · simp only [List.mem_singleton] at h
      subst h
      exact hsq0
  have HK4 : Hid (∀ w4 : World, (wr.alloc (.cells #[.int .i64 2, .int .i64 0, .int .u32 sq] 43)).drew.grownBy w4 (Value.slice ea i ec).ownBlock → w4.heap[w1.heap.size]? = wc.heap[w1.heap.size]? ∧ (∀ k, k < wr.heap.size → some k ≠ (Value.slice ea i ec).ownBlock → w4.heap[k]? = wr.heap[k]?) ∧ wr.heap.size < w4.heap.size) := by
    unfold Hid
    intro w4 hg
    have hk : ∀ k, k < wr.heap.size → some k ≠ (Value.slice ea i ec).ownBlock → w4.heap[k]? = wr.heap[k]? := fun k h1 h2 => (hg.block k (by omega) h2).trans (Below.heap_alloc _ _ _ h1)
    refine ⟨(hk _ hzw (fun e => ?_)).trans hCr, hk, by have := hg.size; omega⟩
    obtain ⟨_, _, cs, hcs⟩ := hEvr.lt _ e.symm
    exact type_ne hcs (hCr.trans hCV) (by decide) rfl
  obtain ⟨c0, c1, c2, c3, c4, c5⟩ := HC.out wr hCr
  clear hsq
  go_wp2_with fail
  go_region_held3 (fun w' => w'.cell? ⟨w1.heap.size, 0, none⟩ = some (.int .u32 c.isn) ∧ w'.cell? ⟨w1.heap.size, 1, none⟩ = some (.int .i64 c.win) ∧ w'.cell? ⟨w1.heap.size, 2, none⟩ = some (.int .i64 c.rto) ∧ w'.cell? ⟨w1.heap.size, 3, none⟩ = some (.int .i64 c.mrto) ∧ w'.cell? ⟨w1.heap.size, 4, none⟩ = some (.int .i64 c.da) ∧ w'.cell? ⟨w1.heap.size, 5, none⟩ = some (.int .i64 c.pe))
    (first | (go_keep; done) | exact ⟨by assumption, by assumption, by assumption, by assumption, by assumption, by assumption⟩)
    (first
      | (refine step_appEv (wr.alloc (.cells #[.int .i64 2, .int .i64 0, .int .u32 sq] 43)).drew (by rfl) _ _ (by rfl) w.heap.size ea i ec es 2 0 sq (by rfl) hEvA wr.heap.size (by rfl) hnA hiA hbA ?_; intro a4 cap4 w4 hL4 hEv4 hg4; obtain ⟨hC4, hk4, hs4⟩ := HK4.out w4 hg4; obtain ⟨j0, j1, j2, j3, j4, j5⟩ := HC.out w4 hC4; have hrn := implRun_ok c hc hi a4 (es ++ [(2, 0, sq)]) (i + 1) cap4 w4 HEL.out (by omega) HXL.out hL4)
      | (go_at_call 18; with_reducible (refine Calls.mono hrn ?_); rintro e w5 ⟨la, lc, G3, rfl, hO3, hG3, hb5⟩; obtain ⟨l0, l1, l2, l3, l4, l5⟩ := HC.out w5 ((hb5.block _ (by omega)).trans hC4)))
  have hBw5 : Below w.heap.size w w5 := by
    have h1 := hbwS.trans (hbSr.mono hbwS.size)
    have h2 := (h1.alloc h1.size (.cells #[.int .i64 2, .int .i64 0, .int .u32 sq] 43)).drew.grown hg4 (by have := h1.size; omega) (fun k hk => (HEVS.out.lt k hk).1)
    exact h2.trans (hb5.mono h2.size)
  have hEv5 : EvRow w5 w.heap.size ea i ec es := hEv4.kept fun k hk => hb5.block k (hEv4.lt k hk).2.1
  have hC5 : w5.heap[w1.heap.size]? = wc.heap[w1.heap.size]? := (hb5.block _ (by omega)).trans hC4
  have s45 := hb5.size
  have hk5 : ∀ k, k < wr.heap.size → some k ≠ (Value.slice ea i ec).ownBlock → w5.heap[k]? = wr.heap[k]? := fun k h1 h2 => (hb5.block k (by omega)).trans (hk4 k h1 h2)
  have hevS : ∀ k, (Value.slice ea i ec).ownBlock = some k → w.heap.size ≤ k ∧ k < wS.heap.size := fun k hk => ⟨(HEVS.out.lt k hk).1, (HEVS.out.lt k hk).2.1⟩
  clear hrn j0 j1 j2 j3 j4 j5 hEvA hnA hsA hbA HK4 hEvr c0 c1 c2 c3 c4 c5 l0 l1 l2 l3 l4 l5 hL4 hEv4
  have hEvA : EvRow (w5.alloc (.cells #[.int .i64 2, .int .i64 0, .int .u32 sq] 43)).drew w.heap.size ea i ec es := hEv5.kept fun k hk => Below.heap_alloc _ _ _ (hEv5.lt k hk).2.1
  have hnA : (w5.alloc (.cells #[.int .i64 2, .int .i64 0, .int .u32 sq] 43)).drew.heap[w5.heap.size]? = some (.cells #[.int .i64 2, .int .i64 0, .int .u32 sq] 43) := box_new _ _ _ rfl
  have hsA : (w5.alloc (.cells #[.int .i64 2, .int .i64 0, .int .u32 sq] 43)).drew.heap.size = w5.heap.size + 1 := by simp
  have hbA : w.heap.size ≤ (w5.alloc (.cells #[.int .i64 2, .int .i64 0, .int .u32 sq] 43)).drew.heap.size := by have := hbwS.size; have := hbSr.size; omega
  have hzw5 : w1.heap.size < w5.heap.size := by omega
  obtain ⟨s2, hs2'⟩ : ∃ s2, s2 = stAt c (es ++ [((2 : Int), (0 : Int), sq)]) := ⟨_, rfl⟩
  have hs2 : Hid (s2 = stAt c (es ++ [((2 : Int), (0 : Int), sq)])) := hs2'
  clear hs2'
  have HK6 : Hid (∀ (WA : World), (∀ k, k < w5.heap.size → WA.heap[k]? = w5.heap[k]?) → w5.heap.size < WA.heap.size → Below w.heap.size w WA → ∀ w6 : World, WA.grownBy w6 (Value.slice ea i ec).ownBlock → w6.heap[w1.heap.size]? = wc.heap[w1.heap.size]? ∧ (∀ k, k < w5.heap.size → some k ≠ (Value.slice ea i ec).ownBlock → w6.heap[k]? = w5.heap[k]?) ∧ WA.heap.size ≤ w6.heap.size ∧ (∀ k, w5.heap.size ≤ k → k < WA.heap.size → w6.heap[k]? = WA.heap[k]?) ∧ Below w.heap.size w w6) := by
    unfold Hid
    intro WA hW hs hb w6 hg
    have hk : ∀ k, k < w5.heap.size → some k ≠ (Value.slice ea i ec).ownBlock → w6.heap[k]? = w5.heap[k]? := fun k h1 h2 => (hg.block k (by omega) h2).trans (hW k h1)
    refine ⟨(hk _ hzw5 (fun e => ?_)).trans hC5, hk, hg.size, fun k h1 h2 => hg.block k h2 (fun e => ?_), hb.grown hg hb.size (fun k hk => (hevS k hk).1)⟩
    · obtain ⟨_, _, cs, hcs⟩ := hEv5.lt _ e.symm
      exact type_ne hcs (hC5.trans hCV) (by decide) rfl
    · have := (hEv5.lt _ e.symm).2.1
      omega
  have hb51 := (hBw5.alloc hBw5.size (.cells #[.int .i64 2, .int .i64 0, .int .u32 sq] 43)).drew
  have hb52 := ((hBw5.alloc hBw5.size (.cells #[.int .i64 2, .int .i64 0, .int .u32 sq] 43)).alloc (hBw5.alloc hBw5.size (.cells #[.int .i64 2, .int .i64 0, .int .u32 sq] 43)).size (.cells #[.int .u32 0, .int .u32 0, .slice none 0 0, .int .i64 0, .int .i64 0, .int .i64 0, .int .i64 0, .int .i64 0] 54)).drew
  have hb53 := ((hBw5.alloc hBw5.size (.cells #[.int .u32 0, .int .u32 0, .slice none 0 0, .int .i64 0, .int .i64 0, .int .i64 0, .int .i64 0, .int .i64 0] 54)).alloc (hBw5.alloc hBw5.size (.cells #[.int .u32 0, .int .u32 0, .slice none 0 0, .int .i64 0, .int .i64 0, .int .i64 0, .int .i64 0, .int .i64 0] 54)).size (.cells #[.int .i64 2, .int .i64 0, .int .u32 sq] 43)).drew
  have hW1 : ∀ k, k < w5.heap.size → (w5.alloc (.cells #[.int .i64 2, .int .i64 0, .int .u32 sq] 43)).drew.heap[k]? = w5.heap[k]? := fun k hk => Below.heap_alloc _ _ _ hk
  have hW2 : ∀ k, k < w5.heap.size → ((w5.alloc (.cells #[.int .i64 2, .int .i64 0, .int .u32 sq] 43)).alloc (.cells #[.int .u32 0, .int .u32 0, .slice none 0 0, .int .i64 0, .int .i64 0, .int .i64 0, .int .i64 0, .int .i64 0] 54)).drew.heap[k]? = w5.heap[k]? := fun k hk => (Below.heap_alloc (w5.alloc (.cells #[.int .i64 2, .int .i64 0, .int .u32 sq] 43)) _ k (by simp; omega)).trans (Below.heap_alloc _ _ _ hk)
  have hW3 : ∀ k, k < w5.heap.size → ((w5.alloc (.cells #[.int .u32 0, .int .u32 0, .slice none 0 0, .int .i64 0, .int .i64 0, .int .i64 0, .int .i64 0, .int .i64 0] 54)).alloc (.cells #[.int .i64 2, .int .i64 0, .int .u32 sq] 43)).drew.heap[k]? = w5.heap[k]? := fun k hk => (Below.heap_alloc (w5.alloc (.cells #[.int .u32 0, .int .u32 0, .slice none 0 0, .int .i64 0, .int .i64 0, .int .i64 0, .int .i64 0, .int .i64 0] 54)) _ k (by simp; omega)).trans (Below.heap_alloc _ _ _ hk)
  have hs51 : (w5.alloc (.cells #[.int .i64 2, .int .i64 0, .int .u32 sq] 43)).drew.heap.size = w5.heap.size + 1 := by simp
  have hs52 : ((w5.alloc (.cells #[.int .i64 2, .int .i64 0, .int .u32 sq] 43)).alloc (.cells #[.int .u32 0, .int .u32 0, .slice none 0 0, .int .i64 0, .int .i64 0, .int .i64 0, .int .i64 0, .int .i64 0] 54)).drew.heap.size = w5.heap.size + 2 := by simp
  have hs53 : ((w5.alloc (.cells #[.int .u32 0, .int .u32 0, .slice none 0 0, .int .i64 0, .int .i64 0, .int .i64 0, .int .i64 0, .int .i64 0] 54)).alloc (.cells #[.int .i64 2, .int .i64 0, .int .u32 sq] 43)).drew.heap.size = w5.heap.size + 2 := by simp
  have hEvA2 : EvRow ((w5.alloc (.cells #[.int .i64 2, .int .i64 0, .int .u32 sq] 43)).alloc (.cells #[.int .u32 0, .int .u32 0, .slice none 0 0, .int .i64 0, .int .i64 0, .int .i64 0, .int .i64 0, .int .i64 0] 54)).drew w.heap.size ea i ec es := hEv5.kept fun k hk => hW2 k (hEv5.lt k hk).2.1
  have hEvA3 : EvRow ((w5.alloc (.cells #[.int .u32 0, .int .u32 0, .slice none 0 0, .int .i64 0, .int .i64 0, .int .i64 0, .int .i64 0, .int .i64 0] 54)).alloc (.cells #[.int .i64 2, .int .i64 0, .int .u32 sq] 43)).drew w.heap.size ea i ec es := hEv5.kept fun k hk => hW3 k (hEv5.lt k hk).2.1
  have hnA2 : ((w5.alloc (.cells #[.int .i64 2, .int .i64 0, .int .u32 sq] 43)).alloc (.cells #[.int .u32 0, .int .u32 0, .slice none 0 0, .int .i64 0, .int .i64 0, .int .i64 0, .int .i64 0, .int .i64 0] 54)).drew.heap[w5.heap.size]? = some (.cells #[.int .i64 2, .int .i64 0, .int .u32 sq] 43) := (Below.heap_alloc (w5.alloc (.cells #[.int .i64 2, .int .i64 0, .int .u32 sq] 43)) _ _ (by simp)).trans (box_new _ _ _ rfl)
  have hnA3 : ((w5.alloc (.cells #[.int .u32 0, .int .u32 0, .slice none 0 0, .int .i64 0, .int .i64 0, .int .i64 0, .int .i64 0, .int .i64 0] 54)).alloc (.cells #[.int .i64 2, .int .i64 0, .int .u32 sq] 43)).drew.heap[w5.heap.size + 1]? = some (.cells #[.int .i64 2, .int .i64 0, .int .u32 sq] 43) := box_new _ _ _ (by simp)
  have hzA2 : ((w5.alloc (.cells #[.int .i64 2, .int .i64 0, .int .u32 sq] 43)).alloc (.cells #[.int .u32 0, .int .u32 0, .slice none 0 0, .int .i64 0, .int .i64 0, .int .i64 0, .int .i64 0, .int .i64 0] 54)).drew.heap[w5.heap.size + 1]? = some (.cells #[.int .u32 0, .int .u32 0, .slice none 0 0, .int .i64 0, .int .i64 0, .int .i64 0, .int .i64 0, .int .i64 0] 54) := box_new _ _ _ (by simp)
  have hzA3 : ((w5.alloc (.cells #[.int .u32 0, .int .u32 0, .slice none 0 0, .int .i64 0, .int .i64 0, .int .i64 0, .int .i64 0, .int .i64 0] 54)).alloc (.cells #[.int .i64 2, .int .i64 0, .int .u32 sq] 43)).drew.heap[w5.heap.size]? = some (.cells #[.int .u32 0, .int .u32 0, .slice none 0 0, .int .i64 0, .int .i64 0, .int .i64 0, .int .i64 0, .int .i64 0] 54) := (Below.heap_alloc (w5.alloc (.cells #[.int .u32 0, .int .u32 0, .slice none 0 0, .int .i64 0, .int .i64 0, .int .i64 0, .int .i64 0, .int .i64 0] 54)) _ _ (by simp)).trans (box_new _ _ _ rfl)
  obtain ⟨c0, c1, c2, c3, c4, c5⟩ := HC.out w5 hC5
  obtain ⟨q0, hq0⟩ : ∃ q, Hid (q = seqOf c s2.done) := ⟨_, rfl⟩
  obtain ⟨q1, hq1⟩ : ∃ q, Hid (q = seqOf c (s2.done + s2.tags.length)) := ⟨_, rfl⟩
  obtain ⟨NT, hNT⟩ : ∃ NT, Hid (NT = s2.tags.length) := ⟨_, rfl⟩
  have HST : Hid (∀ (w6 : World) a6 cap6, Lie3 .i64 .i64 .u32 w6 a6 (es ++ [(2, 0, sq)]) → Calls Try.prog 19 #[cfV c, .slice a6 (i + 1) cap6] w6 fun e w' => ∃ va vc, e = .returned (.tuple #[.agg #[.int .u32 q0, .int .u32 q1, .slice va NT vc, .int .i64 s2.timer, .int .i64 s2.rto, .int .i64 s2.count, .int .i64 s2.probe, .int .i64 s2.dead], .int .i64 0]) ∧ w'.ownsRow w6.heap.size 2 1 (.slice va NT vc) NT (s2.tags.map (.int .i64)) ∧ Below w6.heap.size w6 w') := by
    unfold Hid
    intro w6 a6 cap6 hL
    have h := implState_ok c hc hi a6 (es ++ [(2, 0, sq)]) (i + 1) cap6 w6 HEL.out (by omega) HXL.out hL
    rw [← hs2.out] at h
    unfold viewV at h
    rw [← hq1.out, ← hNT.out, ← hq0.out] at h
    exact h
  have HB51 : Hid _ := hb51
  have HB52 : Hid _ := hb52
  have HB53 : Hid _ := hb53
  have HW1 : Hid _ := hW1
  have HW2 : Hid _ := hW2
  have HW3 : Hid _ := hW3
  have HZA2 : Hid _ := hzA2
  have HZA3 : Hid _ := hzA3
  clear hb51 hb52 hb53 hW1 hW2 hW3 hzA2 hzA3
  go_upto_region 60 with fail
  go_cut [28, 29] from 290 (fun vp c4v wx => ∃ (VB : Nat) (va : Option Addr) (vc : Nat), vp = .pointer (some ⟨VB, 0, none⟩) ∧ c4v = .int .i64 0 ∧ wx.heap[VB]? = some (.cells #[.int .u32 q0, .int .u32 q1, .slice va NT vc, .int .i64 s2.timer, .int .i64 s2.rto, .int .i64 s2.count, .int .i64 s2.probe, .int .i64 s2.dead] 54 (0, 0)) ∧ wx.ownsRow w5.heap.size 2 1 (.slice va NT vc) NT (s2.tags.map (.int .i64)) ∧ (∀ k, k < w5.heap.size → some k ≠ (Value.slice ea i ec).ownBlock → wx.heap[k]? = w5.heap[k]?) ∧ Below w.heap.size w wx)
  case first =>
    go_region_held3 (fun w' => w'.cell? ⟨w1.heap.size, 0, none⟩ = some (.int .u32 c.isn) ∧ w'.cell? ⟨w1.heap.size, 1, none⟩ = some (.int .i64 c.win) ∧ w'.cell? ⟨w1.heap.size, 2, none⟩ = some (.int .i64 c.rto) ∧ w'.cell? ⟨w1.heap.size, 3, none⟩ = some (.int .i64 c.mrto) ∧ w'.cell? ⟨w1.heap.size, 4, none⟩ = some (.int .i64 c.da) ∧ w'.cell? ⟨w1.heap.size, 5, none⟩ = some (.int .i64 c.pe))
      (first | (go_keep; done) | exact ⟨by assumption, by assumption, by assumption, by assumption, by assumption, by assumption⟩)
      (first
        | (refine step_appEv (w5.alloc (.cells #[.int .i64 2, .int .i64 0, .int .u32 sq] 43)).drew (by rfl) _ _ (by rfl) w.heap.size ea i ec es 2 0 sq (by rfl) hEvA w5.heap.size (by rfl) hnA hiA hbA ?_; intro a6 cap6 w6 hL6 hEv6 hg6; obtain ⟨hC6, hk6, hs6, hn6, hB6⟩ := HK6.out _ HW1.out (by omega) HB51.out w6 hg6; obtain ⟨j0, j1, j2, j3, j4, j5⟩ := HC.out w6 hC6; have hrn := HST.out w6 a6 cap6 hL6; have n6 : w1.heap.size < w6.heap.size := (by omega))
        | (refine step_appEv ((w5.alloc (.cells #[.int .i64 2, .int .i64 0, .int .u32 sq] 43)).alloc (.cells #[.int .u32 0, .int .u32 0, .slice none 0 0, .int .i64 0, .int .i64 0, .int .i64 0, .int .i64 0, .int .i64 0] 54)).drew (by rfl) _ _ (by rfl) w.heap.size ea i ec es 2 0 sq (by rfl) hEvA2 w5.heap.size (by rfl) hnA2 hiA (by omega) ?_; intro a6 cap6 w6 hL6 hEv6 hg6; obtain ⟨hC6, hk6, hs6, hn6, hB6⟩ := HK6.out _ HW2.out (by omega) HB52.out w6 hg6; obtain ⟨j0, j1, j2, j3, j4, j5⟩ := HC.out w6 hC6; have hrn := HST.out w6 a6 cap6 hL6; have n6 : w1.heap.size < w6.heap.size := (by omega); have hV6 := (hn6 (w5.heap.size + 1) (by omega) (by omega)).trans HZA2.out; have v6 : w5.heap.size + 1 < w6.heap.size := (by omega); have n7 : ¬ w1.heap.size = w5.heap.size + 1 := (by omega); have n8 : ¬ w5.heap.size + 1 = w1.heap.size := (by omega))
        | (refine step_appEv ((w5.alloc (.cells #[.int .u32 0, .int .u32 0, .slice none 0 0, .int .i64 0, .int .i64 0, .int .i64 0, .int .i64 0, .int .i64 0] 54)).alloc (.cells #[.int .i64 2, .int .i64 0, .int .u32 sq] 43)).drew (by rfl) _ _ (by rfl) w.heap.size ea i ec es 2 0 sq (by rfl) hEvA3 (w5.heap.size + 1) (by rfl) hnA3 hiA (by omega) ?_; intro a6 cap6 w6 hL6 hEv6 hg6; obtain ⟨hC6, hk6, hs6, hn6, hB6⟩ := HK6.out _ HW3.out (by omega) HB53.out w6 hg6; obtain ⟨j0, j1, j2, j3, j4, j5⟩ := HC.out w6 hC6; have hrn := HST.out w6 a6 cap6 hL6; have n6 : w1.heap.size < w6.heap.size := (by omega); have hV6 := (hn6 w5.heap.size (by omega) (by omega)).trans HZA3.out; have v6 : w5.heap.size < w6.heap.size := (by omega); have n7 : ¬ w1.heap.size = w5.heap.size := (by omega); have n8 : ¬ w5.heap.size = w1.heap.size := (by omega))
        | (go_at_call 19; with_reducible (refine Calls.mono hrn ?_); rintro e w7 ⟨va, vc, rfl, hva, hb7⟩; have hs7 := hb7.size; have hV7 := (hb7.block _ v6).trans hV6; obtain ⟨l0, l1, l2, l3, l4, l5⟩ := HC.out w7 ((hb7.block _ n6).trans hC6); obtain ⟨⟨y0, y1, y2, y3, y4, y5, y6, y7⟩, g0, g1, g2, g3, g4, g5, g6, g7⟩ := cells8 hV7)
        | (go_at_call 19; with_reducible (refine Calls.mono hrn ?_); rintro e w7 ⟨va, vc, rfl, hva, hb7⟩; have hs7 := hb7.size; obtain ⟨l0, l1, l2, l3, l4, l5⟩ := HC.out w7 ((hb7.block _ n6).trans hC6); have n7 : w1.heap.size < w7.heap.size := (by omega))
        | (go_at_call 19; with_reducible (refine Calls.mono (HST.out (w6.alloc (.cells #[.int .u32 0, .int .u32 0, .slice none 0 0, .int .i64 0, .int .i64 0, .int .i64 0, .int .i64 0, .int .i64 0] 54)) a6 cap6 (hL6.moved ((Below.refl _ _).alloc (Nat.le_refl _) _))) ?_); rintro e w7 ⟨va, vc, rfl, hva, hb7⟩; have n7 : ¬ w1.heap.size = w6.heap.size := (by omega); have n8 : ¬ w6.heap.size = w1.heap.size := (by omega); have hs6' : w6.heap.size < (w6.alloc (.cells #[.int .u32 0, .int .u32 0, .slice none 0 0, .int .i64 0, .int .i64 0, .int .i64 0, .int .i64 0, .int .i64 0] 54)).heap.size := (by simp); have hCB := (hb7.block _ (by omega)).trans ((Below.heap_alloc w6 (.cells #[.int .u32 0, .int .u32 0, .slice none 0 0, .int .i64 0, .int .i64 0, .int .i64 0, .int .i64 0, .int .i64 0] 54) _ n6).trans hC6); obtain ⟨l0, l1, l2, l3, l4, l5⟩ := HC.out w7 hCB; have hV7 := (hb7.block _ hs6').trans (box_new w6 (.cells #[.int .u32 0, .int .u32 0, .slice none 0 0, .int .i64 0, .int .i64 0, .int .i64 0, .int .i64 0, .int .i64 0] 54) w6.heap.size rfl); obtain ⟨⟨y0, y1, y2, y3, y4, y5, y6, y7⟩, g0, g1, g2, g3, g4, g5, g6, g7⟩ := cells8 hV7))
    all_goals (go_wp2_with fail; go_meet)
    · exact ⟨_, va, vc, rfl, rfl, box_new _ _ _ rfl, own_base (own_alloc hva _) (by omega), fun k h1 h2 => (Below.heap_alloc _ _ _ (by omega)).trans ((hb7.block k (by omega)).trans (hk6 k h1 h2)), (hB6.trans (hb7.mono hB6.size)).alloc (hB6.trans (hb7.mono hB6.size)).size _⟩
    · have hBC := (hB6.alloc hB6.size (.cells #[.int .u32 0, .int .u32 0, .slice none 0 0, .int .i64 0, .int .i64 0, .int .i64 0, .int .i64 0, .int .i64 0] 54))
      have hBD := hBC.trans (hb7.mono hBC.size)
      have hs5w := hBw5.size
      exact ⟨_, va, vc, rfl, rfl, put8_block hV7 (.int .u32 q0) (.int .u32 q1) (.slice va NT vc) (.int .i64 s2.timer) (.int .i64 s2.rto) (.int .i64 s2.count) (.int .i64 s2.probe) (.int .i64 s2.dead), own_base (own_put8 hva hs6' (.int .u32 q0) (.int .u32 q1) (.slice va NT vc) (.int .i64 s2.timer) (.int .i64 s2.rto) (.int .i64 s2.count) (.int .i64 s2.probe) (.int .i64 s2.dead)) (by omega), fun k h1 h2 => (put8_other w7 w6.heap.size (.int .u32 q0) (.int .u32 q1) (.slice va NT vc) (.int .i64 s2.timer) (.int .i64 s2.rto) (.int .i64 s2.count) (.int .i64 s2.probe) (.int .i64 s2.dead) k (by omega)).trans ((hb7.block k (by omega)).trans ((Below.heap_alloc w6 _ k (by omega)).trans (hk6 k h1 h2))), put8_below hBD w6.heap.size (by omega) (.int .u32 q0) (.int .u32 q1) (.slice va NT vc) (.int .i64 s2.timer) (.int .i64 s2.rto) (.int .i64 s2.count) (.int .i64 s2.probe) (.int .i64 s2.dead)⟩
    · have hBD := hB6.trans (hb7.mono hB6.size)
      have hs5w := hBw5.size
      exact ⟨_, va, vc, rfl, rfl, put8_block hV7 (.int .u32 q0) (.int .u32 q1) (.slice va NT vc) (.int .i64 s2.timer) (.int .i64 s2.rto) (.int .i64 s2.count) (.int .i64 s2.probe) (.int .i64 s2.dead), own_base (own_put8 hva v6 (.int .u32 q0) (.int .u32 q1) (.slice va NT vc) (.int .i64 s2.timer) (.int .i64 s2.rto) (.int .i64 s2.count) (.int .i64 s2.probe) (.int .i64 s2.dead)) (by omega), fun k h1 h2 => (put8_other w7 (w5.heap.size + 1) (.int .u32 q0) (.int .u32 q1) (.slice va NT vc) (.int .i64 s2.timer) (.int .i64 s2.rto) (.int .i64 s2.count) (.int .i64 s2.probe) (.int .i64 s2.dead) k (by omega)).trans ((hb7.block k (by omega)).trans (hk6 k h1 h2)), put8_below hBD (w5.heap.size + 1) (by omega) (.int .u32 q0) (.int .u32 q1) (.slice va NT vc) (.int .i64 s2.timer) (.int .i64 s2.rto) (.int .i64 s2.count) (.int .i64 s2.probe) (.int .i64 s2.dead)⟩
    · have hBD := hB6.trans (hb7.mono hB6.size)
      have hs5w := hBw5.size
      exact ⟨_, va, vc, rfl, rfl, put8_block hV7 (.int .u32 q0) (.int .u32 q1) (.slice va NT vc) (.int .i64 s2.timer) (.int .i64 s2.rto) (.int .i64 s2.count) (.int .i64 s2.probe) (.int .i64 s2.dead), own_base (own_put8 hva v6 (.int .u32 q0) (.int .u32 q1) (.slice va NT vc) (.int .i64 s2.timer) (.int .i64 s2.rto) (.int .i64 s2.count) (.int .i64 s2.probe) (.int .i64 s2.dead)) (by omega), fun k h1 h2 => (put8_other w7 w5.heap.size (.int .u32 q0) (.int .u32 q1) (.slice va NT vc) (.int .i64 s2.timer) (.int .i64 s2.rto) (.int .i64 s2.count) (.int .i64 s2.probe) (.int .i64 s2.dead) k (by omega)).trans ((hb7.block k (by omega)).trans (hk6 k h1 h2)), put8_below hBD w5.heap.size (by omega) (.int .u32 q0) (.int .u32 q1) (.slice va NT vc) (.int .i64 s2.timer) (.int .i64 s2.rto) (.int .i64 s2.count) (.int .i64 s2.probe) (.int .i64 s2.dead)⟩
  case rest =>
    as_aux_lemma =>
      obtain ⟨VB, va, vc, rfl, rfl, hVB, hva, hk7, hB7⟩ := hcut
      clear HEVS HK6 HST HB51 HB52 HB53 HW1 HW2 HW3 HZA2 HZA3 hEvA hnA hsA hbA hEvA2 hEvA3 hnA2 hnA3 hs51 hs52 hs53 c0 c1 c2 c3 c4 c5 hEv5
      have hkeep : ∀ k, w4.heap.size ≤ k → k < w5.heap.size → wc.heap[k]? = w5.heap[k]? := fun k h1 h2 => hk7 k h2 (fun e => by have := (hevS k e.symm).2; omega)
      obtain ⟨o, hoe⟩ : ∃ o, Hid (o = (stepF c st (2, 0, sq)).1) := ⟨_, rfl⟩
      have hp : ∃ fv av, G3[i]? = some (o, fv, av) := by
        have h : (outsF c (startF c) (es ++ [(2, 0, sq)]))[i]? = some o := by
          rw [outsF_snoc, List.getElem?_append_right (by rw [outsF_length, HLEN.out]; exact Nat.le_refl _), outsF_length, HLEN.out, Nat.sub_self, hoe.out, hst.out]
          rfl
        rw [← hG3, List.getElem?_map] at h
        cases hg : G3[i]? with
        | none => rw [hg] at h; simp at h
        | some p =>
          rw [hg] at h
          simp only [Option.map_some, Option.some.injEq] at h
          exact ⟨p.2.1, p.2.2, by rw [← h]⟩
      obtain ⟨fv, av', hp⟩ := hp
      have hrow := own_same hO3.row (fun k hk => hkeep k (hO3.row.lt k hk).1 (hO3.row.lt k hk).2)
      have hak0 := hO3.ak _ (List.mem_of_getElem? hp)
      have hfr0 := hO3.fr _ (List.mem_of_getElem? hp)
      simp only at hak0 hfr0
      obtain ⟨ka, kc, rfl⟩ := own_shape hak0
      obtain ⟨fa, fc, rfl⟩ := own_shape hfr0
      have hak := own_same hak0 (fun k hk => hkeep k (hak0.lt k hk).1 (hak0.lt k hk).2)
      obtain ⟨g, cc, e1, _, hlg, x0, x1, x2, x3, x4, _⟩ := at5 hrow rfl hp
      simp only [Value.slice.injEq] at e1
      obtain ⟨rfl, en1, rfl⟩ := e1
      have hst2 : Hid (s2 = (stepF c st (2, 0, sq)).2) := by
        unfold Hid
        rw [hs2.out, hst.out]
        unfold stAt
        rw [List.foldl_append]
        rfl
      have hsent : Tags wc wS.heap.size (.slice sa SL.length sc) SL := hRG.s.kept (fun k hk => by
        have h1 := hRG.s.lt hk
        have hne : some k ≠ (Value.slice ea i ec).ownBlock := fun e => by have := (hevS k e.symm).2; omega
        exact (hk7 k (by omega) hne).trans ((hk5 k (by omega) hne).trans (hbx.block k (by omega))))
      rw [← hNS.out] at hsent
      have hml := last_ack c hi st m (by rw [← HS1.out]; have := hNS.out; rw [HS0.out, List.length_append] at this; omega) (by have := hNS.out; rw [HS0.out, List.length_append] at this; rw [← HS1.out]; omega)
      rw [HSQ.out, ← hoe.out, ← hst2.out, ← HS1.out, ← hNA.out] at hml
      have hNTl : Hid (NS = i6 + st.tags.length) := by unfold Hid; rw [hNS.out, HS0.out, List.length_append, hNA.out]
      have v2 := Go.Joins.cell_of_block hVB 2
      have hvl : VB < wc.heap.size := (Array.getElem?_eq_some_iff.1 hVB).1
      have i500 : i ≤ 500 := hN5
      have w5i : IntKind.i64.wrap ((i : Int) + 1) = (i : Int) + 1 := by rw [IntKind.wrap_i64]; omega
      clear hO3 hG3 hp hrow hak0 hfr0 hk7 hk5 hkeep hRG hst hs2 HEL HXL HLEN
      by_cases hmA : m < i6
      case pos =>
        obtain ⟨ho1, ho2⟩ := hml.1 hmA
        clear hml
        have hd : decide ((m : Int) < (i6 : Int)) = true := by rw [decide_eq_true_iff]; omega
        have hNT2 : Hid (NS = i6 + NT) := by unfold Hid; rw [hNTl.out, hNT.out, ho2]
        have hsub : (NS : Int) - (i6 : Int) = (NT : Int) := by have := hNT2.out; omega
        rw [ho1] at x0
        go_wp2_with fail
        go_ret
        exact ⟨rfl, hB7.alloc hB7.size _⟩
      case neg =>
        obtain ⟨ho1, ho2, ho3⟩ := hml.2 hmA
        clear hml
        have hd : decide ((m : Int) < (i6 : Int)) = false := by rw [decide_eq_false_iff_not]; omega
        rw [ho1] at x0
        have hAl : o.acked.length = m - i6 := by rw [ho2, List.length_take]; have := hNTl.out; omega
        rw [hAl] at x2 hak
        have HAL : Hid (o.acked.length = m - i6) := hAl
        have HO2 : Hid (o.acked = st.tags.take (m - i6)) := ho2
        have HO3 : Hid (s2.tags = st.tags.drop (m - i6)) := ho3
        clear ho1 ho2 ho3 hAl
        have hNT3 : NT = NS - m := by rw [hNT.out, HO3.out, List.length_drop]; have := hNTl.out; omega
        clear hNT
        subst hNT3
        obtain ⟨FL, hFL⟩ : ∃ FL, FL = o.frames.length := ⟨_, rfl⟩
        rw [← hFL] at x1
        clear hFL
        go_wp2_with fail
        obtain ⟨W8, hW8⟩ : ∃ W, W = wc.alloc (.cells #[.int .i64 0, .slice fa FL fc, .slice ka (m - i6) kc, .int .i64 o.died, .int .i64 o.revived] 47) := ⟨_, rfl⟩
        have hb8 : Below wc.heap.size wc W8 := by rw [hW8]; exact (Below.refl _ _).alloc (Nat.le_refl _) _
        have hX8 : W8.heap[wc.heap.size]? = some (.cells #[.int .i64 0, .slice fa FL fc, .slice ka (m - i6) kc, .int .i64 o.died, .int .i64 o.revived] 47 (0, 0)) := by rw [hW8]; exact box_new _ _ _ rfl
        have hB8 : Below w.heap.size w W8 := by rw [hW8]; exact hB7.alloc hB7.size _
        rw [← hW8]
        clear hW8
        obtain ⟨U, hU⟩ : ∃ U, U = wc.heap.size := ⟨_, rfl⟩
        rw [← hU] at hX8 ⊢
        have k0 := Go.Joins.cell_of_block hX8 0
        have k2 := Go.Joins.cell_of_block hX8 2
        have hU8 : U < W8.heap.size := (Array.getElem?_eq_some_iff.1 hX8).1
        have v8 : W8.cell? ⟨VB, 2, none⟩ = some (.slice va (NS - m) vc) := (hb8.cell hvl).trans v2
        have hV8 : VB < W8.heap.size := by omega
        have hzA : Ints .i64 W8 ka o.acked := Ints.ofRow (owned_kept hak hb8)
        have hzV := owned_kept hva hb8
        have hsent8 := hsent.kept (fun k hk => hb8.block k (hsent.lt hk).2)
        have hdA := hsent8.drop i6 (by have := hNS.out; have := hNTl.out; omega)
        have hdM := hsent8.drop m (by have := hNS.out; omega)
        have hSA : SL.drop i6 = st.tags := by rw [HS0.out, List.drop_append_of_le_length (by have := hNA.out; omega), List.drop_eq_nil_of_le (by have := hNA.out; omega)]; rfl
        have hSM : SL.drop m = s2.tags := by rw [HO3.out, ← hSA, List.drop_drop]; congr 1; omega
        rw [hSA] at hdA
        rw [hSM] at hdM
        obtain ⟨_, _, esh, hsc1, _⟩ := hsent8.shape
        simp only [Value.slice.injEq] at esh
        obtain ⟨rfl, hxx, rfl⟩ := esh
        clear hxx
        rw [← hNS.out] at hsc1
        have hq1 : (i6 : Int) ≤ (m : Int) := by omega
        have hq2 : (m : Int) ≤ (sc : Int) := by omega
        have hq3 : (m : Int) ≤ (NS : Int) := by omega
        have hq4 : (NS : Int) ≤ (sc : Int) := by omega
        clear hU hX8 hb8 hak hva hsent hB7 v2 hvl hVB hSA hSM x0 x1 x2 x3 x4 hlg en1 hPo hL2 hGr hsI haI htI hCG hCS hCV hbV hbG HC HX HSM HG0 HG1 hSent HBD HO0 HO1 HGG
        by_cases hck : sc = i6
        case pos =>
          have e2 : sc = m := by omega
          have e3 : sc = NS := by omega
          subst hck
          subst e2
          subst e3
          simp only [Nat.sub_self] at k2 v8 hzV
          have hlen1 : o.acked.length = 0 := by rw [HAL.out, Nat.sub_self]
          have hzS : Ints .i64 W8 sa o.acked := .inl (List.eq_nil_of_length_eq_zero hlen1)
          have hlen2 : s2.tags.length = 0 := owned_length hzV
          have HT2 : Hid (Ints .i64 W8 sa s2.tags) := by
            exact .inl (List.eq_nil_of_length_eq_zero hlen2)
          have hlA : 0 ≤ 1048576 := by omega
          have hlB : 0 ≤ 1048576 := by omega
          have hzW : Ints .i64 W8 va s2.tags := Ints.ofRow hzV
          have hzT : Ints .i64 W8 sa s2.tags := HT2.out
          clear HT2 hdM hsent8 HAL
          go_quiet ((go_at_call 20; exact Calls.quiet_of (lNums_quiet ka sa o.acked (0) kc _ _ hlen1 hzA hzS hlA)))
          go_wp2_with fail
          obtain ⟨W9, hW9⟩ : ∃ W, W = W8.drewN nq := ⟨_, rfl⟩
          have v9 : W9.cell? ⟨VB, 2, none⟩ = some (.slice va (0) vc) := by rw [hW9]; exact v8
          have hzW9 : Ints .i64 W9 va s2.tags := by rw [hW9]; exact hzW
          have hzT9 : Ints .i64 W9 sa s2.tags := by rw [hW9]; exact hzT
          have hB9 : Below w.heap.size w W9 := by rw [hW9]; exact drewsN hB8 _
          rw [← hW9]
          clear hW9 v8 hzW hzT hB8 k0 k2 hzA hzS
          go_quiet ((go_at_call 20; exact Calls.quiet_of (lNums_quiet va sa s2.tags (0) vc _ _ hlen2 hzW9 hzT9 hlB)))
          go_wp2_with fail
          go_ret
          exact ⟨rfl, by first | exact drewsN hB9 _ | exact hB9⟩
        case neg =>
        obtain ⟨sb, so, rfl⟩ : ∃ sb so, sa = some ⟨sb, so, none⟩ := by
          rcases hsent8 with ⟨e, _⟩ | ⟨g', off, cap', cur, e, _⟩
          · simp only [Value.slice.injEq] at e; omega
          · simp only [Value.slice.injEq] at e; exact ⟨_, _, e.1⟩
        rw [if_neg hck] at hdA
        simp only [Option.map_some, addrAt] at hdA
        by_cases hcm : sc = m
        case pos =>
          have e3 : sc = NS := by omega
          subst hcm
          subst e3
          simp only [Nat.sub_self] at v8 hzV
          have hlen1 : o.acked.length = sc - i6 := by exact HAL.out
          have hzS : Ints .i64 W8 (some ⟨sb, so + i6, none⟩) o.acked := by rw [HO2.out]; exact ints_take (Tags.ints hdA) (sc - i6)
          have hlen2 : s2.tags.length = 0 := owned_length hzV
          have HT2 : Hid (Ints .i64 W8 (some ⟨sb, so, none⟩) s2.tags) := by
            exact .inl (List.eq_nil_of_length_eq_zero hlen2)
          have hlA : sc - i6 ≤ 1048576 := by omega
          have hlB : 0 ≤ 1048576 := by omega
          have hzW : Ints .i64 W8 va s2.tags := Ints.ofRow hzV
          have hzT : Ints .i64 W8 (some ⟨sb, so, none⟩) s2.tags := HT2.out
          clear HT2 hdM hsent8 HAL
          go_quiet ((go_at_call 20; exact Calls.quiet_of (lNums_quiet ka (some ⟨sb, so + i6, none⟩) o.acked (sc - i6) kc _ _ hlen1 hzA hzS hlA)))
          go_wp2_with fail
          obtain ⟨W9, hW9⟩ : ∃ W, W = W8.drewN nq := ⟨_, rfl⟩
          have v9 : W9.cell? ⟨VB, 2, none⟩ = some (.slice va (0) vc) := by rw [hW9]; exact v8
          have hzW9 : Ints .i64 W9 va s2.tags := by rw [hW9]; exact hzW
          have hzT9 : Ints .i64 W9 (some ⟨sb, so, none⟩) s2.tags := by rw [hW9]; exact hzT
          have hB9 : Below w.heap.size w W9 := by rw [hW9]; exact drewsN hB8 _
          rw [← hW9]
          clear hW9 v8 hzW hzT hB8 k0 k2 hzA hzS
          go_quiet ((go_at_call 20; exact Calls.quiet_of (lNums_quiet va (some ⟨sb, so, none⟩) s2.tags (0) vc _ _ hlen2 hzW9 hzT9 hlB)))
          go_wp2_with fail
          go_ret
          exact ⟨rfl, by first | exact drewsN hB9 _ | exact hB9⟩
        case neg =>
        rw [if_neg hcm] at hdM
        simp only [Option.map_some, addrAt] at hdM
        have hlen1 : o.acked.length = m - i6 := by exact HAL.out
        have hzS : Ints .i64 W8 (some ⟨sb, so + i6, none⟩) o.acked := by rw [HO2.out]; exact ints_take (Tags.ints hdA) (m - i6)
        have hlen2 : s2.tags.length = NS - m := owned_length hzV
        have HT2 : Hid (Ints .i64 W8 (some ⟨sb, so + m, none⟩) s2.tags) := by
          exact Tags.ints hdM
        have hlA : m - i6 ≤ 1048576 := by omega
        have hlB : NS - m ≤ 1048576 := by omega
        have hzW : Ints .i64 W8 va s2.tags := Ints.ofRow hzV
        have hzT : Ints .i64 W8 (some ⟨sb, so + m, none⟩) s2.tags := HT2.out
        clear HT2 hdM hsent8 HAL
        go_quiet ((go_at_call 20; exact Calls.quiet_of (lNums_quiet ka (some ⟨sb, so + i6, none⟩) o.acked (m - i6) kc _ _ hlen1 hzA hzS hlA)))
        go_wp2_with fail
        obtain ⟨W9, hW9⟩ : ∃ W, W = W8.drewN nq := ⟨_, rfl⟩
        have v9 : W9.cell? ⟨VB, 2, none⟩ = some (.slice va (NS - m) vc) := by rw [hW9]; exact v8
        have hzW9 : Ints .i64 W9 va s2.tags := by rw [hW9]; exact hzW
        have hzT9 : Ints .i64 W9 (some ⟨sb, so + m, none⟩) s2.tags := by rw [hW9]; exact hzT
        have hB9 : Below w.heap.size w W9 := by rw [hW9]; exact drewsN hB8 _
        rw [← hW9]
        clear hW9 v8 hzW hzT hB8 k0 k2 hzA hzS
        go_quiet ((go_at_call 20; exact Calls.quiet_of (lNums_quiet va (some ⟨sb, so + m, none⟩) s2.tags (NS - m) vc _ _ hlen2 hzW9 hzT9 hlB)))
        go_wp2_with fail
        go_ret
        exact ⟨rfl, by first | exact drewsN hB9 _ | exact hB9⟩
end Go.Proofs.Ytincfdhfoaimbaa
