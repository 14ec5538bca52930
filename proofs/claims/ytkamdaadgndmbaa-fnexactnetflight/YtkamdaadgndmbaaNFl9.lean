import Derived.Test.YtkamdaadgndmbaaNFl8
import Derived.Test.YtkamdaadgndmbaaNSp5
namespace Go.Proofs.Ytkamdaadgndmbaa
open Go.ChangeShapes Go.WideShapes Go.ChangeAt Go.RowKit
set_option linter.unusedVariables false

set_option maxHeartbeats 2000000 in
set_option maxRecDepth 100000 in
theorem l3Bags_any (B base n : Nat) (s : NS) (cv av : Value) (C : List Int) (I : SIs) (w : World) (h : SpN w B base n s cv av C I) (hI : I.length ≤ 4000) (hinv : InvN s) (hn1 : 1 ≤ n) (hn8 : n ≤ 8) :
    Calls Try.prog 34 #[.pointer (some ⟨B, 0, none⟩)] w fun e w' => ∃ oa oc F, e = .returned (.slice oa (2 * n) oc) ∧ F.length = 2 * n ∧ OutsF w' w.heap.size (.slice oa (2 * n) oc) F ∧ F.map FB.told = toldU s (2 * n) ∧ Below w.heap.size w w' := by
  have hmade : (w.alloc (.cells #[] 41)).ownsRow w.heap.size 41 4 (.slice (some ⟨w.heap.size, 0, none⟩) 0 0) 0 [] := World.ownsRow_made w #[] 0 (Nat.le_refl _) (by unfold maxLen; omega) rfl
  obtain ⟨ca, cc, hcv⟩ := own_shape h.cut
  subst hcv
  obtain ⟨N, hN⟩ : ∃ N, I.length = N := ⟨_, rfl⟩
  obtain ⟨aa, ac, hav⟩ := own_shape h.all
  rw [hN] at hav
  subst hav
  have hw2 : IntKind.i64.wrap (2 * (n : Int)) = 2 * (n : Int) := by rw [IntKind.wrap_i64]; omega
  have H : Hid _ := h
  have HN : Hid _ := hN
  have HI : Hid _ := hI
  rcases h.cut.2 with ⟨e, _⟩ | ⟨gc, cc', cur, e, rest⟩
  · simp only [Value.slice.injEq] at e; omega
  simp only [Value.slice.injEq] at e
  obtain ⟨rfl, -, e9⟩ := e
  subst e9
  clear rest h hN hI
  go_enter Try.func34, Try.ntmps34
  go_wp2_with fail
  go_loopw [3, 4] (fun ov iv wr => ∃ (j : Nat) (oa : Option Addr) (oc : Nat) (F : List FB), j ≤ 2 * n ∧ iv = .int .i64 (j : Int) ∧ ov = .slice oa j oc ∧ Hid (F.length = j) ∧ OutsF wr w.heap.size (.slice oa j oc) F ∧ Hid (F.map FB.told = toldU s j) ∧ Below w.heap.size w wr) (fun _ iv _ => 2 * n - (intOf iv).toNat)
  case atStart => exact ⟨0, _, _, [], Nat.zero_le _, rfl, rfl, rfl, ⟨hmade, ⟨by simp [bgs], by simp [bgs], by simp [bgs], by simp [bgs]⟩⟩, rfl, (Below.refl _ _).alloc (Nat.le_refl _) _⟩
  case round =>
  clear hmade
  obtain ⟨j, oa, oc, F, hj, rfl, rfl, hFl, hF, hFt, hb⟩ := hrel
  have hSr := H.out.moved hb
  obtain ⟨⟨c0, c1, c2⟩, _⟩ := hSr.cells
  by_cases hlt : j < 2 * n
  · have hji : (j : Int) < 2 * (n : Int) := by omega
    obtain ⟨i, hi⟩ : ∃ i, i = j / 2 := ⟨_, rfl⟩
    obtain ⟨d, hd⟩ : ∃ d, d = j % 2 := ⟨_, rfl⟩
    have hjd : j = 2 * i + d := by omega
    have hd2 : d < 2 := by omega
    have hin : i < n := by omega
    have hini : (i : Int) < (n : Int) := by omega
    have q1 : (j : Int) / 2 = (i : Int) := by omega
    have q2 : (j : Int) % 2 = (d : Int) := by omega
    have q3 : j / 2 = i := by omega
    have q4 : j % 2 = d := by omega
    have q5 : (j : Int).tdiv 2 = (i : Int) := by rw [hi]; rfl
    have q6 : (j : Int).tmod 2 = (d : Int) := by rw [hd]; rfl
    have hw3 : IntKind.i64.wrap (i : Int) = (i : Int) := by rw [IntKind.wrap_i64]; omega
    have hw4 : IntKind.i64.wrap (d : Int) = (d : Int) := by rw [IntKind.wrap_i64]; omega
    obtain ⟨ct, hct⟩ : ∃ ct, s.cut (i : Int) = ct := ⟨_, rfl⟩
    obtain ⟨hci, hcf⟩ := own_cell hSr.cut (j := i) (x := .int .i64 ct) (by
      have hci : i < C.length := by rw [H.out.cl]; exact hin
      rw [List.getElem?_map, ← hct, ← H.out.cs i hin, List.getD_eq_getElem?_getD, List.getElem?_eq_getElem hci]; rfl)
    have HCT : Hid _ := hct
    have HJD : Hid _ := hjd
    clear hct hi hd hjd
    go_upto_region 6 with fail
    obtain ⟨W6, rfl⟩ : ∃ W6, W6 = wr := ⟨_, rfl⟩
    obtain ⟨T, hT⟩ : ∃ b, b = W6.heap.size := ⟨_, rfl⟩
    obtain ⟨V8, hV8⟩ : ∃ V, V = W6.alloc (.cells #[.int .i64 (i : Int), .int .i64 (d : Int), .int .i64 ct, .slice none 0 0] 41) := ⟨_, rfl⟩
    have h8 : V8.heap[T]? = some (.cells #[.int .i64 (i : Int), .int .i64 (d : Int), .int .i64 ct, .slice none 0 0] 41 (0, 0)) := by rw [hV8, hT]; exact heap_alloc_new _ _
    have hB8 : Below W6.heap.size W6 V8 := by rw [hV8]; exact (Below.refl _ _).alloc (Nat.le_refl _) _
    have hTl : W6.heap.size ≤ T := by omega
    have hT0 : ToldB V8 W6.heap.size T (i : Int) (d : Int) ct none 0 [] := ⟨h8, ⟨World.ownsRow_nil _ _ _ _, by simp⟩, by simp, hTl⟩
    have HSX : Hid (∀ wx, Below W6.heap.size W6 wx → Below w.heap.size w wx ∧ SpN wx B base n s (.slice (some ⟨gc, 0, none⟩) n cc) (.slice aa N ac) C I) := fun wx hx => ⟨hb.trans (hx.mono hb.size), H.out.moved (hb.trans (hx.mono hb.size))⟩
    have hfl := l3Flight_any V8 B base n s _ _ C I (HSX.out V8 hB8).2 (by have := HI.out; omega) (i : Int) (d : Int)
    obtain ⟨m, hm⟩ : ∃ m, (s.bag (i : Int) (d : Int)).length = m := ⟨_, rfl⟩
    have hm64 : m ≤ 64 := by rw [← hm]; exact hinv.len _ _
    rw [hm] at hfl
    have HM : Hid _ := hm
    rw [← hV8, ← hT]
    clear hV8 hT h8 hm hci hcf c0 c1 c2 q1 q2 q3 q4 q5 q6 hw3 hw4
    have q1 : (j : Int) / 2 = (i : Int) := by have := HJD.out; omega
    have q2 : (j : Int) % 2 = (d : Int) := by have := HJD.out; omega
    have q3 : j / 2 = i := by have := HJD.out; omega
    have q4 : j % 2 = d := by have := HJD.out; omega
    go_wp2_with fail
    refine hfl.mono ?_
    rintro e w4 ⟨xa, xc, rfl, hidx, hb4⟩
    have hB4 : Below W6.heap.size W6 w4 := hB8.trans (hb4.mono hB8.size)
    have hT4 := hT0.below hb4
    have hidx := owned_base hidx hB8.size
    clear hfl hT0 hb4
    go_wp2_with fail
    go_loopw [7] (fun kv wx => ∃ (kk : Nat) (ta : Option Addr) (tc : Nat) (G : Bg), kk ≤ m ∧ kv = .int .i64 (kk : Int) ∧ Hid (G.length = kk) ∧ Hid (G.map (·.1) = (s.bag (i : Int) (d : Int)).take kk) ∧ ToldB wx W6.heap.size T (i : Int) (d : Int) ct ta tc G ∧ Below W6.heap.size W6 wx ∧ wx.ownsRow W6.heap.size 3 1 (.slice xa m xc) m ((natI (idxF (i : Int) (d : Int) 0 (I.map (·.1)))).map (.int .i64))) (fun kv _ => m - (intOf kv).toNat)
    case atStart => exact ⟨0, none, 0, [], Nat.zero_le _, rfl, rfl, rfl, hT4, hB4, hidx⟩
    case round =>
    clear hT4 hB4 hidx
    obtain ⟨kk, ta, tc, G, hkk, rfl, hGl, hGm, hTo, hBx, hidx⟩ := hrel
    obtain ⟨hbx, hSx⟩ := HSX.out wr hBx
    have hszx := hBx.size
    by_cases hkm : kk < m
    · have hki : (kk : Int) < (m : Int) := by omega
      obtain ⟨jj, it, j1, j2, j3, _, _⟩ := idxF_at (i : Int) (d : Int) (I.map (·.1)) 0 kk (by rw [H.out.bs, HM.out]; exact hkm)
      obtain ⟨iv, hiv⟩ : ∃ iv, I[jj]? = some (it, iv) := by
        rw [List.getElem?_map, Option.map_eq_some_iff] at j2
        obtain ⟨⟨a, b⟩, h1, rfl⟩ := j2
        exact ⟨b, h1⟩
      rw [H.out.bs] at j3
      obtain ⟨hjl, hje⟩ := List.getElem?_eq_some_iff.1 hiv
      have hjN : jj < N := by rw [← HN.out]; exact hjl
      have hjji : (jj : Int) < (N : Int) := by omega
      have hall := hSx.all
      rw [HN.out] at hall
      rcases hall.2 with ⟨e, _⟩ | ⟨ga, ac', cur, e, rest⟩
      · simp only [Value.slice.injEq] at e; omega
      simp only [Value.slice.injEq] at e
      obtain ⟨rfl, -, e9⟩ := e
      subst e9
      clear rest
      rcases hidx.2 with ⟨e, _⟩ | ⟨gx, xc', cur, e, rest⟩
      · simp only [Value.slice.injEq] at e; omega
      simp only [Value.slice.injEq] at e
      obtain ⟨rfl, -, e9⟩ := e
      subst e9
      clear rest
      have hix := (own_cell hidx (j := kk) (x := .int .i64 (jj : Int)) (by
        rw [List.getElem?_map, natI, List.getElem?_map, j1]; simp)).1
      have f2 := (flatI_at hjl).2.2.1
      rw [hje] at f2
      simp only at f2
      have hdi := hSx.dat (it, iv) (List.mem_of_getElem? hiv)
      obtain ⟨ia, ic, hivs⟩ := own_shape hdi
      simp only at hivs
      subst hivs
      obtain ⟨tl, htl⟩ : ∃ tl, it.dat.length = tl := ⟨_, rfl⟩
      have htl6 : tl ≤ 64 := by rw [← htl, j3]; exact (hinv.get (i : Int) (d : Int) kk).1
      rw [htl] at f2
      have v2 := (own_cell hall f2).1
      have hints : Ints .u8 wr ia it.dat := Ints.ofRow hdi
      have c2 := hSx.cells.1.2.2
      have LC := l1Copy_any ia it.dat tl ic wr.drew (hints.moved (Below.refl _ _).drew) htl (by omega)
      have htake : (s.bag (i : Int) (d : Int)).take (kk + 1) = (s.bag (i : Int) (d : Int)).take kk ++ [it.dat] := by
        have hkb : kk < (s.bag (i : Int) (d : Int)).length := by rw [HM.out]; exact hkm
        rw [List.take_succ_eq_append_getElem hkb, j3, List.getD_eq_getElem?_getD, List.getElem?_eq_getElem hkb]
        rfl
      have t3 := (cells4r hTo.box).1.2.2.2
      rw [hGl.out] at t3
      have HTO : Hid (∀ w9, Below wr.drew.heap.size wr.drew w9 → ToldB w9 W6.heap.size T (i : Int) (d : Int) ct ta tc G ∧ Below W6.heap.size W6 w9 ∧ (w9.cell? ⟨B, 2, none⟩ = some (.slice (some ⟨ga, 0, none⟩) N ac) ∧ w9.cell? ⟨gx, kk, none⟩ = some (.int .i64 (jj : Int)) ∧ w9.cell? ⟨ga, jj * 4 + 2, none⟩ = some (.slice ia tl ic)) ∧ w9.ownsRow W6.heap.size 3 1 (.slice (some ⟨gx, 0, none⟩) m xc) m ((natI (idxF (i : Int) (d : Int) 0 (I.map (·.1)))).map (.int .i64))) := by
        unfold Hid
        intro w9 hb9
        have hb9' : Below wr.heap.size wr w9 := ⟨hb9.os, hb9.tape, hb9.output, hb9.size, hb9.block⟩
        exact ⟨hTo.below hb9', hBx.trans (hb9'.mono hBx.size), ⟨(hb9'.cell (World.block_lt_of_cell? _ _ c2)).trans c2, (hb9'.cell (World.block_lt_of_cell? _ _ hix)).trans hix, (hb9'.cell (World.block_lt_of_cell? _ _ v2)).trans v2⟩, row_stays hidx fun k hk => hb9'.block k (hidx.lt k hk).2⟩
      have HT : Hid _ := htake
      have HLT : Hid (∀ q ∈ G, ∀ k, q.2.ownBlock = some k → k < wr.drew.heap.size) := fun q hq k hk => ((hTo.row.dat q hq).lt k hk).2
      have HTL : Hid _ := htl
      have s1 : wr.drew.cell? ⟨T, 3, none⟩ = some (.slice ta kk tc) := t3
      have s2 : wr.drew.cell? ⟨B, 2, none⟩ = some (.slice (some ⟨ga, 0, none⟩) N ac) := c2
      have s3 : wr.drew.cell? ⟨gx, kk, none⟩ = some (.int .i64 (jj : Int)) := hix
      have s4 : wr.drew.cell? ⟨ga, jj * 4 + 2, none⟩ = some (.slice ia tl ic) := v2
      clear htake htl j1 j2 j3 hiv hje hjl f2 hdi hints hall hTo hidx
      go_wp2_with fail
      go_region_law (first
        | (refine step_appB (w9.alloc (.cells #[.slice ya tl yc] 22)) (by rfl) _ _ (by rfl) W6.heap.size ta kk tc (G.map (·.2)) (by rfl) (own_alloc hrow9 _) w9.heap.size _ (by rfl) (heap_alloc_new w9 _) (by rfl) (by omega) (by simp; omega) ?_; intro g11 cap11 w11 ho11 hg11; have hi11 := (hg11.block T (by simp; omega) (fun e => own_ne9 hrow9 hT9.box (by decide) e.symm)).trans ((Below.heap_alloc w9 _ T hT9l).trans hT9.box); have z3 := Go.Joins.cell_of_block hi11 3; have zf := Go.Joins.unfrozen_of_block hi11 3)
        | (go_simp; go_at_call 50; with_reducible (refine Calls.mono LC ?_); rintro e w9 ⟨ya, yc, rfl, hyo, hb9⟩; dsimp only; obtain ⟨hT9, hB9, ⟨y2, y3, y4⟩, hidx9⟩ := HTO.out w9 hb9; have u3 := (cells4r hT9.box).1.2.2.2; rw [hGl.out] at u3; have hT9l : T < w9.heap.size := (Array.getElem?_eq_some_iff.1 hT9.box).1; have hTn : ¬ T = w9.heap.size := (by omega); have hrow9 := hT9.row.row; rw [hGl.out] at hrow9; have hsz9 : W6.heap.size ≤ w9.heap.size := hB9.size))
      all_goals
        obtain ⟨hT7, _⟩ := hT9.push hGl.out (L := wr.drew.heap.size) (y := it.dat) (dv := .slice ya tl yc) (by rw [HTL.out]; exact hyo) hszx HLT.out hg11 ho11
        have hB7 := ((hB9.alloc hsz9 _).grown hg11 (by simp; omega) (fun k hk => (hrow9.lt k hk).1)).setCell (p := ⟨T, 3, none⟩) hT9.ge (.slice (some ⟨g11, 0, none⟩) (kk + 1) cap11)
        have hI7 := row_stays (w' := w11.setCell ⟨T, 3, none⟩ (.slice (some ⟨g11, 0, none⟩) (kk + 1) cap11)) hidx9 (fun k hk => by
          obtain ⟨ck, hck⟩ := row_block hidx9 hk
          have hkl := (hidx9.lt k hk).2
          refine (heap_setCell_other _ _ _ _ (type_ne hck hT9.box (by decide))).trans ((hg11.block k (by simp; omega) fun e => own_ne9 hrow9 hck (by decide) e.symm).trans (Below.heap_alloc _ _ _ hkl)))
        go_wp2_with fail
        go_roundw
        case rel => exact ⟨kk + 1, some ⟨g11, 0, none⟩, cap11, G ++ [(it.dat, .slice ya tl yc)], by omega, by go_num, by unfold Hid; rw [List.length_append, hGl.out]; rfl, by unfold Hid; rw [HT.out, List.map_append, hGm.out]; rfl, hT7, hB7, hI7⟩
        case measure => simp [intOf]; omega
    · obtain rfl : kk = m := by omega
      have hkk' : ¬ (kk : Int) < (kk : Int) := by omega
      have hFx := hF.keep (w' := wr) fun k _ hk => hBx.block k hk
      have hrowF := hFx.row
      rw [hFl.out] at hrowF
      have HTOLD : Hid (FB.told ⟨(i : Int), (d : Int), ct, .slice ta G.length tc, G⟩ = ((i : Int), (d : Int), s.cut i, s.bag i (d : Int))) := by
        unfold Hid FB.told
        simp only
        rw [hGm.out, List.take_of_length_le (by have := HM.out; omega), HCT.out]
      have hFW : Hid (OutsF W6 w.heap.size (.slice oa j oc) F) := hF
      obtain ⟨⟨x0, x1, x2, x3⟩, _⟩ := cells4r hTo.box
      rw [hGl.out] at x3
      clear hF hidx hSx
      go_wp2_with (at_builtin; refine wpList_appF _ (by rfl) _ _ (by rfl) w.heap.size oa j oc (flatF F) (by rfl) (own_alloc hrowF _) wr.heap.size _ _ _ _ (by rfl) (heap_alloc_new wr _) (by simp [Value.oneCell']) (by omega) (by have := hbx.size; simp; omega) ?_; intro g9 cap9 w4 ho4 hg4)
      have hBa : Below wr.heap.size wr (wr.alloc (.cells #[.int .i64 (i : Int), .int .i64 (d : Int), .int .i64 ct, .slice ta kk tc] 41)) := (Below.refl _ _).alloc (Nat.le_refl _) _
      have hadd := OutsF.add (hFx.keep fun k _ hk => hBa.block k hk) hb.size (fun k cs t ht hbk ⟨b, hbm, hk⟩ hc => by
        rcases hk with hk | ⟨q, hq, hk⟩
        · exact ((hFW.out.bags.row b hbm).lt k hk).2
        · exact ((hFW.out.bags.dat b hbm q hq).lt k hk).2) (hTo.below hBa) hg4 (by rw [hFl.out, hGl.out]; exact ho4)
      rw [hFl.out] at hadd
      have hbw4 : Below w.heap.size w w4 := below_grown (hbx.alloc hbx.size _) (own_alloc hrowF _) hg4 (Nat.le_refl _) (by have := hbx.size; simp; omega)
      have HT1 : Hid (toldU s (j + 1) = toldU s j ++ [((i : Int), (d : Int), s.cut i, s.bag i d)]) := by unfold Hid; rw [HJD.out]; exact toldU_succ s i d hd2
      go_wp2_with fail
      go_roundw
      case rel => exact ⟨j + 1, some ⟨g9, 0, none⟩, cap9, F ++ [⟨(i : Int), (d : Int), ct, .slice ta G.length tc, G⟩], by omega, by go_num, rfl, by unfold Hid; rw [List.length_append, hFl.out]; rfl, hadd, by unfold Hid; rw [List.map_append, hFt.out, HT1.out, List.map_singleton, HTOLD.out], hbw4⟩
      case measure => simp [intOf]; omega
  · obtain rfl : j = 2 * n := by omega
    have hkk : ¬ ((2 * n : Nat) : Int) < 2 * (n : Int) := by omega
    go_wp2_with fail
    go_ret
    exact ⟨oa, oc, rfl, F, hFl.out, hF, hFt.out, hb⟩
end Go.Proofs.Ytkamdaadgndmbaa
