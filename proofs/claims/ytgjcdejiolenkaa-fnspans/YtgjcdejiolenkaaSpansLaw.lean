import Derived.Test.YtgjcdejiolenkaaSpansLaw0
namespace Go.Proofs.Ytgjcdejiolenkaa
open Go.ChangeShapes Go.WideShapes Go.ChangeAt Go.RowKit
set_option linter.unusedVariables false

set_option maxHeartbeats 4000000 in
set_option maxRecDepth 100000 in
theorem lawSpans (a : Option Addr) (zs : List Int) (cap : Nat) (w : World) (hz : Ints .u8 w a zs) (hv : ∀ x ∈ zs, 0 ≤ x ∧ x ≤ 255) (hm : zs.length ≤ 9223372036854775807) :
    Calls Try.prog 8 #[.slice a zs.length cap] w fun e w' => e = .returned (.bool true) ∧ Below w.heap.size w w' := by
  by_cases hl : zs.length ≤ 1048576
  case neg =>
    go_enter Try.func8, Try.ntmps8
    go_wp2
    go_ret
    exact ⟨rfl, Below.refl _ _⟩
  case pos =>
  have HD : Hid (∀ W : World, Below w.heap.size w W → Calls Try.prog 25 #[.slice a zs.length cap] W fun e w' => ∃ (av : Option Addr) (cp n : Nat) (S : Sp) (p q : Int), e = .returned (.tuple #[.slice av n cp, .agg #[.int .u64 p, .int .u64 q]]) ∧ Hid (argsF zs = (S, p, q)) ∧ S.length = n ∧ (n ≤ 12 ∨ (999 ≤ n ∧ n ≤ 1001)) ∧ Fits S ∧
      (0 ≤ p ∧ p ≤ 18446744073709551615) ∧ (0 ≤ q ∧ q ≤ 18446744073709551615) ∧ w'.ownsRow W.heap.size 31 2 (.slice av n cp) n (flat S) ∧ Below W.heap.size W w') := fun W hb => draw_at a zs cap W (hz.moved hb) hv (by omega)
  obtain ⟨L, hL⟩ : ∃ L, Hid (L = zs.length) := ⟨_, rfl⟩
  rw [← hL.out] at HD hl hm ⊢
  have hd1 := HD.out w (Below.refl _ _)
  clear hz hv
  go_enter Try.func8, Try.ntmps8
  go_wp2_with fail
  refine hd1.mono ?_
  rintro e w1 ⟨av, cp, n, S, p, q, rfl, HA, hn, h12, hf, hp, hq, hrow, hb1⟩
  subst hn
  obtain ⟨V, hV⟩ : ∃ V, V = w1.alloc (.cells #[.int .u64 p, .int .u64 q] 31) := ⟨_, rfl⟩
  have hbV : Below w.heap.size w V := by rw [hV]; exact hb1.alloc hb1.size _
  have hRV : RowS V av cp S := by rw [hV]; exact RowS.owned rfl (hrow.alloc _)
  have hXV : V.heap[w1.heap.size]? = some (.cells #[.int .u64 p, .int .u64 q] 31 (0, 0)) := by rw [hV]; exact heap_alloc_new w1 _
  have HX : Hid (∀ U : World, Below V.heap.size V U → U.cell? ⟨w1.heap.size, 0, none⟩ = some (.int .u64 p) ∧ U.cell? ⟨w1.heap.size, 1, none⟩ = some (.int .u64 q)) := by
    unfold Hid
    intro U hU
    have h := (hU.block _ (Array.getElem?_eq_some_iff.1 hXV).1).trans hXV
    exact ⟨Go.Joins.cell_of_block h 0, Go.Joins.cell_of_block h 1⟩
  have hS48 : S.length ≤ 1001 := by omega
  obtain ⟨T1, k1, B1⟩ := bothA S p q hf (by omega) hp.1 hp.2 hq.1 hq.2
  obtain ⟨T2, k2, B2⟩ := bothC S p q hf (by omega) hp.1 hp.2 hq.1 hq.2
  obtain ⟨T3, k3, B3⟩ := bothG S p q hf (by omega) hp.1 hp.2 hq.1 hq.2
  have HB1 : Hid _ := B1
  have HB2 : Hid _ := B2
  have HB3 : Hid _ := B3
  have HF : Hid (Fits S) := hf
  have hl1 := B1.len
  have hl2 := B2.len
  have hl3 := B3.len
  clear hd1 B1 B2 B3 hrow hb1 hf hXV
  go_wp2_with fail
  rw [← hV]
  clear hV
  obtain ⟨X, hX⟩ : ∃ X, X = w1.heap.size := ⟨_, rfl⟩
  rw [← hX] at HX ⊢
  clear hX
  refine (HB1.out.spec av cp V hRV.s hRV.le hRV.top hRV.nil).mono ?_
  rintro e w2 ⟨a2, c2, rfl, _, hb2⟩
  obtain ⟨x0, x1⟩ := HX.out w2 hb2
  go_wp2_with fail
  clear x0 x1
  refine (HB2.out.spec av cp w2 (hRV.moved hb2).s hRV.le hRV.top hRV.nil).mono ?_
  rintro e w3 ⟨a3, c3, rfl, _, hb3⟩
  have hb3 := hb2.trans (hb3.mono hb2.size)
  obtain ⟨x0, x1⟩ := HX.out w3 hb3
  go_wp2_with fail
  clear x0 x1
  refine (HB3.out.spec av cp w3 (hRV.moved hb3).s hRV.le hRV.top hRV.nil).mono ?_
  rintro e w4 ⟨a4, c4, rfl, _, hb4⟩
  have hb4 := hb3.trans (hb4.mono hb3.size)
  have hd2 := HD.out w4 (hbV.trans (hb4.mono hbV.size))
  clear HD hb2 hb3
  go_wp2_with fail
  refine hd2.mono ?_
  rintro e w5 ⟨av', cp', n', S', p', q', rfl, HA', hn', _, _, _, _, hrow', hb5⟩
  obtain ⟨rfl, rfl, rfl⟩ : S = S' ∧ p = p' ∧ q = q' := by
    have := HA.out.symm.trans HA'.out
    simp only [Prod.mk.injEq] at this
    exact ⟨this.1, this.2.1, this.2.2⟩
  subst hn'
  have hb5 := hb4.trans (hb5.mono hb4.size)
  have hM5 := RowS.owned rfl hrow'
  obtain ⟨W, hW⟩ : ∃ W, W = w5.alloc (.cells #[.int .u64 p, .int .u64 q] 31) := ⟨_, rfl⟩
  have hbW : Below V.heap.size V W := by rw [hW]; exact hb5.alloc hb5.size _
  have hMW : RowS W av' cp' S := by rw [hW]; exact hM5.moved ((Below.refl _ _).alloc (Nat.le_refl _) _)
  obtain ⟨x0, x1⟩ := HX.out w5 hb5
  have hXl : X < w5.heap.size := World.block_lt_of_cell? _ _ x0
  have hXn : ¬ X = w5.heap.size := by omega
  have hXm : ¬ w5.heap.size = X := by omega
  clear hd2 hb4 HA HA' hrow' hb5 hM5
  go_wp2_with fail
  rw [← hW]
  clear hW x0 x1 hXl hXn hXm
  refine (HB1.out.impl av' cp' W hMW.s hMW.le hMW.top hMW.nil).mono ?_
  rintro e w6 ⟨a6, c6, rfl, hr6, hb6⟩
  have hR6 := RowS.owned rfl hr6
  have hb6 := hbW.trans (hb6.mono hbW.size)
  have hM6 := hMW.moved (w' := w6) (by assumption)
  obtain ⟨x0, x1⟩ := HX.out w6 hb6
  go_wp2_with fail
  clear x0 x1
  refine (HB2.out.impl av' cp' w6 hM6.s hM6.le hM6.top hM6.nil).mono ?_
  rintro e w7 ⟨a7, c7, rfl, hr7, hb7⟩
  have hR7 := RowS.owned rfl hr7
  have hR6 := hR6.moved hb7
  have hM7 := hM6.moved hb7
  have hb7 := hb6.trans (hb7.mono hb6.size)
  obtain ⟨x0, x1⟩ := HX.out w7 hb7
  go_wp2_with fail
  clear x0 x1
  refine (HB3.out.impl av' cp' w7 hM7.s hM7.le hM7.top hM7.nil).mono ?_
  rintro e w8 ⟨a8, c8, rfl, hr8, hb8⟩
  have hR8 := RowS.owned rfl hr8
  have hR7 := hR7.moved hb8
  have hR6 := hR6.moved hb8
  have hb8 := hb7.trans (hb8.mono hb7.size)
  have hBw := hbV.trans (hb8.mono hbV.size)
  clear hr6 hr7 hr8 hM6 hM7 hMW hb6 hb7
  have h1 := HB1.out.what
  have h2 := HB2.out.what
  have h3 := HB3.out.what
  clear HB1 HB2 HB3
  by_cases hz1 : k1 = 0
  case neg =>
    rcases h1 with ⟨_, _, h⟩ | ⟨_, hT⟩
    · exact absurd h hz1
    subst hT
    have b1 : (k1 == 0) = false := by simpa using hz1
    have b2 : (k1 != 0) = true := by simpa using hz1
    go_wp2_with fail
    go_ret
    exact ⟨rfl, hBw⟩
  case pos =>
  rcases h1 with ⟨hg, hT1, _⟩ | ⟨h, _⟩
  case inr => exact absurd hz1 h
  subst hz1
  by_cases hz2 : k2 = 0
  case neg =>
    have b2 : (k2 != 0) = true := by simpa using hz2
    go_wp2_with fail
    go_ret
    exact ⟨rfl, hBw⟩
  case pos =>
  rcases h2 with ⟨_, hT2, _⟩ | ⟨h, _⟩
  case inr => exact absurd hz2 h
  subst hz2
  by_cases hz3 : k3 = 0
  case neg =>
    have b2 : (k3 != 0) = true := by simpa using hz3
    go_wp2_with fail
    go_ret
    exact ⟨rfl, hBw⟩
  case pos =>
  rcases h3 with ⟨_, hT3, _⟩ | ⟨h, _⟩
  case inr => exact absurd hz3 h
  subst hz3
  have HT1 : Hid (T1 = built f1 S (p, q)) := hT1
  have HT2 : Hid (T2 = built f2 S (p, q)) := hT2
  have HT3 : Hid (T3 = built f3 S (p, q)) := hT3
  clear hT1 hT2 hT3
  obtain ⟨⟨hS1, hSn⟩, pq⟩ := hg
  have hRS := hRV.moved hb8
  have hf1 : Fits T1 := by rw [HT1.out]; exact built_fits (f := f1) rfl HF.out hp.1 hp.2 hq.1 hq.2
  have hf2 : Fits T2 := by rw [HT2.out]; exact built_fits (f := f2) rfl HF.out hp.1 hp.2 hq.1 hq.2
  have hf3 : Fits T3 := by rw [HT3.out]; exact built_fits (f := f3) rfl HF.out hp.1 hp.2 hq.1 hq.2
  have hn1 : Norm T1 := by rw [HT1.out]; exact built_norm rfl _ _
  have hn2 : Norm T2 := by rw [HT2.out]; exact built_norm rfl _ _
  have hn3 : Norm T3 := by rw [HT3.out]; exact built_norm rfl _ _
  have hHas := implHas_ok a6 T1 c6 p q w8 hR6.s hf1 hl1 hn1 hR6.le hR6.top hp.1 pq hq.2
  rw [if_pos (by rw [HT1.out]; exact sum_has)] at hHas
  obtain ⟨x0, x1⟩ := HX.out w8 hb8
  go_wp2_with fail
  clear x0 x1
  refine hHas.mono ?_
  rintro e w9 ⟨rfl, hb9⟩
  have hRS := hRS.moved hb9
  have hR6 := hR6.moved hb9
  have hR7 := hR7.moved hb9
  have hR8 := hR8.moved hb9
  have hb9 := hb8.trans (hb9.mono hb8.size)
  have hSz := implSize_ok av S cp p q w9 hRS.s HF.out hS1 hSn hRS.le hRS.top hp.1 pq hq.2
  obtain ⟨tin, htin⟩ : ∃ t, Hid (t = total (built f4 S (p, q))) := ⟨_, rfl⟩
  rw [← htin.out] at hSz
  obtain ⟨x0, x1⟩ := HX.out w9 hb9
  clear hHas hb8
  go_wp2_with fail
  clear x0 x1
  refine hSz.mono ?_
  rintro e w10 ⟨rfl, hb10⟩
  have hRS := hRS.moved hb10
  have hR6 := hR6.moved hb10
  have hR7 := hR7.moved hb10
  have hR8 := hR8.moved hb10
  have hb10 := hb9.trans (hb10.mono hb9.size)
  have hSr := implSize_ok a7 T2 c7 p q w10 hR7.s hf2 hl2 hn2 hR7.le hR7.top hp.1 pq hq.2
  rw [show total (built f4 T2 (p, q)) = 0 from by rw [HT2.out]; exact rest_none] at hSr
  obtain ⟨x0, x1⟩ := HX.out w10 hb10
  clear hSz hb9
  go_wp2_with fail
  clear x0 x1
  refine hSr.mono ?_
  rintro e w11 ⟨rfl, hb11⟩
  have hRS := hRS.moved hb11
  have hR6 := hR6.moved hb11
  have hR8 := hR8.moved hb11
  have hb11 := hb10.trans (hb11.mono hb10.size)
  have hG0 : Gone S (p, q) 0 T1 S := by rw [HT1.out]; exact gone_start hSn pq
  have hGL : T3.length ≤ 2 * S.length + 1 := by rw [HT3.out]; exact gaps_len _ _
  have hsp : tin + total T3 = q - p := by rw [htin.out, HT3.out]; exact total_split S pq
  have ht3 := total_nonneg (S := T3) (fun x hx => by have := hn3.each x hx; omega)
  have htin0 : 0 ≤ tin := by rw [htin.out]; exact total_nonneg (fun x hx => by have := (built_norm (f := f4) rfl S (p, q)).each x hx; omega)
  have HSP : Hid (tin + total T3 = q - p) := hsp
  have htt : total T3 ≤ 18446744073709551615 := by omega
  have hBw := hbV.trans (hb11.mono hbV.size)
  clear hSr hb10 hR7 hn2 hf2 hsp
  go_wp2_with fail
  go_loopw [25, 26, 27, 28] (fun mv bv jv iv wr => ∃ (k : Nat) (t : Int) (B J : Sp) (ab aj : Option Addr) (cb cj : Nat), k ≤ T3.length ∧ iv = .int .i64 (k : Int) ∧ mv = .int .u64 t ∧ Hid (t = total (T3.take k)) ∧ bv = .slice ab B.length cb ∧ jv = .slice aj J.length cj ∧ Gone S (p, q) k B J ∧ Fits B ∧ Fits J ∧ B.length ≤ 1000 ∧ J.length ≤ 1000 ∧ RowS wr ab cb B ∧ RowS wr aj cj J ∧ Below w11.heap.size w11 wr) (fun _ _ _ iv _ => T3.length - (intOf iv).toNat)
  case atStart => exact ⟨0, 0, T1, S, a6, av, c6, cp, Nat.zero_le _, rfl, rfl, rfl, rfl, rfl, hG0, hf1, HF.out, hl1, hS1, hR6, hRS, Below.refl _ _⟩
  case round =>
  clear hG0
  obtain ⟨k, t, B, J, ab, aj, cb, cj, hk, rfl, rfl, Ht, rfl, rfl, hG, hfB, hfJ, hlB, hlJ, hRB, hRJ, hbr⟩ := hrel
  by_cases hlt : k < T3.length
  case pos =>
    have hG8 := hR8.moved hbr
    rcases hG8.s with h0 | ⟨gb, go, hae, hgc⟩
    · rw [h0] at hlt; simp at hlt
    subst hae
    obtain ⟨y0, y1⟩ := hgc k hlt
    obtain ⟨⟨u, v⟩, huv⟩ : ∃ pr, T3[k] = pr := ⟨_, rfl⟩
    rw [huv] at y0 y1
    simp only at y0 y1
    obtain ⟨u0, u1, v0, v1⟩ := hf3 (u, v) (by rw [← huv]; exact List.getElem_mem hlt)
    simp only at u0 u1 v0 v1
    have hst : u < v ∧ Gone S (p, q) (k + 1) (built f2 B (u, v)) (built f1 J (u, v)) := by
      have : ∀ T, T = built f3 S (p, q) → ∀ (h : k < T.length), T[k] = (u, v) → u < v ∧ Gone S (p, q) (k + 1) (built f2 B (u, v)) (built f1 J (u, v)) := by
        rintro T rfl h e
        exact gone_step hG h e
      exact this T3 HT3.out hlt huv
    obtain ⟨uv, hGn⟩ := hst
    have hts := total_take_succ hlt
    rw [huv, ← Ht.out] at hts
    simp only at hts
    have hb1 := (total_take_le (S := T3) (fun x hx => by have := hn3.each x hx; omega) k)
    have hb2 := (total_take_le (S := T3) (fun x hx => by have := hn3.each x hx; omega) (k + 1))
    rw [← Ht.out] at hb1
    rw [hts] at hb2
    obtain ⟨t2, ht2⟩ : ∃ t2, IntKind.u64.wrap (IntKind.u64.wrap (t + v) - u) = t2 := ⟨_, rfl⟩
    have HT4 : Hid (t2 = total (T3.take (k + 1))) := by
      unfold Hid
      rw [← ht2, hts, IntKind.wrap_u64, IntKind.wrap_u64]
      omega
    have hki : (k : Int) < (T3.length : Int) := by omega
    obtain ⟨TB, kb, hgB, hwB⟩ := stepC B u v hfB hlB hG.nb u0 uv v1
    obtain ⟨TJ, kj, hgJ, hwJ⟩ := stepA J u v hfJ hlJ hG.nj u0 uv v1
    have HGB : Hid _ := hgB
    have HGJ : Hid _ := hgJ
    have HGN : Hid _ := hGn
    clear hgB hgJ hGn hgc huv hts hb1 hb2
    go_wp2_with fail
    go_quiet (fail)
    have hbq := drewsN hbr nq
    have hq0 : Below wr.heap.size wr (wr.drewN nq) := drewsN (Below.refl _ _) nq
    have hRBq := hRB.moved hq0
    have hRJq := hRJ.moved hq0
    have y0q : (wr.drewN nq).cell? ⟨gb, go + k * 2, none⟩ = some (.int .u64 u) := y0
    have y1q : (wr.drewN nq).cell? ⟨gb, go + k * 2 + 1, none⟩ = some (.int .u64 v) := y1
    go_wp2_with fail
    refine (HGB.out ab cb _ hRBq.s hRBq.le hRBq.top hRBq.nil).mono ?_
    rintro e m1 ⟨ab', cb', rfl, hr1, hm1⟩
    have z0 := (hm1.cell (World.block_lt_of_cell? _ _ y0q)).trans y0q
    have z1 := (hm1.cell (World.block_lt_of_cell? _ _ y1q)).trans y1q
    have hRJ1 := hRJq.moved hm1
    have hbm1 := hbq.trans (hm1.mono hbq.size)
    clear y0q y1q y0 y1
    go_wp2_with fail
    refine (HGJ.out aj cj m1 hRJ1.s hRJ1.le hRJ1.top hRJ1.nil).mono ?_
    rintro e m2 ⟨aj', cj', rfl, hr2, hm2⟩
    have hRB2 := (RowS.owned rfl hr1).moved hm2
    have hRJ2 := RowS.owned rfl hr2
    have hbm2 := hbm1.trans (hm2.mono hbm1.size)
    have hBm := hBw.trans (hbm2.mono hBw.size)
    have hlen1 := cut_length (s := (u, v)) hG.nb uv
    have hlen2 := add_length (s := (u, v)) hG.nj uv
    have hlb := hG.lb
    have hlj := hG.lj
    clear z0 z1 hr1 hr2 hRJ1 hRBq hRJq hm1 hm2 hbm1 ht2
    rcases hwB with ⟨rfl, hTB, hTBl⟩ | ⟨rfl, hbig⟩
    case inr =>
      have hb9 : decide ((980 : Int) < (S.length : Int)) = true := by rw [decide_eq_true_iff]; omega
      go_wp2_with fail
      go_ret
      exact ⟨rfl, hBm⟩
    case inl =>
    rcases hwJ with ⟨rfl, hTJ, hTJl⟩ | ⟨rfl, hbig⟩
    case inr =>
      have hb9 : decide ((980 : Int) < (S.length : Int)) = true := by rw [decide_eq_true_iff]; omega
      clear hTB
      go_wp2_with fail
      go_ret
      exact ⟨rfl, hBm⟩
    case inl =>
    have hgn : Gone S (p, q) (k + 1) TB TJ := by rw [hTB, hTJ]; exact HGN.out
    have hfB2 : Fits TB := by rw [hTB]; exact built_fits (f := f2) rfl hfB u0 u1 v0 v1
    have hfJ2 : Fits TJ := by rw [hTJ]; exact built_fits (f := f1) rfl hfJ u0 u1 v0 v1
    clear hTB hTJ
    go_wp2_with fail
    go_roundw
    case rel => exact ⟨k + 1, t2, TB, TJ, ab', aj', cb', cj', by omega, by go_num, rfl, HT4, rfl, rfl, hgn, hfB2, hfJ2, hTBl, hTJl, hRB2, hRJ2, hbm2⟩
    case measure => simp [intOf]; omega
  case neg =>
  obtain rfl : k = T3.length := by omega
  have hkk : ¬ (T3.length : Int) < (T3.length : Int) := by omega
  obtain ⟨hBS, hJT⟩ : B = S ∧ J = T1 := by
    rw [HT1.out]
    apply gone_end hSn
    rw [← HT3.out]
    exact hG
  have e1 := hBS.symm
  have e2 := hJT.symm
  clear hBS hJT
  subst e1
  subst e2
  have Ht2 : Hid (t = total T3) := by unfold Hid; rw [Ht.out, List.take_length]
  have hSr := hRS.moved hbr
  have hS6 := hR6.moved hbr
  have hBr := hBw.trans (hbr.mono hBw.size)
  have hbVr := hb11.trans (hbr.mono hb11.size)
  clear Ht hG hfB hfJ hlB hlJ hR8 hRS hR6 hbr hb11 hBw hGL
  go_wp2_with fail
  go_loopw [31] (fun iv wx => ∃ k : Nat, k ≤ S.length ∧ iv = .int .i64 (k : Int) ∧ Below wr.heap.size wr wx) (fun iv _ => S.length - (intOf iv).toNat)
  case atStart => exact ⟨0, Nat.zero_le _, rfl, Below.refl _ _⟩
  case round =>
  obtain ⟨k, hk2, rfl, hbx⟩ := hrel
  have hSx := hSr.moved hbx
  have h6x := hS6.moved hbx
  by_cases hlt : k < S.length
  case pos =>
    rcases hSx.s with h0 | ⟨sb, so, hae, hsc⟩
    · rw [h0] at hlt; simp at hlt
    subst hae
    obtain ⟨y0, y1⟩ := hsc k hlt
    obtain ⟨⟨u, v⟩, huv⟩ : ∃ pr, S[k] = pr := ⟨_, rfl⟩
    have hmem : (u, v) ∈ S := by rw [← huv]; exact List.getElem_mem hlt
    rw [huv] at y0 y1
    simp only at y0 y1
    obtain ⟨u0, u1, v0, v1⟩ := HF.out (u, v) hmem
    have uv := hSn.each (u, v) hmem
    simp only at u0 u1 v0 v1 uv
    have hHas := implHas_ok a6 T1 c6 u v wr h6x.s hf1 hl1 hn1 h6x.le h6x.top u0 (by omega) v1
    rw [if_pos (by rw [HT1.out]; exact sum_each hmem)] at hHas
    have hki : (k : Int) < (S.length : Int) := by omega
    clear hsc huv hmem
    go_wp2_with fail
    refine hHas.mono ?_
    rintro e m1 ⟨rfl, hm1⟩
    go_wp2_with fail
    go_roundw
    case rel => exact ⟨k + 1, by omega, by go_num, hbx.trans (hm1.mono hbx.size)⟩
    case measure => simp [intOf]; omega
  case neg =>
  obtain rfl : k = S.length := by omega
  have hkk2 : ¬ (S.length : Int) < (S.length : Int) := by omega
  have hHole := implHas_ok av S cp p q wr hSx.s HF.out hS1 hSn hSx.le hSx.top hp.1 pq hq.2
  rw [← HT3.out] at hHole
  have hbVx := hbVr.trans (hbx.mono hbVr.size)
  obtain ⟨x0, x1⟩ := HX.out wr hbVx
  have hBx := hBr.trans (hbx.mono hBr.size)
  have hRBx := hRB.moved hbx
  have hRJx := hRJ.moved hbx
  have hsum : tin + t = q - p := by rw [Ht2.out]; exact HSP.out
  have ht0 : 0 ≤ t := by rw [Ht2.out]; exact ht3
  obtain ⟨d, hd⟩ : ∃ d, q - p = d := ⟨_, rfl⟩
  have hd1 : tin + t = d := hsum.trans hd
  have hdw : IntKind.u64.wrap d = d := by rw [← hd, IntKind.wrap_u64]; omega
  clear hsum HSP
  by_cases hT3 : T3 = []
  case pos =>
    rw [if_pos hT3] at hHole
    have bt : (t == 0) = true := by simp; rw [Ht2.out, hT3]; rfl
    clear hT3
    go_wp2_with fail
    refine hHole.mono ?_
    rintro e m1 ⟨rfl, hm1⟩
    obtain ⟨x0', x1'⟩ := HX.out m1 (hbVx.trans (hm1.mono hbVx.size))
    have hq1 := hRBx.moved hm1
    have hq2 := hSx.moved hm1
    have hq3 := hRJx.moved hm1
    have hq4 := h6x.moved hm1
    have hBm := hBx.trans (hm1.mono hBx.size)
    clear x0 x1
    go_wp2_with fail
    refine (lSpans_same ab av S cb cp m1 hq1.s hq2.s HF.out (by omega)).mono ?_
    rintro e m2 ⟨rfl, hm2⟩
    have hq5 := hq3.moved hm2
    have hq6 := hq4.moved hm2
    have hBm2 := hBm.trans (hm2.mono hBm.size)
    go_wp2_with fail
    refine (lSpans_same aj a6 T1 cj c6 m2 hq5.s hq6.s hf1 (by omega)).mono ?_
    rintro e m3 ⟨rfl, hm3⟩
    go_wp2_with fail
    go_ret
    exact ⟨rfl, hBm2.trans (hm3.mono hBm2.size)⟩
  case neg =>
    rw [if_neg hT3] at hHole
    have bt : (t == 0) = false := by simp; rw [Ht2.out, total_pos hn3]; exact hT3
    clear hT3
    go_wp2_with fail
    refine hHole.mono ?_
    rintro e m1 ⟨rfl, hm1⟩
    obtain ⟨x0', x1'⟩ := HX.out m1 (hbVx.trans (hm1.mono hbVx.size))
    have hq1 := hRBx.moved hm1
    have hq2 := hSx.moved hm1
    have hq3 := hRJx.moved hm1
    have hq4 := h6x.moved hm1
    have hBm := hBx.trans (hm1.mono hBx.size)
    clear x0 x1
    go_wp2_with fail
    refine (lSpans_same ab av S cb cp m1 hq1.s hq2.s HF.out (by omega)).mono ?_
    rintro e m2 ⟨rfl, hm2⟩
    have hq5 := hq3.moved hm2
    have hq6 := hq4.moved hm2
    have hBm2 := hBm.trans (hm2.mono hBm.size)
    go_wp2_with fail
    refine (lSpans_same aj a6 T1 cj c6 m2 hq5.s hq6.s hf1 (by omega)).mono ?_
    rintro e m3 ⟨rfl, hm3⟩
    go_wp2_with fail
    go_ret
    exact ⟨rfl, hBm2.trans (hm3.mono hBm2.size)⟩
end Go.Proofs.Ytgjcdejiolenkaa
