import Derived.Test.YtlagaiekoahjnaaPlanDraw5
import Derived.Test.YtlagaiekoahjnaaPlanBoth2
import Derived.Test.YtlagaiekoahjnaaNumsP
import Derived.Test.YtlagaiekoahjnaaMapQueue
import Derived.Test.YtlagaiekoahjnaaMapAck2
namespace Go.Proofs.Ytlagaiekoahjnaa
open Go.ChangeShapes Go.WideShapes Go.ChangeAt Go.RowKit
set_option linter.unusedVariables false

theorem row_cap {w : World} {base : Nat} {e : TypeId} {size : Nat} {a : Option Addr} {n cap : Nat} {xs : List Value} (h : w.ownsRow base e size (.slice a n cap) n xs) : n ≤ cap ∧ cap ≤ 9223372036854775807 ∧ (a = none → cap = 0) := by
  rcases h.2 with ⟨e, h0⟩ | ⟨g, cc, cur, e, _, _, h1, h2, _⟩
  · simp only [Value.slice.injEq] at e
    obtain ⟨rfl, _, rfl⟩ := e
    exact ⟨by omega, by omega, fun _ => rfl⟩
  · simp only [Value.slice.injEq] at e
    obtain ⟨rfl, _, rfl⟩ := e
    exact ⟨h1, by unfold maxLen at h2; omega, fun h => by cases h⟩
theorem box_of (W : World) (ob : Obj) (b : Nat) (h : b = W.heap.size) : (W.alloc ob).heap[b]? = some ob := by subst h; exact heap_alloc_new W ob

theorem filter_at {α : Type} {S : List α} {p : α → Bool} {k : Nat} (hk : k < S.length) (hp : p S[k] = true) : (S.filter p)[((S.take k).filter p).length]? = some S[k] := by
  have e : S.filter p = ((S.take k).filter p ++ [S[k]]) ++ (S.drop (k + 1)).filter p := by
    have h1 : S.filter p = (S.take (k + 1)).filter p ++ (S.drop (k + 1)).filter p := by rw [← List.filter_append, List.take_append_drop]
    rw [h1, filter_take hk, if_pos hp]
  rw [e, List.getElem?_append_left (by simp), List.getElem?_append_right (Nat.le_refl _), Nat.sub_self]
  rfl

set_option maxHeartbeats 8000000 in
set_option maxRecDepth 100000 in
theorem lawPlanFn (a : Option Addr) (zs : List Int) (cap : Nat) (a2 : Option Addr) (ms : List Int) (cap2 : Nat) (w : World) (hz : Ints .u8 w a zs) (hv : ∀ x ∈ zs, 0 ≤ x ∧ x ≤ 255) (hm : zs.length ≤ 9223372036854775807) (hm2 : ms.length ≤ 9223372036854775807) :
    Calls Try.prog 6 #[.slice a zs.length cap, .slice a2 ms.length cap2] w fun e w' => e = .returned (.bool true) ∧ Below w.heap.size w w' := by
  by_cases hl : zs.length ≤ 1048576
  case neg =>
    go_enter Try.func6, Try.ntmps6
    go_wp2
    go_ret
    exact ⟨rfl, Below.refl _ _⟩
  case pos =>
  by_cases hl2 : ms.length ≤ 1048576
  case neg =>
    go_enter Try.func6, Try.ntmps6
    go_wp2
    go_ret
    exact ⟨rfl, Below.refl _ _⟩
  case pos =>
  have HD : Hid (∀ W : World, Below w.heap.size w W → Calls Try.prog 26 #[.slice a zs.length cap] W fun e w' => ∃ (pol tur : Int) (pa : Option Addr) (np pc : Nat) (pk : List Int) (va : Option Addr) (nv vc : Nat) (V : Vws) (ma : Option Addr) (nm mc : Nat) (S : Mps) (mx mp wt ed cl fm pl : Int), e = .returned (.agg #[.int .i64 pol, .int .i64 tur, .slice pa np pc, .slice va nv vc, .slice ma nm mc, .int .i64 mx, .int .u64 mp, .int .u64 wt, .int .u64 ed, .int .i64 cl, .int .i64 fm, .int .i64 pl]) ∧ Hid (planF zs = ⟨pol, tur, pk, V, S, mx, mp, wt, ed, cl, fm, pl⟩) ∧ (pk.length = np ∧ np ≤ 1001 ∧ V.length = nv ∧ nv ≤ 9 ∧ S.length = nm ∧ nm ≤ 6 ∧ FitsV V ∧ FitsM S ∧ (0 ≤ mp ∧ mp ≤ 18446744073709551615) ∧ (0 ≤ wt ∧ wt ≤ 18446744073709551615) ∧ (0 ≤ ed ∧ ed ≤ 18446744073709551615)) ∧
      w'.ownsRow W.heap.size 2 1 (.slice pa np pc) np (pk.map (.int .i64)) ∧ w'.ownsRow W.heap.size 57 3 (.slice va nv vc) nv (flatV V) ∧ w'.ownsRow W.heap.size 55 5 (.slice ma nm mc) nm (flatM S) ∧ Below W.heap.size W w') := fun W hb => drawPlan_at a zs cap W (hz.moved hb) hv (by omega)
  obtain ⟨L, hL⟩ : ∃ L, Hid (L = zs.length) := ⟨_, rfl⟩
  obtain ⟨M, hM⟩ : ∃ M, Hid (M = ms.length) := ⟨_, rfl⟩
  rw [← hL.out] at HD hl hm ⊢
  rw [← hM.out] at hl2 hm2 ⊢
  have hd1 := HD.out w (Below.refl _ _)
  clear hz hv
  go_enter Try.func6, Try.ntmps6
  go_wp2_with fail
  refine hd1.mono ?_
  rintro e w1 ⟨pol, tur, pa, np, pc, pk, va, nv, vc, V, ma, nm, mc, S, mx, mp, wt, ed, cl, fm, pl, rfl, HA, ⟨hpn, hp1, hvn, hv9, hsn, hs6, hfV, hfS, hmp, hwt, hed⟩, hrp, hrv, hrm, hb1⟩
  subst hpn hvn hsn
  obtain ⟨V1, hV1⟩ : ∃ W, W = w1.alloc (.cells #[.int .i64 pol, .int .i64 tur, .slice pa pk.length pc, .slice va V.length vc, .slice ma S.length mc, .int .i64 mx, .int .u64 mp, .int .u64 wt, .int .u64 ed, .int .i64 cl, .int .i64 fm, .int .i64 pl] 48) := ⟨_, rfl⟩
  obtain ⟨X, hX⟩ : ∃ X, X = w1.heap.size := ⟨_, rfl⟩
  have hbV : Below w.heap.size w V1 := by rw [hV1]; exact hb1.alloc hb1.size _
  have hXV : V1.heap[X]? = some (.cells #[.int .i64 pol, .int .i64 tur, .slice pa pk.length pc, .slice va V.length vc, .slice ma S.length mc, .int .i64 mx, .int .u64 mp, .int .u64 wt, .int .u64 ed, .int .i64 cl, .int .i64 fm, .int .i64 pl] 48 (0, 0)) := by rw [hV1]; exact box_of _ _ _ hX
  have hIp : Ints .i64 V1 pa pk := by rw [hV1]; exact Ints.ofRow (hrp.alloc _)
  have hLv : LieV V1 va V := by rw [hV1]; exact LieV.ofRow rfl (hrv.alloc _)
  have hLm : LieM V1 ma S := by rw [hV1]; exact LieM.ofRow rfl (hrm.alloc _)
  obtain ⟨q1, q2, q3⟩ := row_cap hrv
  obtain ⟨q4, q5, q6⟩ := row_cap hrm
  have HX : Hid (∀ U : World, Below V1.heap.size V1 U → U.cell? ⟨X, 0, none⟩ = some (.int .i64 pol) ∧ U.cell? ⟨X, 1, none⟩ = some (.int .i64 tur) ∧ U.cell? ⟨X, 2, none⟩ = some (.slice pa pk.length pc) ∧ U.cell? ⟨X, 3, none⟩ = some (.slice va V.length vc) ∧ U.cell? ⟨X, 4, none⟩ = some (.slice ma S.length mc) ∧ U.cell? ⟨X, 5, none⟩ = some (.int .i64 mx) ∧ U.cell? ⟨X, 6, none⟩ = some (.int .u64 mp) ∧ U.cell? ⟨X, 7, none⟩ = some (.int .u64 wt) ∧ U.cell? ⟨X, 8, none⟩ = some (.int .u64 ed) ∧ U.cell? ⟨X, 9, none⟩ = some (.int .i64 cl) ∧ U.cell? ⟨X, 10, none⟩ = some (.int .i64 fm) ∧ U.cell? ⟨X, 11, none⟩ = some (.int .i64 pl)) := by
    unfold Hid
    intro U hU
    have h := (hU.block _ (Array.getElem?_eq_some_iff.1 hXV).1).trans hXV
    exact ⟨Go.Joins.cell_of_block h 0, Go.Joins.cell_of_block h 1, Go.Joins.cell_of_block h 2, Go.Joins.cell_of_block h 3, Go.Joins.cell_of_block h 4, Go.Joins.cell_of_block h 5, Go.Joins.cell_of_block h 6, Go.Joins.cell_of_block h 7, Go.Joins.cell_of_block h 8, Go.Joins.cell_of_block h 9, Go.Joins.cell_of_block h 10, Go.Joins.cell_of_block h 11⟩
  obtain ⟨kd, pcx, of, ln, T, tn, us, c, hT8, hOk, hGs, hGi⟩ := bothPlan2 pol tur pk V S mx mp wt ed cl fm pl hfV hfS (by omega) (by omega) (by omega) hmp.1 hwt.1 hed.1
  have HGS : Hid _ := hGs
  have HGI : Hid _ := hGi
  have HOK : Hid _ := hOk
  have HFV : Hid (FitsV V) := hfV
  have HFS : Hid (FitsM S) := hfS
  clear hd1 hGs hGi hOk hrp hrv hrm hb1 hfV hfS
  go_wp2_with fail
  rw [← hV1]
  rw [← hX]
  clear hV1 hX
  refine (HGS.out pa pc va vc ma mc q1 q2 q3 V1 hIp hLv hLm).mono ?_
  rintro e w2 ⟨a3, c3, rfl, _, hb2⟩
  obtain ⟨V2, hV2⟩ : ∃ W, W = w2.alloc (.cells #[.int .i64 kd, .int .i64 pcx, .int .u64 of, .int .i64 ln, .slice a3 T.length c3, .int .i64 tn, .int .i64 us] 51) := ⟨_, rfl⟩
  obtain ⟨Y, hY⟩ : ∃ Y, Y = w2.heap.size := ⟨_, rfl⟩
  have hbV2 : Below V1.heap.size V1 V2 := by rw [hV2]; exact hb2.alloc hb2.size _
  have hYV : V2.heap[Y]? = some (.cells #[.int .i64 kd, .int .i64 pcx, .int .u64 of, .int .i64 ln, .slice a3 T.length c3, .int .i64 tn, .int .i64 us] 51 (0, 0)) := by rw [hV2]; exact box_of _ _ _ hY
  have HY : Hid (∀ U : World, Below V2.heap.size V2 U → U.cell? ⟨Y, 0, none⟩ = some (.int .i64 kd) ∧ U.cell? ⟨Y, 1, none⟩ = some (.int .i64 pcx) ∧ U.cell? ⟨Y, 2, none⟩ = some (.int .u64 of) ∧ U.cell? ⟨Y, 3, none⟩ = some (.int .i64 ln) ∧ U.cell? ⟨Y, 4, none⟩ = some (.slice a3 T.length c3) ∧ U.cell? ⟨Y, 5, none⟩ = some (.int .i64 tn) ∧ U.cell? ⟨Y, 6, none⟩ = some (.int .i64 us)) := by
    unfold Hid
    intro U hU
    have h := (hU.block _ (Array.getElem?_eq_some_iff.1 hYV).1).trans hYV
    exact ⟨Go.Joins.cell_of_block h 0, Go.Joins.cell_of_block h 1, Go.Joins.cell_of_block h 2, Go.Joins.cell_of_block h 3, Go.Joins.cell_of_block h 4, Go.Joins.cell_of_block h 5, Go.Joins.cell_of_block h 6⟩
  have hd2 := HD.out V2 (hbV.trans (hbV2.mono hbV.size))
  clear HD HGS hb2 hYV
  go_wp2_with fail
  rw [← hV2, ← hY]
  clear hV2 hY
  refine hd2.mono ?_
  rintro e w3 ⟨pol', tur', pa', np', pc', pk', va', nv', vc', V', ma', nm', mc', S', mx', mp', wt', ed', cl', fm', pl', rfl, HA', ⟨hpn', _, hvn', _, hsn', _⟩, hrp', hrv', hrm', hb3⟩
  obtain ⟨rfl, rfl, rfl, rfl, rfl, rfl, rfl, rfl, rfl, rfl, rfl, rfl⟩ : pol = pol' ∧ tur = tur' ∧ pk = pk' ∧ V = V' ∧ S = S' ∧ mx = mx' ∧ mp = mp' ∧ wt = wt' ∧ ed = ed' ∧ cl = cl' ∧ fm = fm' ∧ pl = pl' := by
    have := HA.out.symm.trans HA'.out
    simp only [Inp.mk.injEq] at this
    exact this
  subst hpn' hvn' hsn'
  obtain ⟨t1, t2, t3⟩ := row_cap hrv'
  have hG := HGI.out pa' pc' va' vc' ma' mc' t1 t2 t3 w3 (Ints.ofRow hrp') (LieV.ofRow rfl hrv') (LieM.ofRow rfl hrm')
  have hb3o := hb3
  have hb3 := hbV2.trans (hb3.mono hbV2.size)
  clear hd2 HA HA' HGI hrp' hrv' hrm' t1 t2 t3
  go_wp2_with fail
  refine hG.mono ?_
  rintro e w4 ⟨a5, c5, rfl, hr5, hb4⟩
  have hb4o := hb3o.trans (hb4.mono hb3o.size)
  have hb4 := hb3.trans (hb4.mono hb3.size)
  obtain ⟨V4, hV4⟩ : ∃ W, W = w4.alloc (.cells #[.int .i64 kd, .int .i64 pcx, .int .u64 of, .int .i64 ln, .slice a5 T.length c5, .int .i64 tn, .int .i64 us] 51) := ⟨_, rfl⟩
  obtain ⟨Z, hZ⟩ : ∃ Z, Z = w4.heap.size := ⟨_, rfl⟩
  have hbV4 : Below V1.heap.size V1 V4 := by rw [hV4]; exact hb4.alloc hb4.size _
  have hZV : V4.heap[Z]? = some (.cells #[.int .i64 kd, .int .i64 pcx, .int .u64 of, .int .i64 ln, .slice a5 T.length c5, .int .i64 tn, .int .i64 us] 51 (0, 0)) := by rw [hV4]; exact box_of _ _ _ hZ
  have HZ : Hid (∀ U : World, Below V4.heap.size V4 U → U.cell? ⟨Z, 0, none⟩ = some (.int .i64 kd) ∧ U.cell? ⟨Z, 1, none⟩ = some (.int .i64 pcx) ∧ U.cell? ⟨Z, 2, none⟩ = some (.int .u64 of) ∧ U.cell? ⟨Z, 3, none⟩ = some (.int .i64 ln) ∧ U.cell? ⟨Z, 4, none⟩ = some (.slice a5 T.length c5) ∧ U.cell? ⟨Z, 5, none⟩ = some (.int .i64 tn) ∧ U.cell? ⟨Z, 6, none⟩ = some (.int .i64 us)) := by
    unfold Hid
    intro U hU
    have h := (hU.block _ (Array.getElem?_eq_some_iff.1 hZV).1).trans hZV
    exact ⟨Go.Joins.cell_of_block h 0, Go.Joins.cell_of_block h 1, Go.Joins.cell_of_block h 2, Go.Joins.cell_of_block h 3, Go.Joins.cell_of_block h 4, Go.Joins.cell_of_block h 5, Go.Joins.cell_of_block h 6⟩
  have hI5 : Ints .i64 V4 a5 T := by rw [hV4]; exact Ints.ofRow (hr5.alloc _)
  have hYb : Below V2.heap.size V2 V4 := by rw [hV4]; exact hb4o.alloc hb4o.size _
  clear hG hb3 hb4 hr5 hZV hb3o hb4o
  by_cases hc0 : c = 0
  case neg =>
    rcases HOK.out with ⟨_, hk0, hT0⟩ | ⟨h, _⟩
    case inr => exact absurd h hc0
    have hcb : (c != 0) = true := by simpa using hc0
    have HK0 : Hid (kd = 0) := hk0
    have HT0 : Hid (T = []) := hT0
    clear hk0 hT0
    go_upto_if 52 with fail
    rw [← hV4, ← hZ]
    clear hV4 hZ
    obtain ⟨z0, z1, z2, z3, z4, z5, z6⟩ := HZ.out V4 (Below.refl _ _)
    rw [HK0.out] at z0
    rw [HT0.out] at z4
    simp only [List.length_nil] at z4
    go_wp2_with fail
    go_ret
    exact ⟨rfl, hbV.trans (hbV4.mono hbV.size)⟩
  case pos =>
  rcases HOK.out with ⟨h, _⟩ | ⟨_, hp, hvv, ht, hr, hMM, br, hbr, hN, hTT⟩
  case inl => exact absurd hc0 h
  subst hc0
  go_upto_if 52 with fail
  rw [← hV4, ← hZ]
  clear hV4 hZ
  obtain ⟨bz, hbz1, hbz2⟩ : ∃ bz : Bool, (kd == 0) = bz ∧ ((T.length : Int) == 0) = bz := by
    rcases hTT with ⟨h1, h2⟩ | ⟨h1, l, h2, hch, he, _⟩
    · exact ⟨true, by simpa using h1, by rw [h2]; rfl⟩
    · refine ⟨false, by simpa using h1, ?_⟩
      have h3 := hch.some he
      have h4 : 0 < l.length := List.length_pos_iff.2 h3
      rw [h2, nums_length]
      simp
      exact h3
  obtain ⟨pk0, hpk0⟩ : ∃ x, Hid (x = pk.getD 0 0) := ⟨_, rfl⟩
  obtain ⟨x0, x1, x2, x3, x4, x5, x6, x7, x8, x9, x10, x11⟩ := HX.out V4 hbV4
  obtain ⟨y0, y1, y2, y3, y4, y5, y6⟩ := HY.out V4 hYb
  obtain ⟨z0, z1, z2, z3, z4, z5, z6⟩ := HZ.out V4 (Below.refl _ _)
  have HTT : Hid _ := hTT
  have HN : Hid _ := hN
  clear hTT hN HOK
  go_upto_if 87 with fail
  clear hbz1 hbz2 y0 y1 y2 y3 y4 y5 y6 HY hYb
  go_cut [10] from 87 to 91 (fun v wx => v = .int .i64 pk0 ∧ V4 = wx)
  case first =>
    by_cases hpl : 0 < pk.length
    · have dpl : decide ((0 : Int) < (pk.length : Int)) = true := by rw [decide_eq_true_iff]; omega
      rcases hIp.moved hbV4 with h0 | ⟨pb, po, hpe, hpc⟩
      · rw [h0] at hpl; simp at hpl
      subst hpe
      have hcc := hpc 0 hpl
      rw [← hpk0.out] at hcc
      simp only [Nat.add_zero] at hcc
      have hpi : (0 : Int) < (pk.length : Int) := by omega
      go_wp2_with fail
      go_meet
      case rel => exact ⟨rfl, rfl⟩
    · have dpl : decide ((0 : Int) < (pk.length : Int)) = false := by rw [decide_eq_false_iff_not]; omega
      have hk00 : pk0 = 0 := by rw [hpk0.out, List.eq_nil_of_length_eq_zero (by omega : pk.length = 0)]; rfl
      have HK00 : Hid (pk0 = 0) := hk00
      clear hk00
      go_wp2_with fail
      go_meet
      case rel => exact ⟨by rw [HK00.out], rfl⟩
  case rest =>
  obtain ⟨rfl, hwe⟩ := hcut
  subst hwe
  go_upto_if 94 with fail
  clear x0 x1 x2 x3 x4 x5 x6 x7 x8 x9 x10 x11 z0 z1 z2 z3 z4 z5 z6
  go_cut [11, 12] from 94 to 119 (fun v _ wx => v = .int .i64 (br : Int) ∧ Below V4.heap.size V4 wx)
  case first =>
    have hN := HN.out
    clear HN HTT
    obtain ⟨x0, x1, x2, x3, x4, x5, x6, x7, x8, x9, x10, x11⟩ := HX.out V4 hbV4
    rcases hN.is with ⟨i, hi, k2, k4, hn, hC, hq, hno, rfl, rfl⟩ | ⟨hno, hx, he, h1, h2, rfl, rfl, rfl, rfl, rfl⟩ | ⟨hno, hx, he, h, h1, h2, h3, rfl, rfl, rfl, rfl, rfl⟩ | ⟨hno, h, rfl, rfl, rfl, rfl, rfl⟩
    · obtain ⟨z0, z1, z2, z3, z4, z5, z6⟩ := HZ.out V4 (Below.refl _ _)
      rw [qual_at hi hn] at hq
      simp only [Bool.and_eq_true, decide_eq_true_eq] at hq
      rcases hLm.moved hbV4 with h0 | ⟨mb, mo, hme, hmc⟩
      · rw [h0] at hi; simp at hi
      subst hme
      obtain ⟨m0, m1, m2, m3, m4⟩ := hmc i hi
      rw [hn] at m0 m1 m2 m3 m4
      simp only at m0 m1 m2 m3 m4
      rw [hq.1] at m4
      have hii : (i : Int) < (S.length : Int) := by omega
      have hZl : Z < V4.heap.size := World.block_lt_of_cell? _ _ z0
      have hZn : ¬ Z = V4.heap.size := by omega
      have hXl : X < V4.heap.size := World.block_lt_of_cell? _ _ x0
      have hXn : ¬ X = V4.heap.size := by omega
      clear hq hno hn hmc
      go_wp2_with fail
      go_meet
      case rel => exact ⟨rfl, (Below.refl _ _).alloc (Nat.le_refl _) _⟩
    · obtain ⟨z0, z1, z2, z3, z4, z5, z6⟩ := HZ.out V4 (Below.refl _ _)
      clear hno he
      go_wp2_with fail
      go_meet
      case rel => exact ⟨rfl, Below.refl _ _⟩
    · obtain ⟨z0, z1, z2, z3, z4, z5, z6⟩ := HZ.out V4 (Below.refl _ _)
      have HH : Hid _ := h3
      have HH1 : Hid _ := h1
      have HH2 : Hid _ := h2
      clear hno he h h1 h2 h3
      go_wp2_with fail
      go_meet
      case rel => exact ⟨rfl, Below.refl _ _⟩
    · obtain ⟨z0, z1, z2, z3, z4, z5, z6⟩ := HZ.out V4 (Below.refl _ _)
      clear hno h
      go_wp2_with fail
      go_meet
      case rel => exact ⟨rfl, Below.refl _ _⟩
  case rest =>
  obtain ⟨rfl, hbx⟩ := hcut
  have hbx1 := hbV4.trans (hbx.mono hbV4.size)
  go_upto_region 21 with fail
  go_cut [163] from 120 to 162 (fun v wx => v = .bool false ∧ wc = wx)
  case first =>
    have hN := HN.out
    clear HN HTT
    obtain ⟨x0, x1, x2, x3, x4, x5, x6, x7, x8, x9, x10, x11⟩ := HX.out wc hbx1
    rcases hN.is with ⟨i, hi, k2, k4, hn, hC, hq, hno, rfl, rfl⟩ | ⟨hno, hx, he, h1, h2, rfl, rfl, rfl, rfl, rfl⟩ | ⟨hno, hx, he, h, h1, h2, h3, rfl, rfl, rfl, rfl, rfl⟩ | ⟨hno, h, rfl, rfl, rfl, rfl, rfl⟩
    · obtain ⟨z0, z1, z2, z3, z4, z5, z6⟩ := HZ.out wc hbx
      clear hn hq hno
      go_wp2_with fail
      go_meet
      case rel => exact ⟨rfl, rfl⟩
    · obtain ⟨ln, hln⟩ : ∃ x, x = min pl (min (wt - mp) (ed - mp)) := ⟨_, rfl⟩
      rw [← hln] at HZ
      obtain ⟨z0, z1, z2, z3, z4, z5, z6⟩ := HZ.out wc hbx
      obtain ⟨_, _, ⟨pl1, pl2⟩, _, _, w62, e62, _⟩ := hr
      have g1 : 1 ≤ ln := by omega
      have g2 : ln ≤ pl := by omega
      have g3 : mp + ln ≤ wt := by omega
      have g4 : mp + ln ≤ ed := by omega
      have e1 : decide (ln < 1) = false := by rw [decide_eq_false_iff_not]; omega
      have e2 : decide (pl < ln) = false := by rw [decide_eq_false_iff_not]; omega
      have e3 : decide (wt < mp + ln) = false := by rw [decide_eq_false_iff_not]; omega
      have e4 : decide (ed < mp + ln) = false := by rw [decide_eq_false_iff_not]; omega
      have e5 : IntKind.u64.wrap ln = ln := by rw [IntKind.wrap_u64]; omega
      have e6 : IntKind.u64.wrap (mp + ln) = mp + ln := by rw [IntKind.wrap_u64]; omega
      clear hno he h1 h2 hln
      go_wp2_with fail
      go_meet
      case rel => exact ⟨rfl, rfl⟩
    · obtain ⟨z0, z1, z2, z3, z4, z5, z6⟩ := HZ.out wc hbx
      have HH : Hid _ := h3
      have HH1 : Hid _ := h1
      have HH2 : Hid _ := h2
      clear hno he h h1 h2 h3
      go_wp2_with fail
      go_meet
      case rel => exact ⟨rfl, rfl⟩
    · obtain ⟨z0, z1, z2, z3, z4, z5, z6⟩ := HZ.out wc hbx
      clear hno h
      go_wp2_with fail
      go_meet
      case rel => exact ⟨rfl, rfl⟩
  case rest =>
  obtain ⟨rfl, hwe⟩ := hcut
  subst hwe
  obtain ⟨x0, x1, x2, x3, x4, x5, x6, x7, x8, x9, x10, x11⟩ := HX.out wc hbx1
  obtain ⟨z0, z1, z2, z3, z4, z5, z6⟩ := HZ.out wc hbx
  obtain ⟨kz, hkz⟩ : ∃ kz : Bool, (kd != 0) = kz := ⟨_, rfl⟩
  go_upto_if 166 with fail
  go_cut [13, 14, 15] from 167 to 204 (fun _ _ _ wx => Below V4.heap.size V4 wx)
  case first =>
    rcases HTT.out with ⟨h1, h2⟩ | ⟨h1, l, h2, hch, he, hG⟩
    · have hkf : kz = false := by rw [← hkz]; simp [h1]
      clear hkz HTT HN h1 h2
      subst hkf
      go_wp2_with fail
      go_meet
      case rel => exact hbx
    · have hkf : kz = true := by rw [← hkz]; simpa using h1
      clear hkz HN HTT
      subst hkf
      rw [← hpk0.out] at hG
      have hLw := hLv.moved hbx1
      have hGc := hG va vc wc hLw q1 q2 q3
      rw [← h2] at hGc
      have hT1 : ¬ pol = 3 → T.length = 1 := by
        intro h3
        have h4 := hch.one h3
        have h5 : 0 < l.length := List.length_pos_iff.2 (hch.some he)
        rw [h2, nums_length]
        omega
      have HT1 : Hid _ := hT1
      have hI5c := hI5.moved hbx
      clear hG h2 hch he hT1
      go_wp2_with fail
      refine hGc.mono ?_
      rintro e w6 ⟨a6, c6, rfl, hr6, hb6⟩
      have hbx6 := hbx.trans (hb6.mono hbx.size)
      clear x0 x1 x2 x3 x4 x5 x6 x7 x8 x9 x10 x11 z0 z1 z2 z3 z4 z5 z6
      obtain ⟨x0, x1, x2, x3, x4, x5, x6, x7, x8, x9, x10, x11⟩ := HX.out w6 (hbV4.trans (hbx6.mono hbV4.size))
      obtain ⟨z0, z1, z2, z3, z4, z5, z6⟩ := HZ.out w6 hbx6
      have hI6 := Ints.ofRow hr6
      have hI56 := hI5c.moved hb6
      clear hGc
      go_wp2_with fail
      refine (lNums_same a6 a5 T T.length c6 c5 w6 rfl hI6 hI56 (by omega)).mono ?_
      rintro e w7 ⟨rfl, mq, rfl⟩
      have hbx7 : Below V4.heap.size V4 (w6.drewN mq) := drewsN hbx6 mq
      by_cases hp3 : pol = 3
      · have bp : (pol != 3) = false := by simp [hp3]
        have HP3 : Hid _ := hp3
        clear hp3
        go_wp2_with fail
        go_meet
        case rel => exact hbx7
      · have bp : (pol != 3) = true := by simpa using hp3
        have bT : ((T.length : Int) != 1) = false := by have := HT1.out hp3; simp; omega
        go_wp2_with fail
        go_meet
        case rel => exact hbx7
  case rest =>
  clear hbx hbx1 x0 x1 x2 x3 x4 x5 x6 x7 x8 x9 x10 x11 z0 z1 z2 z3 z4 z5 z6 hkz
  have hbx : Below V4.heap.size V4 wc := hcut
  have hbx1 := hbV4.trans (hbx.mono hbV4.size)
  have HTO : Hid (∀ i, i < T.length → ∃ Q : Nat, T.getD i 0 = (Q : Int) ∧ ∃ hQ : Q < V.length, (V[Q]).ali = 1 ∧ 1 ≤ (V[Q]).rom ∧ br.testBit Q = false ∧ (0 < i → T.getD (i - 1) 0 < (Q : Int))) := by
    unfold Hid
    intro i hi
    rcases HTT.out with ⟨_, h2⟩ | ⟨_, l, h2, hch, he, _⟩
    · rw [h2] at hi; simp at hi
    · have hil : i < l.length := by rw [h2, nums_length] at hi; exact hi
      have hget : ∀ j, ∀ hj : j < l.length, T.getD j 0 = ((l[j]'hj : Nat) : Int) := by
        intro j hj
        rw [h2]
        simp [nums, hj]
      have hmem := hch.mem _ (List.getElem_mem hil)
      have hlt := elig_lt hmem
      have hel : el V br l[i] = true := (List.mem_filter.1 hmem).2
      refine ⟨l[i], hget i hil, hlt, ?_⟩
      obtain ⟨⟨v0, v1, v2⟩, hvv⟩ : ∃ v, V[l[i]] = v := ⟨_, rfl⟩
      rw [el_at hlt hvv] at hel
      rw [hvv]
      simp only [Bool.and_eq_true, decide_eq_true_eq, Bool.not_eq_true'] at hel
      refine ⟨hel.1.1, by have := hel.1.2; simp only; omega, hel.2, fun h0 => ?_⟩
      rw [hget (i - 1) (by omega)]
      have := List.pairwise_iff_getElem.1 hch.up (i - 1) i (by omega) hil (by omega)
      omega
  go_wp2_with fail
  go_loopw [16] (fun iv wx => ∃ i : Nat, i ≤ T.length ∧ iv = .int .i64 (i : Int) ∧ Below V4.heap.size V4 wx) (fun iv _ => T.length - (intOf iv).toNat)
  case atStart => exact ⟨0, Nat.zero_le _, rfl, hbx⟩
  case round =>
  clear hbx hbx1
  obtain ⟨i, hi, rfl, hbx⟩ := hrel
  have hbx1 := hbV4.trans (hbx.mono hbV4.size)
  obtain ⟨x0, x1, x2, x3, x4, x5, x6, x7, x8, x9, x10, x11⟩ := HX.out wr hbx1
  obtain ⟨z0, z1, z2, z3, z4, z5, z6⟩ := HZ.out wr hbx
  by_cases hlt : i < T.length
  case pos =>
    have hii : (i : Int) < (T.length : Int) := by omega
    obtain ⟨Q, hQe, hQV, hQa, hQr, hQb, hQl⟩ := HTO.out i hlt
    have hQ8 : Q < 8 := by have := hvv.1.2; omega
    rcases hI5.moved hbx with h0 | ⟨tb, tof, hte, htc⟩
    · rw [h0] at hlt; simp at hlt
    subst hte
    have t0 := htc i hlt
    rw [hQe] at t0
    rcases hLv.moved hbx1 with h0 | ⟨vb, vo, hve, hvc⟩
    · rw [h0] at hQV; simp at hQV
    subst hve
    obtain ⟨v0, v1, v2⟩ := hvc Q hQV
    rw [hQa] at v0
    obtain ⟨rm, hrm⟩ : ∃ rm, rm = (V[Q]).rom := ⟨_, rfl⟩
    rw [← hrm] at v2 hQr
    obtain ⟨bk, hbk⟩ : ∃ bk, bk = (V[Q]).bck := ⟨_, rfl⟩
    rw [← hbk] at v1
    have HTC : Hid (∀ j, j < T.length → wr.cell? ⟨tb, tof + j, none⟩ = some (.int .i64 (T.getD j 0))) := htc
    clear hrm hbk hQa htc hvc
    have hQi : (Q : Int) < (V.length : Int) := by omega
    go_upto_region 31 with fail
    go_cut [265] from 217 to 264 (fun v wx => v = .bool false ∧ wr = wx)
    case first =>
      have d1 : decide ((Q : Int) < 0) = false := by rw [decide_eq_false_iff_not]; omega
      have d2 : decide ((V.length : Int) ≤ (Q : Int)) = false := by rw [decide_eq_false_iff_not]; omega
      have d3 : decide (rm < 1) = false := by rw [decide_eq_false_iff_not]; omega
      have hA1 : bits .and .i64 (br : Int) (wrap64 (2 ^ Q)) = 0 := by
        have h2q : 2 ^ Q < 256 := by
          have : 2 ^ Q < 2 ^ 8 := Nat.pow_lt_pow_right (by decide) hQ8
          omega
        have h0 : br &&& 2 ^ Q = 0 := by
          apply Nat.eq_of_testBit_eq
          intro j
          rw [Nat.testBit_and, Nat.testBit_two_pow, Nat.zero_testBit]
          by_cases hj : Q = j
          · subst hj; rw [hQb]; rfl
          · simp [hj]
        have h1 : wrap64 ((2 : Int) ^ Q) = ((2 ^ Q : Nat) : Int) := by
          have h3 : ((2 : Int) ^ Q) = ((2 ^ Q : Nat) : Int) := by simp
          rw [h3]
          obtain ⟨m2, hm2⟩ : ∃ m2 : Nat, m2 = 2 ^ Q := ⟨_, rfl⟩
          rw [← hm2] at h2q ⊢
          unfold wrap64
          omega
        rw [h1, and_small br (2 ^ Q) hbr h2q, h0]
        rfl
      have d2n : decide (V.length ≤ Q) = false := by rw [decide_eq_false_iff_not]; omega
      have din : ∀ b : Bool, decide ((0 : Int) < (i : Int)) = b → decide (0 < i) = b := by intro b h; rw [← h]; congr 1; simp
      by_cases hi0 : 0 < i
      · have di : decide ((0 : Int) < (i : Int)) = true := by rw [decide_eq_true_iff]; omega
        obtain ⟨J, hJ⟩ : ∃ J, Hid (i = J + 1) := ⟨i - 1, by unfold Hid; omega⟩
        have hJi : (i : Int) - 1 = (J : Int) := by have := hJ.out; omega
        have hJl : J < T.length := by have := hJ.out; omega
        have hJn : (J : Int) < (T.length : Int) := by omega
        have t1 := HTC.out J hJl
        obtain ⟨u, hu⟩ : ∃ u, u = T.getD J 0 := ⟨_, rfl⟩
        have hlu : u < (Q : Int) := by rw [hu]; have h := hQl hi0; rw [show i - 1 = J by have := hJ.out; omega] at h; exact h
        rw [← hu] at t1
        have dq : decide ((Q : Int) ≤ u) = false := by rw [decide_eq_false_iff_not]; omega
        clear hu
        have din2 := din _ di
        clear din
        go_wp2_with fail
        go_meet
        case rel => exact ⟨rfl, rfl⟩
      · have di : decide ((0 : Int) < (i : Int)) = false := by rw [decide_eq_false_iff_not]; omega
        have din2 := din _ di
        clear din
        go_wp2_with fail
        go_meet
        case rel => exact ⟨rfl, rfl⟩
    case rest =>
    obtain ⟨rfl, hwe⟩ := hcut
    subst hwe
    go_wp2_with fail
    go_roundw
    case rel => exact ⟨i + 1, by omega, by go_num, hbx⟩
    case measure => simp [intOf]; omega
  case neg =>
  obtain rfl : i = T.length := by omega
  have hkk : ¬ (T.length : Int) < (T.length : Int) := by omega
  clear HTO HTT HN
  obtain ⟨al, hal⟩ : ∃ al : Nat, (M : Int) % 256 = (al : Int) := ⟨M % 256, by omega⟩
  have hal2 : al < 256 := by omega
  obtain ⟨ak, hak⟩ : ∃ ak, mp - mp / 3 = ak := ⟨_, rfl⟩
  have hAck := implAck_ok S ak HFS.out hMM.1 ma mc wr (hLm.moved hbx1) q4 q5 q6
  obtain ⟨F, hF⟩ : ∃ F, Hid (F = S.filter (late ak)) := ⟨_, rfl⟩
  rw [← hF.out] at hAck
  go_wp2_with fail
  clear x0 x1 x2 x3 x4 x5 x6 x7 x8 x9 x10 x11 z0 z1 z2 z3 z4 z5 z6 hak
  refine hAck.mono ?_
  rintro e w8 ⟨a8, c8, rfl, hr8, hb8⟩
  have hbx8 := hbx1.trans (hb8.mono hbx1.size)
  obtain ⟨x0, x1, x2, x3, x4, x5, x6, x7, x8, x9, x10, x11⟩ := HX.out w8 hbx8
  have hQue := implQueue_ok' S al HFS.out hMM.1 hal2 ma mc w8 (hLm.moved hbx8) q4 q5 q6
  simp only [queued_length] at hQue
  clear hAck
  go_wp2_with fail
  clear x0 x1 x2 x3 x4 x5 x6 x7 x8 x9 x10 x11 hal
  refine hQue.mono ?_
  rintro e w9 ⟨a9, c9, rfl, hr9, hb9⟩
  have hbx9 := hbx8.trans (hb9.mono hbx8.size)
  have hBw := hbV.trans (hbx9.mono hbV.size)
  have hL8 := (LieM.ofRow rfl hr8).moved hb9
  have hL9 : LieM w9 a9 (queued al S) := LieM.ofRow (queued_length al S) hr9
  have HQ9 : Hid (LieM w9 a9 (queued al S)) := hL9
  obtain ⟨NF, hNF⟩ : ∃ NF, Hid (NF = F.length) := ⟨_, rfl⟩
  rw [← hNF.out]
  have hLS := hLm.moved hbx9
  obtain ⟨x0, x1, x2, x3, x4, x5, x6, x7, x8, x9, x10, x11⟩ := HX.out w9 hbx9
  have HXW : Hid (∀ U : World, Below w9.heap.size w9 U → U.cell? ⟨X, 4, none⟩ = some (.slice ma S.length mc)) := by
    unfold Hid
    intro U hU
    exact (hU.cell (World.block_lt_of_cell? _ _ x4)).trans x4
  have hXl : X < w9.heap.size := World.block_lt_of_cell? _ _ x4
  clear hQue hr8 hr9 hb8 hb9 hbx8 hL9 HX HZ hI5
  go_wp2_with fail
  clear x0 x1 x2 x3 x4 x5 x6 x7 x8 x9 x10 x11
  go_loopw [24, 25] (fun nv iv wx => ∃ (i nn : Nat), i ≤ S.length ∧ iv = .int .i64 (i : Int) ∧ nv = .int .i64 (nn : Int) ∧ Hid (nn = ((S.take i).filter (late ak)).length) ∧ Below w9.heap.size w9 wx) (fun _ iv _ => S.length - (intOf iv).toNat)
  case atStart => exact ⟨0, 0, Nat.zero_le _, rfl, rfl, by unfold Hid; simp, Below.refl _ _⟩
  case round =>
  obtain ⟨i, nn, hi, rfl, rfl, Hnn, hby⟩ := hrel
  have x4 := HXW.out wr hby
  have hnn6 : nn ≤ 6 := by rw [Hnn.out]; have := filter_take_len S (late ak) i; omega
  by_cases hlt : i < S.length
  case neg =>
    obtain rfl : i = S.length := by omega
    have hkk2 : ¬ (S.length : Int) < (S.length : Int) := by omega
    have hnf : nn = NF := by rw [Hnn.out, List.take_length, hNF.out, hF.out]
    subst hnf
    go_wp2_with fail
    go_ret
    exact ⟨rfl, hBw.trans (hby.mono hBw.size)⟩
  case pos =>
  have hii : (i : Int) < (S.length : Int) := by omega
  rcases hLS.moved hby with h0 | ⟨mb, mo, hme, hmc⟩
  · rw [h0] at hlt; simp at hlt
  subst hme
  obtain ⟨m0, m1, m2, m3, m4⟩ := hmc i hlt
  have hsh := hMM.1.2.shape hlt
  have hsm := shape_small hsh
  have hok := HFS.out _ (List.getElem_mem hlt)
  obtain ⟨⟨k0, k1, k2, k3, k4⟩, hm0⟩ : ∃ m, S[i] = m := ⟨_, rfl⟩
  obtain ⟨C, hC, hC2⟩ := car_nat hMM.1.2 hlt hm0
  subst hC
  rw [hm0] at m0 m1 m2 m3 m4 hsm hok
  simp only at m0 m1 m2 m3 m4 hsm
  have hk0 : 0 ≤ k0 := hok.1.1
  obtain ⟨s1, s2, s3, s4, s5⟩ := hsm
  have HM0 : Hid (S[i] = ⟨k0, k1, k2, (C : Int), k4⟩) := hm0
  obtain ⟨VB, hVB⟩ : ∃ W, W = wr.alloc (.cells #[.int .u64 k0, .int .i64 k1, .int .i64 k2, .int .i64 (C : Int), .int .i64 k4] 55) := ⟨_, rfl⟩
  obtain ⟨B, hB⟩ : ∃ B, B = wr.heap.size := ⟨_, rfl⟩
  have hBX : VB.heap[B]? = some (.cells #[.int .u64 k0, .int .i64 k1, .int .i64 k2, .int .i64 (C : Int), .int .i64 k4] 55 (0, 0)) := by rw [hVB]; exact box_of _ _ _ hB
  have hbyV : Below w9.heap.size w9 VB := by rw [hVB]; exact hby.alloc hby.size _
  have hB9 : w9.heap.size ≤ B := by rw [hB]; exact hby.size
  have e1 : IntKind.u64.wrap k1 = k1 := by rw [IntKind.wrap_u64]; omega
  have e2 : IntKind.u64.wrap k2 = k2 := by rw [IntKind.wrap_u64]; omega
  have e3 : IntKind.u64.wrap (k0 + k1) = k0 + k1 := by rw [IntKind.wrap_u64]; omega
  have e4 : IntKind.u64.wrap (k0 + k1 + k2) = k0 + k1 + k2 := by rw [IntKind.wrap_u64]; omega
  obtain ⟨lt8, hlt8⟩ : ∃ b : Bool, decide (ak < k0 + k1 + k2) = b := ⟨_, rfl⟩
  have hlate : Hid (late ak S[i] = lt8) := by unfold Hid; rw [hm0, ← hlt8]; rfl
  clear hmc hsh hok hm0
  go_upto_if 326 with fail
  rw [← hVB, ← hB]
  clear hVB hB m0 m1 m2 m3 m4 x4 hlt8 e1 e2 e3 e4
  go_cut [24] from 327 to 340 (fun v wx => ∃ n2 : Nat, v = .int .i64 (n2 : Int) ∧ Hid (n2 = ((S.take (i + 1)).filter (late ak)).length) ∧ wx.heap[B]? = some (.cells #[.int .u64 k0, .int .i64 k1, .int .i64 k2, .int .i64 (C : Int), .int .i64 k4] 55 (0, 0)) ∧ Below w9.heap.size w9 wx)
  case first =>
    cases lt8
    case false =>
      have HN2 : Hid (nn = ((S.take (i + 1)).filter (late ak)).length) := by unfold Hid; rw [filter_take hlt, hlate.out, if_neg (by decide), List.append_nil]; exact Hnn.out
      go_wp2_with fail
      go_meet
      case rel => exact ⟨nn, rfl, HN2, hBX, hbyV⟩
    case true =>
      have HN2 : Hid (nn + 1 = ((S.take (i + 1)).filter (late ak)).length) := by unfold Hid; rw [filter_take hlt, hlate.out, if_pos rfl, List.length_append, ← Hnn.out]; rfl
      have hat : F[nn]? = some ⟨k0, k1, k2, (C : Int), k4⟩ := by
        rw [hF.out, Hnn.out, filter_at hlt hlate.out, HM0.out]
      obtain ⟨hnl, hne⟩ := List.getElem?_eq_some_iff.1 hat
      have hnF : nn < NF := by rw [hNF.out]; exact hnl
      have hnFi : (nn : Int) < (NF : Int) := by omega
      have dn : decide ((NF : Int) ≤ (nn : Int)) = false := by rw [decide_eq_false_iff_not]; omega
      have dn2 : decide (NF ≤ nn) = false := by rw [decide_eq_false_iff_not]; omega
      rcases hL8.moved hbyV with h0 | ⟨fb, fo, hfe, hfc⟩
      · rw [h0] at hnl; simp at hnl
      subst hfe
      obtain ⟨p0, p1, p2, p3, p4⟩ := hfc nn hnl
      rw [hne] at p0 p1 p2 p3 p4
      simp only at p0 p1 p2 p3 p4
      obtain ⟨u0, u1, u2, u3, u4'⟩ := cellsM5 hBX
      clear hfc hat hne hnl
      go_wp2_with fail
      go_quiet (fail)
      go_wp2_with fail
      go_meet
      case rel => exact ⟨nn + 1, by go_num, HN2, hBX, drewsN hbyV _⟩
  case rest =>
  obtain ⟨n2, rfl, HN2, hBX2, hbz⟩ := hcut
  obtain ⟨u0, u1, u2, u3, u4'⟩ := cellsM5 hBX2
  have uf := Go.Joins.unfrozen_of_block hBX2 4
  have hand := and_small C al hC2 hal2
  obtain ⟨ca, hca⟩ : ∃ ca : Bool, (((C &&& al : Nat) : Int) == 0) = ca := ⟨_, rfl⟩
  have HCA : Hid ((((C &&& al : Nat) : Int) == 0) = ca) := hca
  go_upto_if 345 with fail
  clear hca hand
  go_cut [] from 346 to 346 (fun wx => ∃ k5 : Int, Hid (que1 al S[i] = ⟨k0, k1, k2, (C : Int), k5⟩) ∧ wx.heap[B]? = some (.cells #[.int .u64 k0, .int .i64 k1, .int .i64 k2, .int .i64 (C : Int), .int .i64 k5] 55 (0, 0)) ∧ Below w9.heap.size w9 wx)
  case first =>
    cases ca
    case true =>
      have hz : C &&& al = 0 := by have := HCA.out; simpa using this
      have HQ : Hid (que1 al S[i] = ⟨k0, k1, k2, (C : Int), 1⟩) := by unfold Hid; rw [HM0.out]; exact que_yes hz
      clear hz
      go_wp2_with fail
      go_meet
      case rel => exact ⟨1, HQ, by rw [Go.Joins.block_setCell hBX2]; rfl, hbz.setCell hB9 _⟩
    case false =>
      have hz : ¬ C &&& al = 0 := by have := HCA.out; simpa using this
      have HQ : Hid (que1 al S[i] = ⟨k0, k1, k2, (C : Int), k4⟩) := by unfold Hid; rw [HM0.out]; exact que_no hz
      clear hz
      go_wp2_with fail
      go_meet
      case rel => exact ⟨k4, HQ, hBX2, hbz⟩
  case rest =>
  clear u0 u1 u2 u3 u4' uf hBX2 hbz
  obtain ⟨k5, HQ, hBX5, hbw⟩ := hcut
  obtain ⟨u0, u1, u2, u3, u4'⟩ := cellsM5 hBX5
  have hqi : i < (queued al S).length := by rw [queued_length]; exact hlt
  rcases HQ9.out.moved hbw with h0 | ⟨gb, go, hge, hgc⟩
  · rw [h0] at hqi; simp at hqi
  subst hge
  obtain ⟨r0, r1, r2, r3, r4⟩ := hgc i hqi
  have hqe : (queued al S)[i] = ⟨k0, k1, k2, (C : Int), k5⟩ := by
    rw [← HQ.out]
    simp [queued]
  rw [hqe] at r0 r1 r2 r3 r4
  simp only at r0 r1 r2 r3 r4
  clear hgc hqe hqi
  go_wp2_with fail
  go_quiet (fail)
  go_wp2_with fail
  go_roundw
  case rel => exact ⟨i + 1, n2, by omega, by go_num, rfl, HN2, by first | exact drewsN hbw _ | exact hbw⟩
  case measure => simp [intOf]; omega
end Go.Proofs.Ytlagaiekoahjnaa
