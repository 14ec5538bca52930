import Derived.Test.YtkamdaadgndmbaaNDraw2
namespace Go.Proofs.Ytkamdaadgndmbaa
open Go.ChangeShapes Go.WideShapes Go.ChangeAt Go.RowKit
set_option linter.unusedVariables false

def drawNF (zs : List Int) (paths mx : Int) (σ : Src) : List NEv × Src :=
  let x1 := nextF zs σ mx
  let x2 := nextF zs x1.2 paths
  let x3 := nextF zs x2.2 6
  evsFN zs paths (1 + x2.1) (x3.1 == 0) x3.2 (3 + x1.1).toNat
set_option maxHeartbeats 4000000 in
set_option maxRecDepth 100000 in
theorem drawEvN_at (w0 w : World) (b : Nat) (a : Option Addr) (zs : List Int) (cap : Nat) (σ : Src) (hd : DrawAt w0 w b a zs.length cap σ) (hz : Ints .u8 w0 a zs) (hv : ∀ x ∈ zs, 0 ≤ x ∧ x ≤ 255) (hl : zs.length ≤ 2000000) (paths mx : Int) (p1 : 1 ≤ paths) (p8 : paths ≤ 8) (m1 : 1 ≤ mx) (m2 : mx ≤ 1000000) :
    Calls Try.prog 24 #[.pointer (some ⟨b, 0, none⟩), .int .i64 paths, .int .i64 mx] w fun e w' => ∃ (m : Nat) (av : Option Addr) (cp : Nat), e = .returned (.slice av m cp) ∧ m ≤ 1000003 ∧ ∃ (G : Evs) (σ' : Src), G.length = m ∧ drawNF zs paths mx σ = (G.map (·.1), σ') ∧ (∀ p ∈ G, EvOk p.1) ∧ DrawE w0 w b a zs.length cap (.slice av m cp) G σ' w' := by
  have hbl := hd.lt
  have HNX : Hid (∀ (w1 : World) (σ1 : Src) (n : Int), DrawAt w0 w1 b a zs.length cap σ1 → 0 < n → n ≤ 1000000 → Calls Try.prog 23 #[.pointer (some ⟨b, 0, none⟩), .int .i64 n] w1 fun e w' => ∃ (r : Int) (σ' : Src), e = .returned (.int .i64 r) ∧ Hid (nextF zs σ1 n = (r, σ')) ∧ 0 ≤ r ∧ r < n ∧ DrawAt w0 w' b a zs.length cap σ' ∧ w1.grownBy w' (some b)) := fun w1 σ1 n h1 h2 h3 => next_at w0 w1 b a zs cap σ1 n h1 hz hv hl h2 (by omega)
  have HNB : Hid (∀ (w1 : World) (σ1 : Src) (m : Nat), DrawAt w0 w1 b a zs.length cap σ1 → m ≤ 1000 → Calls Try.prog 38 #[.pointer (some ⟨b, 0, none⟩), .int .i64 m] w1 fun e w' => ∃ (ys : List Int) (σ' : Src) (av : Option Addr) (cp : Nat), e = .returned (.slice av m cp) ∧ Hid (bytesF zs σ1 m = (ys, σ')) ∧ ys.length = m ∧ (∀ x ∈ ys, 0 ≤ x ∧ x ≤ 255) ∧ w'.ownsRow w1.heap.size 5 1 (.slice av m cp) m (ys.map (.int .u8)) ∧ DrawAt w0 w' b a zs.length cap σ' ∧ w1.grownBy w' (some b)) := fun w1 σ1 m h1 h2 => drawBytes_at2 w0 w1 b a zs cap m σ1 h1 hz hv hl h2
  have hrow0 : (w.alloc (.cells #[] 35)).ownsRow w.heap.size 35 5 (.slice (some ⟨w.heap.size, 0, none⟩) 0 0) 0 [] := World.ownsRow_made w #[] 0 (Nat.le_refl _) (by unfold maxLen; omega) rfl
  have hD0 : DrawE w0 w b a zs.length cap (.slice (some ⟨w.heap.size, 0, none⟩) 0 0) [] σ (w.alloc (.cells #[] 35)) := ⟨hd.grown (World.grownBy_alloc w _ none) (by simp), ⟨hrow0, by simp, by simp⟩, World.grownBy_alloc w _ _, hbl⟩
  have h1 := HNX.out _ σ mx hD0.dr (by omega) m2
  have HD0 : Hid _ := hD0
  clear hd hz hv hrow0 hD0
  go_enter Try.func24, Try.ntmps24
  go_wp2_with fail
  refine h1.mono ?_
  rintro e w1 ⟨r1, σ1, rfl, H1, r10, r11, hd1, hg1⟩
  have HD1 : Hid _ := HD0.out.next hd1 hg1
  have h2 := HNX.out w1 σ1 paths hd1 (by omega) (by omega)
  have hw1 : IntKind.i64.wrap (3 + r1) = 3 + r1 := by rw [IntKind.wrap_i64]; omega
  clear h1 hd1 hg1 HD0
  go_wp2_with fail
  refine h2.mono ?_
  rintro e w2 ⟨r2, σ2, rfl, H2, r20, r21, hd2, hg2⟩
  have HD2 : Hid _ := HD1.out.next hd2 hg2
  have h3 := HNX.out w2 σ2 6 hd2 (by omega) (by omega)
  have hw2 : IntKind.i64.wrap (1 + r2) = 1 + r2 := by rw [IntKind.wrap_i64]; omega
  clear h2 hd2 hg2 HD1
  go_wp2_with fail
  refine h3.mono ?_
  rintro e w3 ⟨r3, σ3, rfl, H3, r30, r31, hd3, hg3⟩
  have HD3 : Hid _ := HD2.out.next hd3 hg3
  clear h3 hd3 hg3 HD2
  obtain ⟨m, hm⟩ : ∃ m : Nat, 3 + r1 = (m : Int) := ⟨(3 + r1).toNat, by omega⟩
  obtain ⟨few, hfew⟩ : ∃ few, 1 + r2 = few := ⟨_, rfl⟩
  obtain ⟨cr, hcr⟩ : ∃ cr : Bool, (r3 == 0) = cr := ⟨_, rfl⟩
  have HF : Hid (drawNF zs paths mx σ = evsFN zs paths few cr σ3 m) := by
    unfold Hid drawNF
    rw [H1.out]
    simp only
    rw [H2.out]
    simp only
    rw [H3.out]
    simp only
    rw [hfew, hcr, hm]
    rfl
  have hmm : m ≤ 1000003 := by omega
  have hf1 : 1 ≤ few := by omega
  have hf8 : few ≤ 8 := by omega
  rw [hm] at hw1
  rw [hfew] at hw2
  go_wp2_with fail
  have HM : Hid _ := hm
  clear hm hfew hcr hw1 hw2
  go_loopw [7, 11] (fun ov iv wr => ∃ (k : Nat) (av : Option Addr) (cp : Nat) (G : Evs) (σk : Src), k ≤ m ∧ iv = .int .i64 (k : Int) ∧ ov = .slice av k cp ∧ Hid (G.length = k) ∧ Hid (evsFN zs paths few cr σ3 k = (G.map (·.1), σk)) ∧ Hid (∀ p ∈ G, EvOk p.1) ∧ Hid (DrawE w0 w b a zs.length cap (.slice av k cp) G σk wr)) (fun _ iv _ => m - (intOf iv).toNat)
  case atStart => exact ⟨0, _, _, [], σ3, Nat.zero_le _, rfl, rfl, rfl, rfl, by unfold Hid; simp, HD3⟩
  case round =>
  clear HD3
  obtain ⟨k, av, cp, G, σk, hk, rfl, rfl, HGK, HEVS, HOK, HD⟩ := hrel
  by_cases hlt : k < m
  case neg =>
    obtain rfl : k = m := by omega
    have hkk : ¬ (k : Int) < (k : Int) := by omega
    go_wp2_with fail
    go_ret
    exact ⟨k, av, cp, rfl, hmm, G, HGK.out, σk.1, σk.2, HF.out.trans HEVS.out, fun a1 a2 a3 h => HOK.out _ h, HD.out⟩
  case pos =>
  have hkm : (k : Int) < (m : Int) := by omega
  have h1 := HNX.out wr σk few HD.out.dr (by omega) (by omega)
  go_wp2_with fail
  refine h1.mono ?_
  rintro e w4 ⟨pp, τ1, rfl, A1, a10, a11, hd4, hg4⟩
  have HD4 : Hid _ := HD.out.next hd4 hg4
  have h2 := HNX.out w4 τ1 2 hd4 (by omega) (by omega)
  clear h1 HD hd4 hg4
  go_wp2_with fail
  refine h2.mono ?_
  rintro e w5 ⟨dd, τ2, rfl, A2, a20, a21, hd5, hg5⟩
  have HD5 : Hid _ := HD4.out.next hd5 hg5
  have h3 := HNX.out w5 τ2 4 hd5 (by omega) (by omega)
  clear h2 HD4 hd5 hg5
  go_wp2_with fail
  refine h3.mono ?_
  rintro e w6 ⟨ix, τ3, rfl, A3, a30, a31, hd6, hg6⟩
  have HD6 : Hid _ := HD5.out.next hd6 hg6
  clear h3 HD5 hd6 hg6
  obtain ⟨lim, hlim⟩ : ∃ lim, lim = w6.heap.size := ⟨_, rfl⟩
  have HLT : Hid ((∀ j, (Value.slice av k cp).ownBlock = some j → j < lim) ∧ (∀ p ∈ G, ∀ j, (evP p).ownBlock = some j → j < lim) ∧ w.heap.size ≤ lim) := by
    rw [hlim]
    exact ⟨fun j hj => (HD6.out.ev.row.lt j hj).2, fun p hp j hj => ((HD6.out.ev.dat p hp).lt j hj).2, HD6.out.size⟩
  have hblim : b < lim := by have := HLT.out.2.2; omega
  obtain ⟨W7, hW7⟩ : ∃ W, W = w6.alloc (.cells #[.int .i64 1, .int .i64 pp, .int .i64 dd, .int .i64 ix, .slice none 0 0] 35) := ⟨_, rfl⟩
  have HD7 : Hid (DrawE w0 w b a zs.length cap (.slice av k cp) G τ3 W7) := by rw [hW7]; exact HD6.out.alloc _
  have HE7 : Hid (EvBox lim lim ⟨1, pp, dd, ix, []⟩ none 0 W7) := ⟨by rw [hW7, hlim]; exact heap_alloc_new _ _, ⟨rfl, .inl ⟨rfl, rfl⟩⟩, Nat.le_refl _⟩
  have hlw7 : Hid (lim ≤ W7.heap.size) := by rw [hW7, hlim]; unfold Hid; simp
  have HSETD : Hid (∀ (σ9 : Src) (W : World) (j : Nat) (u : Value), DrawE w0 w b a zs.length cap (.slice av k cp) G σ9 W → DrawE w0 w b a zs.length cap (.slice av k cp) G σ9 (W.setCell ⟨lim, j, none⟩ u)) := fun σ9 W j u h => h.set (Nat.le_refl _) HLT.out.2.2 HLT.out.1 HLT.out.2.1 j u
  have h4 := HNX.out W7 τ3 100 HD7.out.dr (by omega) (by omega)
  go_upto_region 9 with fail
  rw [← hW7, ← hlim]
  clear hW7 hlim HD6
  go_wp2_with fail
  refine h4.mono ?_
  rintro e w8 ⟨q, τ4, rfl, A4, a40, a41, hd8, hg8⟩
  have HD8 : Hid _ := HD7.out.next hd8 hg8
  have HE8 : Hid _ := HE7.out.next hg8 hblim
  have HEV : Hid (evFN zs paths few cr σk = if cr = true then evK zs paths 0 0 ix (q / 2) τ4 else evK zs paths pp dd ix q τ4) := by
    unfold Hid evFN
    rw [A1.out]
    simp only
    rw [A2.out]
    simp only
    rw [A3.out]
    simp only
    rw [A4.out]
  clear h4 HD7 HE7 hd8 hg8 hlw7
  go_upto_if 41 with fail
  go_cut [13] from 41 to 45 (fun kv wx => ∃ (q' p' d' : Int), kv = .int .i64 q' ∧ Hid (evFN zs paths few cr σk = evK zs paths p' d' ix q' τ4) ∧ (0 ≤ q' ∧ q' < 100) ∧ (0 ≤ p' ∧ p' < 8) ∧ (0 ≤ d' ∧ d' < 2) ∧ EvBox lim lim ⟨1, p', d', ix, []⟩ none 0 wx ∧ DrawE w0 w b a zs.length cap (.slice av k cp) G τ4 wx)
  case first =>
    cases cr with
    | true =>
      obtain ⟨⟨e0, e1, e2, e3, e4⟩, ef⟩ := cells5r HE8.out.box
      have ef1 := ef 1
      have ef2 := ef 2
      have hE9 := (HE8.out.pa 0).di 0
      have hD9 := HSETD.out _ _ 2 (.int .i64 0) (HSETD.out _ _ 1 (.int .i64 0) HD8.out)
      have hq2 : q.tdiv 2 = q / 2 := Int.tdiv_eq_ediv_of_nonneg a40
      have hwq : IntKind.i64.wrap (q / 2) = q / 2 := by rw [IntKind.wrap_i64]; omega
      go_wp2_with fail
      go_meet
      case rel => exact ⟨q / 2, 0, 0, by first | rfl | simp, by unfold Hid; rw [HEV.out]; rfl, by omega, by omega, by omega, hE9, hD9⟩
    | false =>
      have hE9 := HE8.out
      have hD9 := HD8.out
      go_wp2_with fail
      go_meet
      case rel => exact ⟨q, pp, dd, rfl, by unfold Hid; rw [HEV.out]; rfl, by omega, by omega, by omega, hE9, hD9⟩
  case rest =>
  clear HE8 HD8
  obtain ⟨q', p', d', rfl, HEQ, hq', hp', hd', hE, hD⟩ := hcut
  have HE : Hid _ := hE
  have HD : Hid _ := hD
  clear hE hD
  go_upto_if 47 with fail
  go_cut [13] from 46 to 106 (fun kv wx => ∃ (e : NEv) (da : Option Addr) (dc : Nat) (σb : Src), Hid (evFN zs paths few cr σk = (e, σb)) ∧ EvOk e ∧ EvBox lim lim e da dc wx ∧ DrawE w0 w b a zs.length cap (.slice av k cp) G σb wx)
  case first =>
    by_cases hc : q' < 45
    · have c45 : decide (q' < 45) = true := by rw [decide_eq_true_iff]; omega
      obtain ⟨⟨e0, e1, e2, e3, e4⟩, ef⟩ := cells5r HE.out.box
      have ef0 := ef 0
      have ef1 := ef 1
      have ef2 := ef 2
      have ef3 := ef 3
      have ef4 := ef 4
      simp only [List.length_nil] at e0 e1 e2 e3 e4
      clear ef
      have h5 := HNX.out wc τ4 6 HD.out.dr (by omega) (by omega)
      go_wp2_with fail
      refine h5.mono ?_
      rintro e w9 ⟨r, τ5, rfl, A5, b0, b1, hd9, hg9⟩
      have HD9 : Hid _ := HD.out.next hd9 hg9
      have HE9 : Hid _ := HE.out.next hg9 hblim
      clear h5 hd9 hg9
      obtain ⟨m9, hm9⟩ : ∃ m9 : Nat, r = (m9 : Int) := ⟨(r).toNat, by omega⟩
      have hx1 : IntKind.i64.wrap (r) = r := by rw [IntKind.wrap_i64]; omega
      rw [hm9] at hx1
      have hm91 : m9 ≤ 66 := by omega
      have HM9 : Hid _ := hm9
      have h6 := HNB.out w9 τ5 m9 HD9.out.dr (by omega)
      subst hm9
      go_wp2_with fail
      refine h6.mono ?_
      rintro e w10 ⟨ys, τ6, va, vc, rfl, A6, hyl, hyv, hyo, hd10, hg10⟩
      have HD10 : Hid _ := HD9.out.next hd10 hg10
      have HE10 : Hid _ := HE9.out.next hg10 hblim
      have hl9 : lim ≤ w9.heap.size := by have := (Array.getElem?_eq_some_iff.1 HE9.out.box).1; have := HE9.out.hE; omega
      subst hyl
      have hE11 := HE10.out.dat ys va vc (owned_base hyo hl9)
      have hD11 := HSETD.out _ _ 4 (.slice va ys.length vc) HD10.out
      obtain ⟨yl, hyl⟩ : ∃ yl, yl = ys.length := ⟨_, rfl⟩
      clear h6 hd10 hg10
      clear e0 e1 e2 e3 e4 ef0 ef1 ef2 ef3 ef4
      obtain ⟨⟨e0, e1, e2, e3, e4⟩, ef⟩ := cells5r HE10.out.box
      have ef0 := ef 0
      have ef1 := ef 1
      have ef2 := ef 2
      have ef3 := ef 3
      have ef4 := ef 4
      simp only [List.length_nil] at e0 e1 e2 e3 e4
      clear ef
      go_wp2_with fail
      go_meet
      case rel => exact ⟨⟨1, p', d', ix, ys⟩, va, vc, τ6, by unfold Hid; rw [HEQ.out]; unfold evK; rw [if_pos (by omega), A5.out]; simp only [Int.toNat_natCast]; rw [A6.out], ⟨by simp only; omega, by simp only; omega, by simp only; omega, by simp only; omega, by simp only; omega, by simp only; omega, by simp only; omega, by simp only; omega, hyv, by simp only; omega⟩, hE11, hD11⟩
    have c45 : decide (q' < 45) = false := by rw [decide_eq_false_iff_not]; omega
    have hc45 : ¬ q' < 45 := hc
    clear hc
    by_cases hc : q' < 65
    · have c65 : decide (q' < 65) = true := by rw [decide_eq_true_iff]; omega
      obtain ⟨⟨e0, e1, e2, e3, e4⟩, ef⟩ := cells5r HE.out.box
      have ef0 := ef 0
      have ef1 := ef 1
      have ef2 := ef 2
      have ef3 := ef 3
      have ef4 := ef 4
      simp only [List.length_nil] at e0 e1 e2 e3 e4
      have HE9 : Hid _ := HE
      have HD9 : Hid _ := HD
      clear ef
      go_wp2_with fail
      go_meet
      case rel => exact ⟨⟨2, p', d', ix, []⟩, none, 0, τ4, by unfold Hid; rw [HEQ.out]; unfold evK; rw [if_neg (by omega), if_pos (by omega)], ⟨by simp only; omega, by simp only; omega, by simp only; omega, by simp only; omega, by simp only; omega, by simp only; omega, by simp only; omega, by simp only; omega, by simp, by simp⟩, (HE9.out.kd 2), (HSETD.out _ _ 0 (.int .i64 2) HD9.out)⟩
    have c65 : decide (q' < 65) = false := by rw [decide_eq_false_iff_not]; omega
    have hc65 : ¬ q' < 65 := hc
    clear hc
    by_cases hc : q' < 75
    · have c75 : decide (q' < 75) = true := by rw [decide_eq_true_iff]; omega
      obtain ⟨⟨e0, e1, e2, e3, e4⟩, ef⟩ := cells5r HE.out.box
      have ef0 := ef 0
      have ef1 := ef 1
      have ef2 := ef 2
      have ef3 := ef 3
      have ef4 := ef 4
      simp only [List.length_nil] at e0 e1 e2 e3 e4
      have HE9 : Hid _ := HE
      have HD9 : Hid _ := HD
      clear ef
      go_wp2_with fail
      go_meet
      case rel => exact ⟨⟨3, p', d', ix, []⟩, none, 0, τ4, by unfold Hid; rw [HEQ.out]; unfold evK; rw [if_neg (by omega), if_neg (by omega), if_pos (by omega)], ⟨by simp only; omega, by simp only; omega, by simp only; omega, by simp only; omega, by simp only; omega, by simp only; omega, by simp only; omega, by simp only; omega, by simp, by simp⟩, (HE9.out.kd 3), (HSETD.out _ _ 0 (.int .i64 3) HD9.out)⟩
    have c75 : decide (q' < 75) = false := by rw [decide_eq_false_iff_not]; omega
    have hc75 : ¬ q' < 75 := hc
    clear hc
    by_cases hc : q' < 87
    · have c87 : decide (q' < 87) = true := by rw [decide_eq_true_iff]; omega
      obtain ⟨⟨e0, e1, e2, e3, e4⟩, ef⟩ := cells5r HE.out.box
      have ef0 := ef 0
      have ef1 := ef 1
      have ef2 := ef 2
      have ef3 := ef 3
      have ef4 := ef 4
      simp only [List.length_nil] at e0 e1 e2 e3 e4
      clear ef
      have h5 := HNX.out (wc.setCell ⟨lim, 0, none⟩ (.int .i64 4)) τ4 2 (HSETD.out _ _ 0 (.int .i64 4) HD.out).dr (by omega) (by omega)
      go_wp2_with fail
      refine h5.mono ?_
      rintro e w9 ⟨r, τ5, rfl, A5, b0, b1, hd9, hg9⟩
      have HD9 : Hid _ := (HSETD.out _ _ 0 (.int .i64 4) HD.out).next hd9 hg9
      have HE9 : Hid _ := (HE.out.kd 4).next hg9 hblim
      clear h5 hd9 hg9

      clear e0 e1 e2 e3 e4 ef0 ef1 ef2 ef3 ef4
      obtain ⟨⟨e0, e1, e2, e3, e4⟩, ef⟩ := cells5r HE9.out.box
      have ef0 := ef 0
      have ef1 := ef 1
      have ef2 := ef 2
      have ef3 := ef 3
      have ef4 := ef 4
      simp only [List.length_nil] at e0 e1 e2 e3 e4
      clear ef
      go_wp2_with fail
      go_meet
      case rel => exact ⟨⟨4, p', d', r, []⟩, none, 0, τ5, by unfold Hid; rw [HEQ.out]; unfold evK; rw [if_neg (by omega), if_neg (by omega), if_neg (by omega), if_pos (by omega), A5.out], ⟨by simp only; omega, by simp only; omega, by simp only; omega, by simp only; omega, by simp only; omega, by simp only; omega, by simp only; omega, by simp only; omega, by simp, by simp⟩, HE9.out.ix r, HSETD.out _ _ 3 (.int .i64 r) HD9.out⟩
    have c87 : decide (q' < 87) = false := by rw [decide_eq_false_iff_not]; omega
    have hc87 : ¬ q' < 87 := hc
    clear hc
    by_cases hc : q' < 90
    · have c90 : decide (q' < 90) = true := by rw [decide_eq_true_iff]; omega
      obtain ⟨⟨e0, e1, e2, e3, e4⟩, ef⟩ := cells5r HE.out.box
      have ef0 := ef 0
      have ef1 := ef 1
      have ef2 := ef 2
      have ef3 := ef 3
      have ef4 := ef 4
      simp only [List.length_nil] at e0 e1 e2 e3 e4
      clear ef
      have h5 := HNX.out (wc.setCell ⟨lim, 0, none⟩ (.int .i64 5)) τ4 5 (HSETD.out _ _ 0 (.int .i64 5) HD.out).dr (by omega) (by omega)
      go_wp2_with fail
      refine h5.mono ?_
      rintro e w9 ⟨r, τ5, rfl, A5, b0, b1, hd9, hg9⟩
      have HD9 : Hid _ := (HSETD.out _ _ 0 (.int .i64 5) HD.out).next hd9 hg9
      have HE9 : Hid _ := (HE.out.kd 5).next hg9 hblim
      clear h5 hd9 hg9

      clear e0 e1 e2 e3 e4 ef0 ef1 ef2 ef3 ef4
      obtain ⟨⟨e0, e1, e2, e3, e4⟩, ef⟩ := cells5r HE9.out.box
      have ef0 := ef 0
      have ef1 := ef 1
      have ef2 := ef 2
      have ef3 := ef 3
      have ef4 := ef 4
      simp only [List.length_nil] at e0 e1 e2 e3 e4
      clear ef
      go_wp2_with fail
      go_meet
      case rel => exact ⟨⟨5, p', r, ix, []⟩, none, 0, τ5, by unfold Hid; rw [HEQ.out]; unfold evK; rw [if_neg (by omega), if_neg (by omega), if_neg (by omega), if_neg (by omega), if_pos (by omega), A5.out], ⟨by simp only; omega, by simp only; omega, by simp only; omega, by simp only; omega, by simp only; omega, by simp only; omega, by simp only; omega, by simp only; omega, by simp, by simp⟩, HE9.out.di r, HSETD.out _ _ 2 (.int .i64 r) HD9.out⟩
    have c90 : decide (q' < 90) = false := by rw [decide_eq_false_iff_not]; omega
    have hc90 : ¬ q' < 90 := hc
    clear hc
    by_cases hc : q' < 94
    · have c94 : decide (q' < 94) = true := by rw [decide_eq_true_iff]; omega
      obtain ⟨⟨e0, e1, e2, e3, e4⟩, ef⟩ := cells5r HE.out.box
      have ef0 := ef 0
      have ef1 := ef 1
      have ef2 := ef 2
      have ef3 := ef 3
      have ef4 := ef 4
      simp only [List.length_nil] at e0 e1 e2 e3 e4
      have HE9 : Hid _ := HE
      have HD9 : Hid _ := HD
      clear ef
      go_wp2_with fail
      go_meet
      case rel => exact ⟨⟨6, p', d', ix, []⟩, none, 0, τ4, by unfold Hid; rw [HEQ.out]; unfold evK; rw [if_neg (by omega), if_neg (by omega), if_neg (by omega), if_neg (by omega), if_neg (by omega), if_pos (by omega)], ⟨by simp only; omega, by simp only; omega, by simp only; omega, by simp only; omega, by simp only; omega, by simp only; omega, by simp only; omega, by simp only; omega, by simp, by simp⟩, (HE9.out.kd 6), (HSETD.out _ _ 0 (.int .i64 6) HD9.out)⟩
    have c94 : decide (q' < 94) = false := by rw [decide_eq_false_iff_not]; omega
    have hc94 : ¬ q' < 94 := hc
    clear hc
    by_cases hc : q' = 94
    · have c94 : (q' == 94) = true := by simpa using hc
      obtain ⟨⟨e0, e1, e2, e3, e4⟩, ef⟩ := cells5r HE.out.box
      have ef0 := ef 0
      have ef1 := ef 1
      have ef2 := ef 2
      have ef3 := ef 3
      have ef4 := ef 4
      simp only [List.length_nil] at e0 e1 e2 e3 e4
      clear ef
      have h5 := HNX.out wc τ4 2 HD.out.dr (by omega) (by omega)
      go_wp2_with fail
      refine h5.mono ?_
      rintro e w9 ⟨r, τ5, rfl, A5, b0, b1, hd9, hg9⟩
      have HD9 : Hid _ := HD.out.next hd9 hg9
      have HE9 : Hid _ := HE.out.next hg9 hblim
      clear h5 hd9 hg9
      have hx1 : IntKind.i64.wrap (7 * r) = 7 * r := by rw [IntKind.wrap_i64]; omega
      clear e0 e1 e2 e3 e4 ef0 ef1 ef2 ef3 ef4
      obtain ⟨⟨e0, e1, e2, e3, e4⟩, ef⟩ := cells5r HE9.out.box
      have ef0 := ef 0
      have ef1 := ef 1
      have ef2 := ef 2
      have ef3 := ef 3
      have ef4 := ef 4
      simp only [List.length_nil] at e0 e1 e2 e3 e4
      clear ef
      go_wp2_with fail
      go_meet
      case rel => exact ⟨⟨7 * r, p', d', ix, []⟩, none, 0, τ5, by unfold Hid; rw [HEQ.out]; unfold evK; rw [if_neg (by omega), if_neg (by omega), if_neg (by omega), if_neg (by omega), if_neg (by omega), if_neg (by omega), if_pos (by omega), A5.out], ⟨by simp only; omega, by simp only; omega, by simp only; omega, by simp only; omega, by simp only; omega, by simp only; omega, by simp only; omega, by simp only; omega, by simp, by simp⟩, HE9.out.kd (7 * r), HSETD.out _ _ 0 (.int .i64 (7 * r)) HD9.out⟩
    have c94 : (q' == 94) = false := by simp; omega
    have hc94 : ¬ q' = 94 := hc
    clear hc
    by_cases hc : q' = 95
    · have c95 : (q' == 95) = true := by simpa using hc
      obtain ⟨⟨e0, e1, e2, e3, e4⟩, ef⟩ := cells5r HE.out.box
      have ef0 := ef 0
      have ef1 := ef 1
      have ef2 := ef 2
      have ef3 := ef 3
      have ef4 := ef 4
      simp only [List.length_nil] at e0 e1 e2 e3 e4
      clear ef
      have hx00 : IntKind.i64.wrap (paths + 1) = paths + 1 := by rw [IntKind.wrap_i64]; omega
      have h5 := HNX.out wc τ4 2 HD.out.dr (by omega) (by omega)
      go_wp2_with fail
      refine h5.mono ?_
      rintro e w9 ⟨r, τ5, rfl, A5, b0, b1, hd9, hg9⟩
      have HD9 : Hid _ := HD.out.next hd9 hg9
      have HE9 : Hid _ := HE.out.next hg9 hblim
      clear h5 hd9 hg9
      have hx0 : IntKind.i64.wrap (paths + 1) = paths + 1 := by rw [IntKind.wrap_i64]; omega
      have hr2 : r = 0 ∨ r = 1 := by omega
      have hpr : -1 ≤ paths - (paths + 1) * r ∧ paths - (paths + 1) * r ≤ 8 := by rcases hr2 with rfl | rfl <;> omega
      have hpr2 : 0 ≤ (paths + 1) * r ∧ (paths + 1) * r ≤ 9 := by rcases hr2 with rfl | rfl <;> omega
      have hx1 : IntKind.i64.wrap ((paths + 1) * r) = (paths + 1) * r := by rw [IntKind.wrap_i64]; omega
      have hx2 : IntKind.i64.wrap (paths - (paths + 1) * r) = paths - (paths + 1) * r := by rw [IntKind.wrap_i64]; omega
      clear hr2
      clear e0 e1 e2 e3 e4 ef0 ef1 ef2 ef3 ef4
      obtain ⟨⟨e0, e1, e2, e3, e4⟩, ef⟩ := cells5r HE9.out.box
      have ef0 := ef 0
      have ef1 := ef 1
      have ef2 := ef 2
      have ef3 := ef 3
      have ef4 := ef 4
      simp only [List.length_nil] at e0 e1 e2 e3 e4
      clear ef
      go_wp2_with fail
      go_meet
      case rel => exact ⟨⟨1, paths - (paths + 1) * r, d', ix, []⟩, none, 0, τ5, by unfold Hid; rw [HEQ.out]; unfold evK; rw [if_neg (by omega), if_neg (by omega), if_neg (by omega), if_neg (by omega), if_neg (by omega), if_neg (by omega), if_neg (by omega), if_pos (by omega), A5.out], ⟨by simp only; omega, by simp only; omega, by simp only; omega, by simp only; omega, by simp only; omega, by simp only; omega, by simp only; omega, by simp only; omega, by simp, by simp⟩, HE9.out.pa (paths - (paths + 1) * r), HSETD.out _ _ 1 (.int .i64 (paths - (paths + 1) * r)) HD9.out⟩
    have c95 : (q' == 95) = false := by simp; omega
    have hc95 : ¬ q' = 95 := hc
    clear hc
    by_cases hc : q' = 96
    · have c96 : (q' == 96) = true := by simpa using hc
      obtain ⟨⟨e0, e1, e2, e3, e4⟩, ef⟩ := cells5r HE.out.box
      have ef0 := ef 0
      have ef1 := ef 1
      have ef2 := ef 2
      have ef3 := ef 3
      have ef4 := ef 4
      simp only [List.length_nil] at e0 e1 e2 e3 e4
      clear ef
      have h5 := HNX.out wc τ4 2 HD.out.dr (by omega) (by omega)
      go_wp2_with fail
      refine h5.mono ?_
      rintro e w9 ⟨r, τ5, rfl, A5, b0, b1, hd9, hg9⟩
      have HD9 : Hid _ := HD.out.next hd9 hg9
      have HE9 : Hid _ := HE.out.next hg9 hblim
      clear h5 hd9 hg9
      have hx1 : IntKind.i64.wrap (3 * r) = 3 * r := by rw [IntKind.wrap_i64]; omega
      have hx2 : IntKind.i64.wrap (3 * r - 1) = 3 * r - 1 := by rw [IntKind.wrap_i64]; omega
      clear e0 e1 e2 e3 e4 ef0 ef1 ef2 ef3 ef4
      obtain ⟨⟨e0, e1, e2, e3, e4⟩, ef⟩ := cells5r HE9.out.box
      have ef0 := ef 0
      have ef1 := ef 1
      have ef2 := ef 2
      have ef3 := ef 3
      have ef4 := ef 4
      simp only [List.length_nil] at e0 e1 e2 e3 e4
      clear ef
      go_wp2_with fail
      go_meet
      case rel => exact ⟨⟨1, p', 3 * r - 1, ix, []⟩, none, 0, τ5, by unfold Hid; rw [HEQ.out]; unfold evK; rw [if_neg (by omega), if_neg (by omega), if_neg (by omega), if_neg (by omega), if_neg (by omega), if_neg (by omega), if_neg (by omega), if_neg (by omega), if_pos (by omega), A5.out], ⟨by simp only; omega, by simp only; omega, by simp only; omega, by simp only; omega, by simp only; omega, by simp only; omega, by simp only; omega, by simp only; omega, by simp, by simp⟩, HE9.out.di (3 * r - 1), HSETD.out _ _ 2 (.int .i64 (3 * r - 1)) HD9.out⟩
    have c96 : (q' == 96) = false := by simp; omega
    have hc96 : ¬ q' = 96 := hc
    clear hc
    by_cases hc : q' = 97
    · have c97 : (q' == 97) = true := by simpa using hc
      obtain ⟨⟨e0, e1, e2, e3, e4⟩, ef⟩ := cells5r HE.out.box
      have ef0 := ef 0
      have ef1 := ef 1
      have ef2 := ef 2
      have ef3 := ef 3
      have ef4 := ef 4
      simp only [List.length_nil] at e0 e1 e2 e3 e4
      have HE9 : Hid _ := HE
      have HD9 : Hid _ := HD
      clear ef
      go_wp2_with fail
      go_meet
      case rel => exact ⟨⟨2, p', d', -1, []⟩, none, 0, τ4, by unfold Hid; rw [HEQ.out]; unfold evK; rw [if_neg (by omega), if_neg (by omega), if_neg (by omega), if_neg (by omega), if_neg (by omega), if_neg (by omega), if_neg (by omega), if_neg (by omega), if_neg (by omega), if_pos (by omega)], ⟨by simp only; omega, by simp only; omega, by simp only; omega, by simp only; omega, by simp only; omega, by simp only; omega, by simp only; omega, by simp only; omega, by simp, by simp⟩, ((HE9.out.kd 2).ix (-1)), (HSETD.out _ _ 3 (.int .i64 (-1)) (HSETD.out _ _ 0 (.int .i64 2) HD9.out))⟩
    have c97 : (q' == 97) = false := by simp; omega
    have hc97 : ¬ q' = 97 := hc
    clear hc
    obtain ⟨⟨e0, e1, e2, e3, e4⟩, ef⟩ := cells5r HE.out.box
    have ef0 := ef 0
    have ef1 := ef 1
    have ef2 := ef 2
    have ef3 := ef 3
    have ef4 := ef 4
    simp only [List.length_nil] at e0 e1 e2 e3 e4
    clear ef
    have h5 := HNX.out wc τ4 3 HD.out.dr (by omega) (by omega)
    go_wp2_with fail
    refine h5.mono ?_
    rintro e w9 ⟨r, τ5, rfl, A5, b0, b1, hd9, hg9⟩
    have HD9 : Hid _ := HD.out.next hd9 hg9
    have HE9 : Hid _ := HE.out.next hg9 hblim
    clear h5 hd9 hg9
    obtain ⟨m9, hm9⟩ : ∃ m9 : Nat, 63 + r = (m9 : Int) := ⟨(63 + r).toNat, by omega⟩
    have hx1 : IntKind.i64.wrap (63 + r) = 63 + r := by rw [IntKind.wrap_i64]; omega
    rw [hm9] at hx1
    have hm91 : m9 ≤ 66 := by omega
    have HM9 : Hid _ := hm9
    have h6 := HNB.out w9 τ5 m9 HD9.out.dr (by omega)

    go_wp2_with fail
    refine h6.mono ?_
    rintro e w10 ⟨ys, τ6, va, vc, rfl, A6, hyl, hyv, hyo, hd10, hg10⟩
    have HD10 : Hid _ := HD9.out.next hd10 hg10
    have HE10 : Hid _ := HE9.out.next hg10 hblim
    have hl9 : lim ≤ w9.heap.size := by have := (Array.getElem?_eq_some_iff.1 HE9.out.box).1; have := HE9.out.hE; omega
    subst hyl
    have hE11 := HE10.out.dat ys va vc (owned_base hyo hl9)
    have hD11 := HSETD.out _ _ 4 (.slice va ys.length vc) HD10.out
    obtain ⟨yl, hyl⟩ : ∃ yl, yl = ys.length := ⟨_, rfl⟩
    clear h6 hd10 hg10
    clear e0 e1 e2 e3 e4 ef0 ef1 ef2 ef3 ef4
    obtain ⟨⟨e0, e1, e2, e3, e4⟩, ef⟩ := cells5r HE10.out.box
    have ef0 := ef 0
    have ef1 := ef 1
    have ef2 := ef 2
    have ef3 := ef 3
    have ef4 := ef 4
    simp only [List.length_nil] at e0 e1 e2 e3 e4
    clear ef
    go_wp2_with fail
    go_meet
    case rel => exact ⟨⟨1, p', d', ix, ys⟩, va, vc, τ6, by unfold Hid; rw [HEQ.out]; unfold evK; rw [if_neg (by omega), if_neg (by omega), if_neg (by omega), if_neg (by omega), if_neg (by omega), if_neg (by omega), if_neg (by omega), if_neg (by omega), if_neg (by omega), if_neg (by omega), A5.out]; simp only; rw [HM9.out]; simp only [Int.toNat_natCast]; rw [A6.out], ⟨by simp only; omega, by simp only; omega, by simp only; omega, by simp only; omega, by simp only; omega, by simp only; omega, by simp only; omega, by simp only; omega, hyv, by simp only; omega⟩, hE11, hD11⟩
  case rest =>
  clear HE HD
  obtain ⟨e, da, dc, σb, HEF, hok, hE, hD⟩ := hcut
  have hlt9 : ∀ q ∈ G, ∀ j, (evP q).ownBlock = some j → j < lim := HLT.out.2.1
  have hlw := HLT.out.2.2
  have hrowE := hD.ev.row
  rw [HGK.out] at hrowE
  obtain ⟨⟨kd, pa, di, iy, dat⟩, hee⟩ : ∃ e', e' = e := ⟨_, rfl⟩
  subst hee
  have hbox := hE.box
  simp only at hbox
  obtain ⟨dl, hdl⟩ : ∃ dl, dat.length = dl := ⟨_, rfl⟩
  rw [hdl] at hbox
  obtain ⟨⟨e0, e1, e2, e3, e4⟩, _⟩ := cells5r hbox
  have HDL : Hid _ := hdl
  have HE : Hid _ := hE
  have HD : Hid _ := hD
  have HOK2 : Hid _ := hok
  have hszc := hD.size
  clear hdl hE hD hok
  go_wp2_with (at_builtin; refine wpList_appE _ (by rfl) _ _ (by rfl) w.heap.size av k cp (flatE G) (by rfl) (own_alloc hrowE _) wc.heap.size _ _ _ _ _ (by rfl) (heap_alloc_new wc _) (by simp [Value.oneCell']) (by omega) (by simp; omega) ?_; intro g9 cap9 w4 ho4 hg4)
  have hDa := HD.out.alloc (.cells #[.int .i64 kd, .int .i64 pa, .int .i64 di, .int .i64 iy, .slice da dl dc] 35)
  have hpush := EvsN.push (p := (⟨kd, pa, di, iy, dat⟩, da, dc)) hDa.ev hlw (own_alloc HE.out.row _) hlt9 (by exact hg4) (by rw [HGK.out]; simp only [evP]; rw [HDL.out]; exact ho4)
  rw [HGK.out] at hpush
  have hD4 : DrawE w0 w b a zs.length cap (.slice (some ⟨g9, 0, none⟩) (k + 1) cap9) (G ++ [(⟨kd, pa, di, iy, dat⟩, da, dc)]) σb w4 := by
    refine ⟨hDa.dr.grown hg4 (fun j hj => ?_), hpush, grown_past hDa.gr hg4 (fun j hj => (hrowE.lt j hj).1), HD.out.hb⟩
    have h1 := (hrowE.lt j hj).1
    have h2 := HD.out.hb
    have h3 := HD.out.dr.new
    omega
  have HD4 : Hid _ := hD4
  have HEV1 : Hid (evsFN zs paths few cr σ3 (k + 1) = ((G ++ [((⟨kd, pa, di, iy, dat⟩ : NEv), da, dc)]).map (·.1), σb)) := by
    unfold Hid
    rw [evsFN, HEVS.out, List.map_append]
    simp only
    rw [HEF.out]
    rfl
  go_wp2_with fail
  go_roundw
  case rel => exact ⟨k + 1, some ⟨g9, 0, none⟩, cap9, G ++ [((⟨kd, pa, di, iy, dat⟩ : NEv), da, dc)], σb, by omega, by go_num, rfl, by unfold Hid; rw [List.length_append, HGK.out]; rfl, HEV1, by
    unfold Hid
    intro p hp
    rcases List.mem_append.1 hp with hp | hp
    · exact HOK.out p hp
    · simp at hp; subst hp; exact HOK2.out, HD4⟩
  case measure => simp [intOf]; omega
end Go.Proofs.Ytkamdaadgndmbaa
