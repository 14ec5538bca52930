import Derived.Test.YtkamdaadgndmbaaNLaw8
import Derived.Test.YtkamdaadgndmbaaNFl10
namespace Go.Proofs.Ytkamdaadgndmbaa
open Go.ChangeShapes Go.WideShapes Go.ChangeAt Go.RowKit
set_option linter.unusedVariables false

/-- What both NetFlights give, all cases in one. -/
def FliesR (f : Nat) (x : Int) (es : List NEv) (code : Int) (os : List (Int × Int × Int × List (List Int))) : Prop := ∀ (a : Option Addr) (cap n : Nat) (w : World) (G : Evs), G.length = n → G.map (·.1) = es → EvLie w w.heap.size a G →
  Calls Try.prog f #[.int .i64 x, .slice a n cap] w fun e w' => ∃ av cp Go, e = .returned (.tuple #[.slice av os.length cp, .int .i64 code]) ∧ OutsF w' w.heap.size (.slice av os.length cp) Go ∧ Go.map FB.told = os ∧ Below w.heap.size w w'
theorem outsF_nil (w : World) (base : Nat) : OutsF w base (.slice none 0 0) [] := ⟨World.ownsRow_nil _ _ _ _, ⟨by simp [bgs], by simp [bgs], by simp [bgs], by simp [bgs]⟩⟩
theorem bothFlightR (x : Int) (es : List NEv) (hok : ∀ e ∈ es, EvOk e) : ∃ code os, os.length ≤ 16 ∧ (∀ o ∈ os, o.2.2.2.length ≤ 64 ∧ ∀ y ∈ o.2.2.2, y.length ≤ 64) ∧ FliesR 8 x es code os ∧ FliesR 18 x es code os := by
  by_cases hc : OkN x
  · obtain ⟨m, rfl⟩ : ∃ m : Nat, x = m := ⟨x.toNat, by have := hc.1; omega⟩
    have hm8 : m ≤ 8 := by have := hc.2; omega
    by_cases hl : es.length ≤ 4000
    · have hinv := (invN_all m es (fun e he => (hok e he).dv) startN invN_start).1
      have hlen : (toldU (stateN m es) (2 * m)).length = 2 * m := by simp [toldU]
      refine ⟨0, toldU (stateN m es) (2 * m), by omega, fun o ho => ?_, fun a cap n w G hn hG hz => ?_, fun a cap n w G hn hG hz => ?_⟩
      · obtain ⟨j, _, rfl⟩ := List.mem_map.1 ho
        exact ⟨hinv.len _ _, fun y hy => (hinv.dat _ _ y hy).1⟩
      · have hnl : n = es.length := by rw [← hn, ← hG, List.length_map]
        refine (implFlight_any m hc a G n cap w hn hz (evs_ok hok hG)).mono ?_
        rintro e w' ⟨hb, ⟨hh, _⟩ | ⟨_, av, cp, rfl, F, hF, hO, hT⟩⟩
        · omega
        rw [hG] at hT
        rw [hlen]
        exact ⟨av, cp, F, rfl, hO, hT, hb⟩
      · have hnl : n = es.length := by rw [← hn, ← hG, List.length_map]
        refine (specFlight_ok m hc a G n cap w hn (by omega) hz (evs_ok hok hG)).mono ?_
        rintro e w' ⟨hb, av, cp, rfl, F, hF, hO, hT⟩
        rw [hG] at hT
        rw [hlen]
        exact ⟨av, cp, F, rfl, hO, hT, hb⟩
    · refine ⟨5, [], by simp, by simp, fun a cap n w G hn hG hz => ?_, fun a cap n w G hn hG hz => ?_⟩
      · have hnl : n = es.length := by rw [← hn, ← hG, List.length_map]
        refine (implFlight_any m hc a G n cap w hn hz (evs_ok hok hG)).mono ?_
        rintro e w' ⟨hb, ⟨_, rfl⟩ | ⟨hh, _⟩⟩
        · exact ⟨none, 0, [], rfl, outsF_nil _ _, rfl, hb⟩
        · omega
      · have hnl : n = es.length := by rw [← hn, ← hG, List.length_map]
        refine (specFlight_limit m hc a n cap w (by omega)).mono ?_
        rintro e w' ⟨rfl, hb⟩
        exact ⟨none, 0, [], rfl, outsF_nil _ _, rfl, hb⟩
  · refine ⟨6, [], by simp, by simp, fun a cap n w G hn hG hz => ?_, fun a cap n w G hn hG hz => ?_⟩
    · refine (implFlight_bad x hc a n cap w).mono ?_
      rintro e w' ⟨rfl, hb⟩
      exact ⟨none, 0, [], rfl, outsF_nil _ _, rfl, hb⟩
    · refine (specFlight_bad x hc a n cap w).mono ?_
      rintro e w' ⟨rfl, hb⟩
      exact ⟨none, 0, [], rfl, outsF_nil _ _, rfl, hb⟩
set_option maxHeartbeats 2000000 in
set_option maxRecDepth 100000 in
theorem lawFlightN (x : Int) (a : Option Addr) (es : Evs) (n cap : Nat) (w : World) (hn : es.length = n) (hok : ∀ p ∈ es, p.1.dat.length ≤ 1048576 → EvOk p.1) (hz : EvIn w a es) (hm : n ≤ 9223372036854775807) (hmd : ∀ p ∈ es, p.1.dat.length ≤ 9223372036854775807) :
    Calls Try.prog 5 #[.int .i64 x, .slice a n cap] w fun e w' => e = .returned (.bool true) ∧ Below w.heap.size w w' := by
  by_cases hl : n + sumD es ≤ 1048576
  · have hd8 : ∀ p ∈ es, p.1.dat.length ≤ 1048576 := fun p hp => by have := sumD_mem hp; omega
    have hokE : ∀ e ∈ es.map (·.1), EvOk e := by
      intro e he
      obtain ⟨p, hp, rfl⟩ := List.mem_map.1 he
      exact hok p hp (hd8 p hp)
    obtain ⟨code, os, hT, hsm, himpl, hspec⟩ := bothFlightR x (es.map (·.1)) hokE
    have HI : Hid _ := himpl
    have HS : Hid _ := hspec
    have HSM : Hid _ := hsm
    obtain ⟨N, hN⟩ : ∃ N, Hid (N = os.length) := ⟨_, rfl⟩
    have hN5 : N ≤ 16 := by rw [hN.out]; exact hT
    have hN6 : N ≤ 1048576 := by omega
    have HL : Hid (∀ G : List FB, G.map FB.told = os → G.length = N ∧ SmallF G ∧ ∀ p ∈ G, p.g.length ≤ 1048576 ∧ ∀ q ∈ p.g, q.1.length ≤ 1048576) := by
      unfold Hid
      intro G hG
      have hlN : G.length = N := by rw [hN.out, ← hG, List.length_map]
      have h4 : ∀ b ∈ G, b.g.length ≤ 64 ∧ ∀ q ∈ b.g, q.1.length ≤ 64 := fun b hb => by
        have h5 := HSM.out b.told (by rw [← hG]; exact List.mem_map.2 ⟨b, hb, rfl⟩)
        simp only [FB.told, List.length_map] at h5
        exact ⟨h5.1, fun q hq => h5.2 q.1 (List.mem_map.2 ⟨q, hq, rfl⟩)⟩
      exact ⟨hlN, ⟨by rw [hlN]; exact hN5, h4⟩, fun p hp => ⟨by have := (h4 p hp).1; omega, fun q hq => by have := (h4 p hp).2 q hq; omega⟩⟩
    have HEL : Hid (∀ G : Evs, G.map (·.1) = es.map (·.1) → G.length = n) := by
      unfold Hid
      intro G hG
      have := congrArg List.length hG
      simp only [List.length_map] at this
      omega
    have HSUM : Hid (∀ G : Evs, G.map (·.1) = es.map (·.1) → sumD G = sumD es) := by
      unfold Hid
      intro G hG
      have e1 : ∀ H : Evs, sumD H = ((H.map (·.1)).map fun e => e.dat.length).sum := fun H => by unfold sumD; rw [List.map_map]; rfl
      rw [e1, e1, hG]
    have hnn : n ≤ 1048576 := by omega
    clear himpl hspec hT hsm hokE
    have hsz := szNetEventS_any a es n cap w hn hm hmd hz _ (.inl ⟨hl, rfl⟩)
    obtain ⟨left, hleft⟩ : ∃ left, Hid (left = 1048576 - (n : Int) - (sumD es : Int)) := ⟨_, rfl⟩
    rw [← hleft.out] at hsz
    have hl0 : 0 ≤ left := by rw [hleft.out]; omega
    go_enter Try.func5, Try.ntmps5
    go_wp2_with fail
    refine hsz.mono ?_
    rintro e w2 ⟨rfl, hB2⟩
    clear hsz
    have t1 := hB2.size
    go_wp2_with fail
    refine (toNetEventS_any a es n cap w2 hn (hz.moved hB2) hnn hd8).mono ?_
    rintro e w3 ⟨G3, rfl, ho3, hG3, hb3⟩
    have hB3 := hB2.trans (hb3.mono hB2.size)
    have t3 := hB3.size
    have hsp := HS.out _ n n w3 G3 (HEL.out _ hG3) hG3 (ho3.lie (HEL.out _ hG3))
    rw [← hN.out] at hsp
    go_wp2_with fail
    refine hsp.mono ?_
    rintro e w4 ⟨av0, cp0, G0, rfl, hr0, hG0, hb4⟩
    have hB4 := hB3.trans (hb4.mono hB3.size)
    have t4 := hB4.size
    have D4 : Below w4.heap.size w4 w4 := Below.refl _ _
    clear hb3 hb4 ho3 hsp HS hB3 hB2
    go_wp2_with fail
    refine (toNetEventS_any a es n cap w4 hn (hz.moved hB4) hnn hd8).mono ?_
    rintro e w5 ⟨G5, rfl, ho5, hG5, hb5⟩
    have hB5 := hB4.trans (hb5.mono hB4.size)
    have D5 := D4.trans (hb5.mono D4.size)
    have s5 := hb5.size
    have HR5 : Hid (∀ k, (Value.slice (some ⟨w4.heap.size, 0, none⟩) n n).ownBlock = some k → k < w5.heap.size) := fun k hk => by have := (ho5.row.lt k hk).2; exact this
    have HD5 : Hid (∀ p ∈ G5, ∀ k, (evP p).ownBlock = some k → k < w5.heap.size) := fun p hp k hk => ((ho5.dat p hp).lt k hk).2
    clear hb5 hB4
    have him := HI.out _ n n w5 G5 (HEL.out _ hG5) hG5 (ho5.lie (HEL.out _ hG5))
    rw [← hN.out] at him
    go_wp2_with fail
    refine him.mono ?_
    rintro e w7 ⟨av1, cp1, G1, rfl, hr1, hG1, hb7⟩
    have hB7 := hB5.trans (hb7.mono hB5.size)
    have D7 := D5.trans (hb7.mono D5.size)
    have ho5 := ho5.below hb7
    have s7 := hb7.size
    clear him hb7 hB5
    obtain ⟨l1, sm1, dm1⟩ := HL.out _ hG1
    have HL1 : Hid (G1.length = N) := l1
    have HGG : Hid (G1.map FB.told = G0.map FB.told) := by unfold Hid; rw [hG1, hG0]
    have HG0 : Hid (G0.map FB.told = os) := hG0
    have HG5 : Hid _ := hG5
    clear hG0 hG1 l1 hG3 hG5
    have heq1 := eqBagS_same G1 G0 _ _ av1 av0 N cp1 cp0 w7 HL1.out HGG.out hr1 (hr0.keep fun k _ hk => D7.block k hk) hN6 dm1
    go_wp2_with fail
    refine heq1.mono ?_
    rintro e w8 ⟨rfl, hb8⟩
    have hB8 := hB7.trans (hb8.mono hB7.size)
    have D8 := D7.trans (hb8.mono D7.size)
    have hr1 := hr1.keep (w' := w8) fun k _ hk => hb8.block k hk
    have ho5 := ho5.below hb8
    have s8 := hb8.size
    clear hb8 hB7 heq1
    go_wp2_with fail
    refine (toNetEventS_any a es n cap w8 hn (hz.moved hB8) hnn hd8).mono ?_
    rintro e w9 ⟨G9, rfl, ho9, hG9, hb9⟩
    have hB9 := hB8.trans (hb9.mono hB8.size)
    have D9 := D8.trans (hb9.mono D8.size)
    have hr1 := hr1.keep (w' := w9) fun k _ hk => hb9.block k hk
    have ho5 := ho5.below hb9
    have s9 := hb9.size
    clear hb9 hB8
    have heq2 := eqNetEventS_same G5 G9 _ _ n n n w9 (HEL.out _ HG5.out) (by rw [HG5.out, hG9]) (ho5.lie (HEL.out _ HG5.out)).in_ (ho9.lie (HEL.out _ hG9)).in_ hnn (fun p hp => by have h1 := sumD_mem hp; rw [HSUM.out _ HG5.out] at h1; omega)
    go_wp2_with fail
    refine heq2.mono ?_
    rintro e w10 ⟨rfl, hb10⟩
    have hB10 := hB9.trans (hb10.mono hB9.size)
    have D10 := D9.trans (hb10.mono D9.size)
    have hr1 := hr1.keep (w' := w10) fun k _ hk => hb10.block k hk
    have ho5 := ho5.below hb10
    have s10 := hb10.size
    clear hb10 hB9 ho9 heq2 hG9
    have hmk := markNetEventS_any G5 w4.heap.size w5.heap.size _ n n w10 (HEL.out _ HG5.out) ho5 (by rw [HSUM.out _ HG5.out]; exact hl) HR5.out HD5.out
    go_wp2_with fail
    refine hmk.mono ?_
    rintro e w11 ⟨k9, hk9, rfl, hon⟩
    have hr1 := hr1.keep (w' := w11) fun k h1 h2 => hon.block k h2 (.inr h1)
    have D11 := hon.below D10 (Nat.le_refl _) D10.size
    have hB11 := hon.below hB10 (by omega) hB10.size
    have s11 := hon.size
    have d9 : decide (k9 < 0) = false := by rw [decide_eq_false_iff_not]; omega
    clear hon hB10 ho5 D10 D9 D8 D7 D5 D4 hmk
    have heq3 := eqBagS_same G1 G0 _ _ av1 av0 N cp1 cp0 w11 HL1.out HGG.out hr1 (hr0.keep fun k _ hk => D11.block k hk) hN6 dm1
    go_wp2_with fail
    refine heq3.mono ?_
    rintro e w12 ⟨rfl, hb12⟩
    have hB12 := hB11.trans (hb12.mono hB11.size)
    have D12 := D11.trans (hb12.mono D11.size)
    have hr1 := hr1.keep (w' := w12) fun k _ hk => hb12.block k hk
    have s12 := hb12.size
    clear hb12 hB11 D11 heq3
    have hmo := markBagS_any G1 _ av1 N cp1 w12 HL1.out hr1 sm1
    have hbd : lenF G1 ≤ 65584 := by have := sm1.sum G1.length; rw [List.take_length] at this; exact this
    obtain ⟨q, hq⟩ : ∃ q : Int, Hid (q = 1 + (lenF G1 : Nat)) := ⟨_, rfl⟩
    have hqb : 1 ≤ q ∧ q ≤ 65585 := by rw [hq.out]; omega
    rw [← hq.out] at hmo
    go_wp2_with fail
    refine hmo.mono ?_
    rintro e w13 ⟨rfl, hr13, hb13⟩
    have hB13 := hB12.trans (hb13.mono (by omega))
    have D13 := D12.trans (hb13.mono (by omega))
    have s13 := hb13.size
    have hhe := heldBagS_any G1 _ av1 N cp1 w13 HL1.out hr13 sm1
    rw [← hq.out] at hhe
    clear hb13 hB12 hr1 D12 hr13 sm1 hmo
    go_wp2_with fail
    refine hhe.mono ?_
    rintro e w14 ⟨rfl, rfl⟩
    clear hhe
    go_wp2_with fail
    refine (toNetEventS_any a es n cap w14 hn (hz.moved hB13) hnn hd8).mono ?_
    rintro e w16 ⟨G16, rfl, ho16, hG16, hb16⟩
    have hB16 := hB13.trans (hb16.mono hB13.size)
    have D16 := D13.trans (hb16.mono D13.size)
    clear hb16 hB13 D13
    have him := HI.out _ n n w16 G16 (HEL.out _ hG16) hG16 (ho16.lie (HEL.out _ hG16))
    rw [← hN.out] at him
    go_wp2_with fail
    refine him.mono ?_
    rintro e w17 ⟨av2, cp2, G2, rfl, hr2, hG2, hb17⟩
    have hB17 := hB16.trans (hb17.mono hB16.size)
    have D17 := D16.trans (hb17.mono D16.size)
    obtain ⟨l2, _, dm2⟩ := HL.out _ hG2
    have HL2 : Hid (G2.length = N) := l2
    have HGG2 : Hid (G2.map FB.told = G0.map FB.told) := by unfold Hid; rw [hG2, HG0.out]
    clear him hb17 hB16 ho16 HI hG2 D16 l2 hG16
    have heq4 := eqBagS_same G2 G0 _ _ av2 av0 N cp2 cp0 w17 HL2.out HGG2.out hr2 (hr0.keep fun k _ hk => D17.block k hk) hN6 dm2
    go_wp2_with fail
    refine heq4.mono ?_
    rintro e w18 ⟨rfl, hb18⟩
    have hBz := hB17.trans (hb18.mono hB17.size)
    clear hb18 hB17 D17 hr2 hr0 heq4
    go_wp2_with fail
    go_ret
    exact ⟨rfl, hBz⟩
  · have hsz := szNetEventS_any a es n cap w hn hm hmd hz (-1) (.inr ⟨by omega, rfl⟩)
    clear hz
    go_enter Try.func5, Try.ntmps5
    go_wp2_with fail
    refine hsz.mono ?_
    rintro e w1 ⟨rfl, hb1⟩
    go_wp2_with fail
    go_ret
    exact ⟨rfl, hb1⟩
end Go.Proofs.Ytkamdaadgndmbaa
