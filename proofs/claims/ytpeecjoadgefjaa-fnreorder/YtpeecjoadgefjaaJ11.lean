import Derived.Test.YtpeecjoadgefjaaJ10
import Derived.Test.YtpeecjoadgefjaaJ9
import Derived.Test.YtpeecjoadgefjaaSpanBase
import Derived.Deep.RegionWith
import Derived.LoopTactic
namespace Go.Proofs.Ytpeecjoadgefjaa
open Go.ChangeShapes Go.WideShapes Go.ChangeAt Go.RowKit
set_option linter.unusedVariables false

theorem stepR_small (z : Nat) (s : RB) (e : REv) : (stepR z s e).1.dat.length ≤ z := by
  unfold stepR
  split
  · rw [putR_dat]; simp
  · split
    · unfold takeR
      split
      · simp
      · simp only [bytesAt_length]
        unfold takeN
        have := runLen_le s.f z s.read
        omega
    · split
      · rw [(endR_dat z s e.off).1]; simp
      · simp
theorem outsR_small (z : Nat) : ∀ (es : List REv) (s : RB), ∀ o ∈ outsR z s es, o.dat.length ≤ z := by
  intro es
  induction es with
  | nil => intro s o h; simp [outsR] at h
  | cons e r ih =>
    intro s o h
    rw [outsR] at h
    rcases List.mem_cons.1 h with rfl | h
    · exact stepR_small z s e
    · exact ih _ o h
/-- What both ReorderRuns give, all cases in one. -/
def RunsR (f : Nat) (x z : Int) (es : List REv) (code : Int) (os : List ROut) : Prop := ∀ (a : Option Addr) (cap n : Nat) (w : World) (G : Evs), G.length = n → G.map (·.1) = es → EvLie w w.heap.size a G →
  Calls Try.prog f #[.int .u64 x, .int .i64 z, .slice a n cap] w fun e w' => ∃ av cp Go, e = .returned (.tuple #[.slice av os.length cp, .int .i64 code]) ∧ OutsR w' w.heap.size (.slice av os.length cp) Go ∧ Go.map (·.1) = os ∧ Below w.heap.size w w'
theorem evs_ok {es : List REv} (h : ∀ e ∈ es, EvOk e) {G : Evs} (hG : G.map (·.1) = es) : ∀ p ∈ G, EvOk p.1 := fun p hp => h _ (by rw [← hG]; exact List.mem_map.2 ⟨p, hp, rfl⟩)
theorem bothRunR (x z : Int) (x0 : 0 ≤ x) (es : List REv) (hok : ∀ e ∈ es, EvOk e) : ∃ code os, os.length ≤ 4000 ∧ (∀ o ∈ os, o.dat.length ≤ 4096) ∧ RunsR 23 x z es code os ∧ RunsR 22 x z es code os := by
  by_cases hc : OkR x z
  · obtain ⟨zn, rfl⟩ : ∃ zn : Nat, z = zn := ⟨z.toNat, by have := hc.2.1; omega⟩
    by_cases hl : es.length ≤ 4000
    · have hlen := outsR_length zn es (startR x)
      refine ⟨0, outsR zn (startR x) es, by omega, fun o ho => by have := outsR_small zn es (startR x) o ho; have := hc.2.2; omega, fun a cap n w G hn hG hz => ?_, fun a cap n w G hn hG hz => ?_⟩
      · have hnl : n = es.length := by rw [← hn, ← hG, List.length_map]
        refine (implRunR_ok x x0 zn hc a G n cap w hn (by omega) hz (evs_ok hok hG)).mono ?_
        rintro e w' ⟨av, cp, Go, rfl, hO, hGo, hb⟩
        rw [hG] at hGo
        rw [hlen, ← hnl]
        exact ⟨av, cp, Go, rfl, hO, hGo, hb⟩
      · have hnl : n = es.length := by rw [← hn, ← hG, List.length_map]
        refine (specRunR_ok x x0 zn hc a G n cap w hn (by omega) hz (evs_ok hok hG)).mono ?_
        rintro e w' ⟨av, cp, Go, rfl, hO, hGo, hb⟩
        rw [hG] at hGo
        rw [hlen, ← hnl]
        exact ⟨av, cp, Go, rfl, hO, hGo, hb⟩
    · refine ⟨5, [], by simp, by simp, fun a cap n w G hn hG hz => ?_, fun a cap n w G hn hG hz => ?_⟩
      · have hnl : n = es.length := by rw [← hn, ← hG, List.length_map]
        refine (implRunR_limit x zn hc a n cap w (by omega)).mono ?_
        rintro e w' ⟨rfl, hb⟩
        exact ⟨none, 0, [], rfl, OutsR.start (World.ownsRow_nil _ _ _ _), rfl, hb⟩
      · have hnl : n = es.length := by rw [← hn, ← hG, List.length_map]
        refine (specRunR_limit x zn hc a n cap w (by omega)).mono ?_
        rintro e w' ⟨rfl, hb⟩
        exact ⟨none, 0, [], rfl, OutsR.start (World.ownsRow_nil _ _ _ _), rfl, hb⟩
  · refine ⟨17, [], by simp, by simp, fun a cap n w G hn hG hz => ?_, fun a cap n w G hn hG hz => ?_⟩
    · refine (implRunR_bad x z hc a n cap w).mono ?_
      rintro e w' ⟨rfl, hb⟩
      exact ⟨none, 0, [], rfl, OutsR.start (World.ownsRow_nil _ _ _ _), rfl, hb⟩
    · refine (specRunR_bad x z hc a n cap w).mono ?_
      rintro e w' ⟨rfl, hb⟩
      exact ⟨none, 0, [], rfl, OutsR.start (World.ownsRow_nil _ _ _ _), rfl, hb⟩
theorem OutsR.keep {w w' : World} {base : Nat} {ov : Value} {G : GotO} (h : OutsR w base ov G) (hb : ∀ k, base ≤ k → k < w.heap.size → w'.heap[k]? = w.heap[k]?) : OutsR w' base ov G := h.stays fun k cs t h1 _ hk => hb k h1 (Array.getElem?_eq_some_iff.1 hk).1
theorem Only.below {w w' B0 : World} {base lim : Nat} (h : Only w w' base lim) {b : Nat} (hb : Below b B0 w) (hl : b ≤ base) (hs : b ≤ w.heap.size) : Below b B0 w' :=
  ⟨h.os.trans hb.os, h.tape.trans hb.tape, h.output.trans hb.output, Nat.le_trans hb.size h.size, fun k hk => (h.block k (Nat.lt_of_lt_of_le hk hs) (.inl (Nat.lt_of_lt_of_le hk hl))).trans (hb.block k hk)⟩

set_option maxHeartbeats 2000000 in
set_option maxRecDepth 100000 in
theorem lawRunR (x z : Int) (x0 : 0 ≤ x) (a : Option Addr) (es : Evs) (n cap : Nat) (w : World) (hn : es.length = n) (hok : ∀ p ∈ es, p.1.dat.length ≤ 1048576 → EvOk p.1) (hz : EvIn w a es) (hm : n ≤ 9223372036854775807) (hmd : ∀ p ∈ es, p.1.dat.length ≤ 9223372036854775807) :
    Calls Try.prog 7 #[.int .u64 x, .int .i64 z, .slice a n cap] w fun e w' => e = .returned (.bool true) ∧ Below w.heap.size w w' := by
  by_cases hl : n + sumD es ≤ 1048576
  · have hd8 : ∀ p ∈ es, p.1.dat.length ≤ 1048576 := fun p hp => by have := sumD_mem hp; omega
    have hokE : ∀ e ∈ es.map (·.1), EvOk e := by
      intro e he
      obtain ⟨p, hp, rfl⟩ := List.mem_map.1 he
      exact hok p hp (hd8 p hp)
    obtain ⟨code, os, hT, hsm, himpl, hspec⟩ := bothRunR x z x0 (es.map (·.1)) hokE
    have HI : Hid _ := himpl
    have HS : Hid _ := hspec
    have HSM : Hid _ := hsm
    obtain ⟨N, hN⟩ : ∃ N, Hid (N = os.length) := ⟨_, rfl⟩
    have hN5 : N ≤ 4000 := by rw [hN.out]; exact hT
    have hN6 : N ≤ 1048576 := by omega
    have HL : Hid (∀ G : GotO, G.map (·.1) = os → G.length = N ∧ Small G ∧ ∀ p ∈ G, p.1.dat.length ≤ 1048576) := by
      unfold Hid
      intro G hG
      have h4 : Small G := fun p hp => HSM.out _ (by rw [← hG]; exact List.mem_map.2 ⟨p, hp, rfl⟩)
      exact ⟨by rw [hN.out, ← hG, List.length_map], h4, fun p hp => by have := h4 p hp; omega⟩
    have HEL : Hid (∀ G : Evs, G.map (·.1) = es.map (·.1) → G.length = n) := by
      unfold Hid
      intro G hG
      have := congrArg List.length hG
      simp only [List.length_map] at this
      omega
    have HSUM : Hid (∀ G : Evs, G.map (·.1) = es.map (·.1) → sumD G = sumD es) := by
      unfold Hid
      intro G hG
      have e1 : ∀ H : Evs, sumD H = ((H.map (·.1)).map fun e => e.dat.length).sum := fun H => by unfold sumD; rw [List.map_map]; rfl
      rw [e1, e1, hG]
    have hnn : n ≤ 1048576 := by omega
    clear himpl hspec hT hsm hokE
    have hsz := szReorderEventS_any a es n cap w hn hm hmd hz _ (.inl ⟨hl, rfl⟩)
    obtain ⟨left, hleft⟩ : ∃ left, Hid (left = 1048576 - (n : Int) - (sumD es : Int)) := ⟨_, rfl⟩
    rw [← hleft.out] at hsz
    have hl0 : 0 ≤ left := by rw [hleft.out]; omega
    go_enter Try.func7, Try.ntmps7
    go_wp2_with fail
    refine hsz.mono ?_
    rintro e w2 ⟨rfl, hB2⟩
    clear hsz
    have t1 := hB2.size
    go_wp2_with fail
    refine (toReorderEventS_any a es n cap w2 hn (hz.moved hB2) hnn hd8).mono ?_
    rintro e w3 ⟨G3, rfl, ho3, hG3, hb3⟩
    have hB3 := hB2.trans (hb3.mono hB2.size)
    have t3 := hB3.size
    have hsp := HS.out _ n n w3 G3 (HEL.out _ hG3) hG3 (ho3.lie (HEL.out _ hG3))
    rw [← hN.out] at hsp
    go_wp2_with fail
    refine hsp.mono ?_
    rintro e w4 ⟨av0, cp0, G0, rfl, hr0, hG0, hb4⟩
    have hB4 := hB3.trans (hb4.mono hB3.size)
    have t4 := hB4.size
    have D4 : Below w4.heap.size w4 w4 := Below.refl _ _
    clear hb3 hb4 ho3 hsp HS hB3 hB2
    go_wp2_with fail
    refine (toReorderEventS_any a es n cap w4 hn (hz.moved hB4) hnn hd8).mono ?_
    rintro e w5 ⟨G5, rfl, ho5, hG5, hb5⟩
    have hB5 := hB4.trans (hb5.mono hB4.size)
    have D5 := D4.trans (hb5.mono D4.size)
    have s5 := hb5.size
    have HR5 : Hid (∀ k, (Value.slice (some ⟨w4.heap.size, 0, none⟩) n n).ownBlock = some k → k < w5.heap.size) := fun k hk => by have := (ho5.row.lt k hk).2; exact this
    have HD5 : Hid (∀ p ∈ G5, ∀ k, (evP p).ownBlock = some k → k < w5.heap.size) := fun p hp k hk => ((ho5.dat p hp).lt k hk).2
    clear hb5 hB4
    have him := HI.out _ n n w5 G5 (HEL.out _ hG5) hG5 (ho5.lie (HEL.out _ hG5))
    rw [← hN.out] at him
    go_wp2_with fail
    refine him.mono ?_
    rintro e w7 ⟨av1, cp1, G1, rfl, hr1, hG1, hb7⟩
    have hB7 := hB5.trans (hb7.mono hB5.size)
    have D7 := D5.trans (hb7.mono D5.size)
    have ho5 := ho5.below hb7
    have s7 := hb7.size
    clear him hb7 hB5
    obtain ⟨l1, sm1, dm1⟩ := HL.out _ hG1
    have HL1 : Hid (G1.length = N) := l1
    have HGG : Hid (G1.map (·.1) = G0.map (·.1)) := by unfold Hid; rw [hG1, hG0]
    have HG0 : Hid (G0.map (·.1) = os) := hG0
    have HG5 : Hid _ := hG5
    clear hG0 hG1 l1 hG3 hG5
    have heq1 := eqReorderOutS_same G1 G0 _ _ av1 av0 N cp1 cp0 w7 HL1.out HGG.out hr1 (hr0.keep fun k _ hk => D7.block k hk) hN6 dm1
    go_wp2_with fail
    refine heq1.mono ?_
    rintro e w8 ⟨rfl, hb8⟩
    have hB8 := hB7.trans (hb8.mono hB7.size)
    have D8 := D7.trans (hb8.mono D7.size)
    have hr1 := hr1.keep (w' := w8) fun k _ hk => hb8.block k hk
    have ho5 := ho5.below hb8
    have s8 := hb8.size
    clear hb8 hB7 heq1
    go_wp2_with fail
    refine (toReorderEventS_any a es n cap w8 hn (hz.moved hB8) hnn hd8).mono ?_
    rintro e w9 ⟨G9, rfl, ho9, hG9, hb9⟩
    have hB9 := hB8.trans (hb9.mono hB8.size)
    have D9 := D8.trans (hb9.mono D8.size)
    have hr1 := hr1.keep (w' := w9) fun k _ hk => hb9.block k hk
    have ho5 := ho5.below hb9
    have s9 := hb9.size
    clear hb9 hB8
    have heq2 := eqReorderEventS_same G5 G9 _ _ n n n w9 (HEL.out _ HG5.out) (by rw [HG5.out, hG9]) (ho5.lie (HEL.out _ HG5.out)).in_ (ho9.lie (HEL.out _ hG9)).in_ hnn (fun p hp => by have h1 := sumD_mem hp; rw [HSUM.out _ HG5.out] at h1; omega)
    go_wp2_with fail
    refine heq2.mono ?_
    rintro e w10 ⟨rfl, hb10⟩
    have hB10 := hB9.trans (hb10.mono hB9.size)
    have D10 := D9.trans (hb10.mono D9.size)
    have hr1 := hr1.keep (w' := w10) fun k _ hk => hb10.block k hk
    have ho5 := ho5.below hb10
    have s10 := hb10.size
    clear hb10 hB9 ho9 heq2 hG9
    have hmk := markReorderEventS_any G5 w4.heap.size w5.heap.size _ n n w10 (HEL.out _ HG5.out) ho5 (by rw [HSUM.out _ HG5.out]; exact hl) HR5.out HD5.out
    go_wp2_with fail
    refine hmk.mono ?_
    rintro e w11 ⟨k9, hk9, rfl, hon⟩
    have hr1 := hr1.keep (w' := w11) fun k h1 h2 => hon.block k h2 (.inr h1)
    have D11 := hon.below D10 (Nat.le_refl _) D10.size
    have hB11 := hon.below hB10 (by omega) hB10.size
    have s11 := hon.size
    have d9 : decide (k9 < 0) = false := by rw [decide_eq_false_iff_not]; omega
    clear hon hB10 ho5 D10 D9 D8 D7 D5 D4 hmk
    have heq3 := eqReorderOutS_same G1 G0 _ _ av1 av0 N cp1 cp0 w11 HL1.out HGG.out hr1 (hr0.keep fun k _ hk => D11.block k hk) hN6 dm1
    go_wp2_with fail
    refine heq3.mono ?_
    rintro e w12 ⟨rfl, hb12⟩
    have hB12 := hB11.trans (hb12.mono hB11.size)
    have D12 := D11.trans (hb12.mono D11.size)
    have hr1 := hr1.keep (w' := w12) fun k _ hk => hb12.block k hk
    have s12 := hb12.size
    clear hb12 hB11 D11 heq3
    have hmo := markReorderOutS_any G1 _ av1 N cp1 w12 HL1.out hr1 sm1 hN5
    have hbd := sAt_bounds G1 sm1 N (by have := HL1.out; omega)
    obtain ⟨q, hq⟩ : ∃ q, Hid (q = sAt 1 G1 N) := ⟨_, rfl⟩
    rw [← hq.out] at hbd hmo
    go_wp2_with fail
    refine hmo.mono ?_
    rintro e w13 ⟨rfl, hr13, hb13⟩
    have hB13 := hB12.trans (hb13.mono (by omega))
    have D13 := D12.trans (hb13.mono (by omega))
    have s13 := hb13.size
    have hhe := heldReorderOutS_any G1 _ av1 N cp1 w13 HL1.out hr13 sm1 hN5
    rw [← hq.out] at hhe
    clear hb13 hB12 hr1 D12 hr13 sm1 hmo
    go_wp2_with fail
    refine hhe.mono ?_
    rintro e w14 ⟨rfl, rfl⟩
    clear hhe
    go_wp2_with fail
    refine (toReorderEventS_any a es n cap w14 hn (hz.moved hB13) hnn hd8).mono ?_
    rintro e w16 ⟨G16, rfl, ho16, hG16, hb16⟩
    have hB16 := hB13.trans (hb16.mono hB13.size)
    have D16 := D13.trans (hb16.mono D13.size)
    clear hb16 hB13 D13
    have him := HI.out _ n n w16 G16 (HEL.out _ hG16) hG16 (ho16.lie (HEL.out _ hG16))
    rw [← hN.out] at him
    go_wp2_with fail
    refine him.mono ?_
    rintro e w17 ⟨av2, cp2, G2, rfl, hr2, hG2, hb17⟩
    have hB17 := hB16.trans (hb17.mono hB16.size)
    have D17 := D16.trans (hb17.mono D16.size)
    obtain ⟨l2, _, dm2⟩ := HL.out _ hG2
    have HL2 : Hid (G2.length = N) := l2
    have HGG2 : Hid (G2.map (·.1) = G0.map (·.1)) := by unfold Hid; rw [hG2, HG0.out]
    clear him hb17 hB16 ho16 HI hG2 D16 l2 hG16
    have heq4 := eqReorderOutS_same G2 G0 _ _ av2 av0 N cp2 cp0 w17 HL2.out HGG2.out hr2 (hr0.keep fun k _ hk => D17.block k hk) hN6 dm2
    go_wp2_with fail
    refine heq4.mono ?_
    rintro e w18 ⟨rfl, hb18⟩
    have hBz := hB17.trans (hb18.mono hB17.size)
    clear hb18 hB17 D17 hr2 hr0 heq4
    go_wp2_with fail
    go_ret
    exact ⟨rfl, hBz⟩
  · have hsz := szReorderEventS_any a es n cap w hn hm hmd hz (-1) (.inr ⟨by omega, rfl⟩)
    clear hz
    go_enter Try.func7, Try.ntmps7
    go_wp2_with fail
    refine hsz.mono ?_
    rintro e w1 ⟨rfl, hb1⟩
    go_wp2_with fail
    go_ret
    exact ⟨rfl, hb1⟩
end Go.Proofs.Ytpeecjoadgefjaa

namespace Go.Proofs.Ytpeecjoadgefjaa
open Go.ChangeShapes Go.WideShapes Go.ChangeAt Go.RowKit
set_option linter.unusedVariables false

theorem eqSpanS_same (a a' : Option Addr) (S : Sp) (cap cap' : Nat) (w : World) (hS : Spans w a S) (hS' : Spans w a' S) (hf : Fits S) (hl : S.length ≤ 1048576) :
    Calls Try.prog 14 #[.slice a S.length cap, .slice a' S.length cap'] w fun e w' => e = .returned (.bool true) ∧ Below w.heap.size w w' := by
  go_enter Try.func14, Try.ntmps14
  go_wp2
  go_loopw [5] (fun i wr => ∃ k : Nat, k ≤ S.length ∧ i = .int .i64 k ∧ Below w.heap.size w wr) (fun i _ => S.length - (intOf i).toNat)
  case atStart => exact ⟨0, Nat.zero_le _, rfl, Below.refl _ _⟩
  case round =>
    obtain ⟨k, hk, rfl, hb⟩ := hrel
    by_cases hlt : k < S.length
    · rcases hS with h | ⟨b, off, rfl, hc⟩
      · simp [h] at hlt
      rcases hS' with h | ⟨b', off', rfl, hc'⟩
      · simp [h] at hlt
      obtain ⟨c, d, hn, c0, c1, d0, d1, q1, q2⟩ := Spans.at hf hc hlt
      have q3 := (hc' k hlt).1
      have q4 := (hc' k hlt).2
      rw [hn.out] at q3 q4
      have r1 : wr.cell? ⟨b, off + k * 2, none⟩ = some (.int .u64 c) := by rw [hb.cell (World.block_lt_of_cell? w _ q1)]; exact q1
      have r2 : wr.cell? ⟨b, off + k * 2 + 1, none⟩ = some (.int .u64 d) := by rw [hb.cell (World.block_lt_of_cell? w _ q2)]; exact q2
      have r3 : wr.cell? ⟨b', off' + k * 2, none⟩ = some (.int .u64 c) := by rw [hb.cell (World.block_lt_of_cell? w _ q3)]; exact q3
      have r4 : wr.cell? ⟨b', off' + k * 2 + 1, none⟩ = some (.int .u64 d) := by rw [hb.cell (World.block_lt_of_cell? w _ q4)]; exact q4
      clear hc hc' q1 q2 q3 q4 hf hn
      go_wp2
      go_region_with (go_at_call 46; refine (eqSpan_same _ _ _).mono ?_; rintro e w2 ⟨rfl, hb2⟩)
      all_goals
        have hb3 := hb.drew.trans (hb2.mono hb.size)
        clear hb hb2
        go_wp2
        go_roundw
        case rel => exact ⟨k + 1, by omega, by go_num, by first | exact hb3 | exact hb3.drew⟩
        case measure => simp [intOf]; omega
    · go_wp2
      go_ret
      exact ⟨rfl, hb⟩

/-- What marking leaves: 1, 2, 3 .. -/
def marked (n : Nat) : Sp := (List.range n).map fun (i : Nat) => ((1 + 2 * i : Int), (1 + 2 * i + 1 : Int))
theorem marked_length (n : Nat) : (marked n).length = n := by simp [marked]
theorem marked_at {n i : Nat} (h : i < (marked n).length) : (marked n)[i] = ((1 + 2 * i : Int), (1 + 2 * i + 1 : Int)) := by simp [marked]
def partM (S : Sp) (k : Nat) : Sp := marked k ++ S.drop k
theorem partM_zero (S : Sp) : partM S 0 = S := by simp [partM, marked]
theorem partM_all (S : Sp) : partM S S.length = marked S.length := by simp [partM]
theorem partM_length (S : Sp) {k : Nat} (h : k ≤ S.length) : (partM S k).length = S.length := by simp [partM, marked_length]; omega
theorem partM_succ (S : Sp) {k : Nat} (h : k < S.length) : (partM S k).set k ((1 + 2 * k : Int), (1 + 2 * k + 1 : Int)) = partM S (k + 1) := by
  unfold partM
  rw [List.set_append, marked_length, if_neg (by omega), Nat.sub_self, List.drop_eq_getElem_cons h, List.set_cons_zero]
  have e : marked (k + 1) = marked k ++ [((1 + 2 * k : Int), (1 + 2 * k + 1 : Int))] := by simp [marked, List.range_succ]
  rw [e, List.append_assoc]
  rfl
theorem marked_fits {n : Nat} (h : n ≤ 1048576) : Fits (marked n) := by
  intro p hp
  simp only [marked, List.mem_map, List.mem_range] at hp
  obtain ⟨i, hi, rfl⟩ := hp
  simp
  omega

theorem markSpanS_any (v : Value) (S : Sp) (w : World) (base : Nat) (ho : w.ownsRow base 31 2 v S.length (flat S)) (hl : S.length ≤ 1048576) :
    Calls Try.prog 15 #[v, .int .i64 1] w fun e w' => e = .returned (.int .i64 (1 + 2 * (S.length : Int))) ∧ w'.ownsRow base 31 2 v S.length (flat (marked S.length)) ∧ w.grownBy w' v.ownBlock := by
  rcases ho.2 with ⟨rfl, h0⟩ | ⟨g, cap, cur, rfl, _⟩
  · go_enter Try.func15, Try.ntmps15
    go_wp2
    refine wp_loop_rounds 1 ?_
    rw [rounds_succ]
    go_wp2
    go_ret
    have hn : S = [] := List.eq_nil_of_length_eq_zero h0
    subst hn
    exact ⟨rfl, ho, World.grownBy.refl _ _⟩
  · go_enter Try.func15, Try.ntmps15
    go_wp2
    go_loopw [1, 5] (fun m i wr => ∃ k : Nat, k ≤ S.length ∧ i = .int .i64 k ∧ m = .int .i64 (1 + 2 * (k : Int)) ∧ wr.ownsRow base 31 2 (.slice (some ⟨g, 0, none⟩) S.length cap) S.length (flat (partM S k)) ∧ w.grownBy wr (some g))
      (fun _ i _ => S.length - (intOf i).toNat)
    case atStart => exact ⟨0, Nat.zero_le _, rfl, by simp, by rw [partM_zero]; exact ho, World.grownBy.refl _ _⟩
    case round =>
      obtain ⟨k, hk, rfl, rfl, hown, hg⟩ := hrel
      by_cases hlt : k < S.length
      · obtain ⟨p1, p2, ⟨u1, p3⟩, ⟨u2, p4⟩⟩ := place2 hown hlt
        have hl2 := partM_length S hk
        have ho2 := hown
        rw [← hl2] at ho2
        have hn2 := stored2 ho2 k (by omega) (1 + 2 * (k : Int)) (1 + 2 * (k : Int) + 1)
        rw [partM_succ S hlt, hl2] at hn2
        have hg2 := grown_trans hg (grown_trans (grown_set wr g (k * 2) (.int .u64 (1 + 2 * (k : Int)))) (grown_set _ g (k * 2 + 1) (.int .u64 (1 + 2 * (k : Int) + 1))))
        clear ho2 hown hg ho
        go_wp2
        go_roundw
        case rel => exact ⟨k + 1, by omega, by go_num, by go_num, hn2, hg2⟩
        case measure => simp [intOf]; omega
      · go_wp2
        go_ret
        have : k = S.length := by omega
        subst this
        rw [partM_all] at hown
        exact ⟨rfl, hown, hg⟩

theorem heldSpanS_any (a : Option Addr) (n cap : Nat) (w : World) (hS : Spans w a (marked n)) (hl : n ≤ 1048576) :
    Calls Try.prog 16 #[.slice a n cap, .int .i64 1] w fun e w' => e = .returned (.int .i64 (1 + 2 * (n : Int))) ∧ w' = w := by
  go_enter Try.func16, Try.ntmps16
  go_wp2
  go_loop [1, 5] (fun m i => ∃ k : Nat, k ≤ n ∧ i = .int .i64 k ∧ m = .int .i64 (1 + 2 * (k : Int))) (fun _ i => n - (intOf i).toNat)
  case atStart => exact ⟨0, Nat.zero_le _, rfl, by simp⟩
  case round =>
    obtain ⟨k, hk, rfl, rfl⟩ := hrel
    by_cases hlt : k < n
    · rcases hS with h | ⟨b, off, rfl, hc⟩
      · have := marked_length n; rw [h] at this; simp at this; omega
      · obtain ⟨q1, q2⟩ := hc k (by rw [marked_length]; exact hlt)
        rw [marked_at] at q1 q2
        clear hc
        go_wp2
        go_round
        case rel => exact ⟨k + 1, by omega, by go_num, by go_num⟩
        case measure => simp [intOf]; omega
    · go_wp2
      go_ret
      have : k = n := by omega
      subst this
      exact ⟨rfl, rfl⟩
end Go.Proofs.Ytpeecjoadgefjaa
