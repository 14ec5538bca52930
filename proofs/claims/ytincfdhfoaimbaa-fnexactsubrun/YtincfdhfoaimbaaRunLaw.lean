import Derived.Test.YtincfdhfoaimbaaRunMark
namespace Go.Proofs.Ytincfdhfoaimbaa
open Go.ChangeShapes Go.WideShapes Go.ChangeAt Go.RowKit
set_option linter.unusedVariables false

set_option maxHeartbeats 2000000 in
set_option maxRecDepth 100000 in
theorem lawRun (c : Cf) (a : Option Addr) (es : Triples) (n cap : Nat) (w : World) (hn : es.length = n) (hi : 0 ≤ c.isn ∧ c.isn ≤ 4294967295) (hx : ∀ e ∈ es, 0 ≤ e.2.2 ∧ e.2.2 ≤ 4294967295) (hz : Lie3 .i64 .i64 .u32 w a es) (hm : n ≤ 9223372036854775807) :
    Calls Try.prog 7 #[cfV c, .slice a n cap] w fun e w' => e = .returned (.bool true) ∧ Below w.heap.size w w' := by
  obtain ⟨W, hW⟩ : ∃ W, W = w.alloc (.cells #[.int .u32 c.isn, .int .i64 c.win, .int .i64 c.rto, .int .i64 c.mrto, .int .i64 c.da, .int .i64 c.pe] 59) := ⟨_, rfl⟩
  have hbW : Below w.heap.size w W := by rw [hW]; exact (Below.refl _ _).alloc (Nat.le_refl _) _
  have hC : W.heap[w.heap.size]? = some (.cells #[.int .u32 c.isn, .int .i64 c.win, .int .i64 c.rto, .int .i64 c.mrto, .int .i64 c.da, .int .i64 c.pe] 59) := by rw [hW]; exact box_new _ _ _ rfl
  have hsW : w.heap.size < W.heap.size := by rw [hW]; simp
  have HC : Hid (∀ V : World, Below W.heap.size W V → V.cell? ⟨w.heap.size, 0, none⟩ = some (.int .u32 c.isn) ∧ V.cell? ⟨w.heap.size, 1, none⟩ = some (.int .i64 c.win) ∧ V.cell? ⟨w.heap.size, 2, none⟩ = some (.int .i64 c.rto) ∧ V.cell? ⟨w.heap.size, 3, none⟩ = some (.int .i64 c.mrto) ∧ V.cell? ⟨w.heap.size, 4, none⟩ = some (.int .i64 c.da) ∧ V.cell? ⟨w.heap.size, 5, none⟩ = some (.int .i64 c.pe)) := by
    unfold Hid
    intro V hV
    have h := (hV.block _ hsW).trans hC
    exact ⟨Go.Joins.cell_of_block h 0, Go.Joins.cell_of_block h 1, Go.Joins.cell_of_block h 2, Go.Joins.cell_of_block h 3, Go.Joins.cell_of_block h 4, Go.Joins.cell_of_block h 5⟩
  have hz := hz.moved hbW
  by_cases hl : n ≤ 1048576
  · obtain ⟨code, os, hT, himpl, hspec⟩ := bothRun c es hi hx
    have HI : Hid _ := himpl
    have HS : Hid _ := hspec
    obtain ⟨N, hN⟩ : ∃ N, Hid (N = os.length) := ⟨_, rfl⟩
    have hN5 : N ≤ 4000 := by rw [hN.out]; exact hT
    have hN6 : N ≤ 1048576 := by omega
    have HL : Hid (∀ G : Got, G.map (·.1) = os → G.length = N) := by
      unfold Hid
      intro G hG
      rw [hN.out, ← hG, List.length_map]
    clear himpl hspec hT hx hC
    have hsz := szSubEventS_is a n cap W hm (1048576 - (n : Int)) (.inl ⟨hl, rfl⟩)
    go_enter Try.func7, Try.ntmps7
    go_wp2_with fail
    rw [← hW]
    clear hW
    refine hsz.mono ?_
    rintro e w1 ⟨rfl, rfl⟩
    obtain ⟨c0, c1, c2, c3, c4, c5⟩ := HC.out w1 (Below.refl _ _)
    go_wp2_with fail
    refine (toSubConfig_is c.isn c.win c.rto c.mrto c.da c.pe w1).mono ?_
    rintro e w2 ⟨rfl, hb2⟩
    have hB2 : Below w1.heap.size w1 w2 := hb2
    have t1 := hB2.size
    clear c0 c1 c2 c3 c4 c5 hsz
    go_wp2_with fail
    refine (toSubEventS_any a es n cap w2 hn (hz.moved hB2) hl).mono ?_
    rintro e w3 ⟨rfl, ho3, hb3⟩
    have hB3 := hB2.trans (hb3.mono hB2.size)
    have t3 := hB3.size
    go_wp2_with fail
    have hsp := HS.out _ n w3 (Lie3.ofRow hn ho3)
    rw [hn, ← hN.out] at hsp
    refine hsp.mono ?_
    rintro e w4 ⟨av0, cp0, G0, rfl, hr0, hG0, hb4⟩
    have hB4 := hB3.trans (hb4.mono hB3.size)
    have t4 := hB4.size
    have D4 : Below w4.heap.size w4 w4 := Below.refl _ _
    clear hb3 hb4 ho3 hsp HS hB3 hB2 hb2
    go_wp2_with fail
    refine (toSubEventS_any a es n cap w4 hn (hz.moved hB4) hl).mono ?_
    rintro e w5 ⟨rfl, ho5, hb5⟩
    have hB5 := hB4.trans (hb5.mono hB4.size)
    have D5 := D4.trans (hb5.mono D4.size)
    have s5 : w4.heap.size < w5.heap.size := (ho5.lt _ rfl).2
    obtain ⟨c0, c1, c2, c3, c4, c5⟩ := HC.out w5 hB5
    clear hb5 hB4
    go_wp2_with fail
    refine (toSubConfig_is c.isn c.win c.rto c.mrto c.da c.pe w5).mono ?_
    rintro e w6 ⟨rfl, hb6⟩
    have hB6 := hB5.trans (hb6.mono hB5.size)
    have D6 := D5.trans (hb6.mono D5.size)
    have ho5 := owned_kept ho5 hb6
    have s6 := hb6.size
    clear c0 c1 c2 c3 c4 c5 hb6 hB5
    go_wp2_with fail
    have him := HI.out _ n w6 (Lie3.ofRow hn ho5)
    rw [hn, ← hN.out] at him
    refine him.mono ?_
    rintro e w7 ⟨av1, cp1, G1, rfl, hr1, hG1, hsm1, hb7⟩
    have hB7 := hB6.trans (hb7.mono hB6.size)
    have D7 := D6.trans (hb7.mono D6.size)
    have ho5 := owned_kept ho5 hb7
    have s7 := hb7.size
    clear him hb7 hB6
    have HL1 : Hid (G1.length = N) := HL.out _ hG1
    have HGG : Hid (G1.map (·.1) = G0.map (·.1)) := by unfold Hid; rw [hG1, hG0]
    have HG0 : Hid (G0.map (·.1) = os) := hG0
    clear hG0 hG1
    go_wp2_with fail
    refine (eqSubOutS_same G1 G0 _ _ av1 av0 N cp1 cp0 w7 HL1.out HGG.out hsm1 hr1 (hr0.kept fun k _ hk => D7.block k hk) hN6).mono ?_
    rintro e w8 ⟨rfl, hb8⟩
    have hB8 := hB7.trans (hb8.mono hB7.size)
    have D8 := D7.trans (hb8.mono D7.size)
    have hr1 := hr1.kept (w' := w8) fun k _ hk => hb8.block k hk
    have ho5 := owned_kept ho5 hb8
    have s8 := hb8.size
    clear hb8 hB7
    go_wp2_with fail
    refine (toSubEventS_any a es n cap w8 hn (hz.moved hB8) hl).mono ?_
    rintro e w9 ⟨rfl, ho9, hb9⟩
    have hB9 := hB8.trans (hb9.mono hB8.size)
    have D9 := D8.trans (hb9.mono D8.size)
    have hr1 := hr1.kept (w' := w9) fun k _ hk => hb9.block k hk
    have ho5 := owned_kept ho5 hb9
    have s9 := hb9.size
    clear hb9 hB8
    go_wp2_with fail
    refine (eqSubEventS_same _ _ es n _ _ w9 hn (Lie3.ofRow hn ho5) (Lie3.ofRow hn ho9) hl).mono ?_
    rintro e w10 ⟨rfl, hb10⟩
    have hB10 := hB9.trans (hb10.mono hB9.size)
    have D10 := D9.trans (hb10.mono D9.size)
    have hr1 := hr1.kept (w' := w10) fun k _ hk => hb10.block k hk
    have ho5 := owned_kept ho5 hb10
    have s10 := hb10.size
    clear hb10 hB9 ho9
    go_wp2_with fail
    refine (markSubEventS_from _ es 1 n w10 w4.heap.size hn ho5 hl (by omega) (by omega)).mono ?_
    rintro e w11 ⟨rfl, ho11, hg11⟩
    have hof : ∀ k, k ≠ w4.heap.size → some k ≠ (Value.slice (some ⟨w4.heap.size, 0, none⟩) n n).ownBlock := fun k hk e => by
      have : k = w4.heap.size := by simpa [Value.ownBlock] using e
      omega
    have hr1 := hr1.kept (w' := w11) fun k h1 h2 => hg11.block k h2 (hof k (by omega))
    have D11 := below_grown D10 ho5 hg11 (Nat.le_refl _) D10.size
    have hB11 := below_grown hB10 ho5 hg11 t4 hB10.size
    have s11 := hg11.size
    clear hg11 hB10 ho5 ho11 hof D10 D9 D8 D7 D6 D5 D4
    go_wp2_with fail
    refine (eqSubOutS_same G1 G0 _ _ av1 av0 N cp1 cp0 w11 HL1.out HGG.out hsm1 hr1 (hr0.kept fun k _ hk => D11.block k hk) hN6).mono ?_
    rintro e w12 ⟨rfl, hb12⟩
    have hB12 := hB11.trans (hb12.mono hB11.size)
    have D12 := D11.trans (hb12.mono D11.size)
    have hr1 := hr1.kept (w' := w12) fun k _ hk => hb12.block k hk
    have s12 := hb12.size
    clear hb12 hB11 D11
    go_wp2_with fail
    refine (markSubOutS_any G1 _ av1 N cp1 w12 HL1.out hr1 hsm1 hN5).mono ?_
    rintro e w13 ⟨rfl, hr13, hb13⟩
    have hB13 := hB12.trans (hb13.mono (by omega))
    have D13 := D12.trans (hb13.mono (by omega))
    have s13 := hb13.size
    have hbd := sAt_bounds G1 hsm1 N (by have := HL1.out; omega)
    obtain ⟨q, hq⟩ : ∃ q, Hid (q = sAt 1 G1 N) := ⟨_, rfl⟩
    have hhe := heldSubOutS_any G1 _ av1 N cp1 w13 HL1.out hr13 hsm1 hN5
    rw [← hq.out] at hbd hhe ⊢
    clear hb13 hB12 hr1 D12 hr13 hsm1
    go_wp2_with fail
    refine hhe.mono ?_
    rintro e w14 ⟨rfl, rfl⟩
    obtain ⟨c0, c1, c2, c3, c4, c5⟩ := HC.out w14 hB13
    clear hhe
    go_wp2_with fail
    refine (toSubConfig_is c.isn c.win c.rto c.mrto c.da c.pe w14).mono ?_
    rintro e w15 ⟨rfl, hb15⟩
    have hB15 := hB13.trans (hb15.mono hB13.size)
    have D15 := D13.trans (hb15.mono D13.size)
    clear c0 c1 c2 c3 c4 c5 hb15 hB13 D13
    go_wp2_with fail
    refine (toSubEventS_any a es n cap w15 hn (hz.moved hB15) hl).mono ?_
    rintro e w16 ⟨rfl, ho16, hb16⟩
    have hB16 := hB15.trans (hb16.mono hB15.size)
    have D16 := D15.trans (hb16.mono D15.size)
    clear hb16 hB15 D15
    go_wp2_with fail
    have him := HI.out _ n w16 (Lie3.ofRow hn ho16)
    rw [hn, ← hN.out] at him
    refine him.mono ?_
    rintro e w17 ⟨av2, cp2, G2, rfl, hr2, hG2, hsm2, hb17⟩
    have hB17 := hB16.trans (hb17.mono hB16.size)
    have D17 := D16.trans (hb17.mono D16.size)
    have HL2 : Hid (G2.length = N) := HL.out _ hG2
    have HGG2 : Hid (G2.map (·.1) = G0.map (·.1)) := by unfold Hid; rw [hG2, HG0.out]
    clear him hb17 hB16 ho16 HI hG2 D16
    go_wp2_with fail
    refine (eqSubOutS_same G2 G0 _ _ av2 av0 N cp2 cp0 w17 HL2.out HGG2.out hsm2 hr2 (hr0.kept fun k _ hk => D17.block k hk) hN6).mono ?_
    rintro e w18 ⟨rfl, hb18⟩
    have hBz := hbW.trans ((hB17.trans (hb18.mono hB17.size)).mono hbW.size)
    clear hb18 hB17 D17 hr2 hr0
    go_wp2
    go_ret
    exact ⟨rfl, hBz⟩
  · have hsz := szSubEventS_is a n cap W hm (-1) (.inr ⟨by omega, rfl⟩)
    clear hx hz
    go_enter Try.func7, Try.ntmps7
    go_wp2_with fail
    rw [← hW]
    clear hW
    refine hsz.mono ?_
    rintro e w1 ⟨rfl, rfl⟩
    go_wp2
    go_ret
    exact ⟨rfl, hbW⟩
end Go.Proofs.Ytincfdhfoaimbaa
