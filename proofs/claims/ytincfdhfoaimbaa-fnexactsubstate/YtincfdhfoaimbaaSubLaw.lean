import Derived.Test.YtincfdhfoaimbaaSubLaw0
namespace Go.Proofs.Ytincfdhfoaimbaa
open Go.ChangeShapes Go.WideShapes Go.ChangeAt Go.RowKit
set_option linter.unusedVariables false

set_option maxHeartbeats 2000000 in
set_option maxRecDepth 100000 in
theorem lawState (c : Cf) (a : Option Addr) (es : Triples) (n cap : Nat) (w : World) (hn : es.length = n) (hi : 0 ≤ c.isn ∧ c.isn ≤ 4294967295) (hx : ∀ e ∈ es, 0 ≤ e.2.2 ∧ e.2.2 ≤ 4294967295) (hz : Lie3 .i64 .i64 .u32 w a es) (hm : n ≤ 9223372036854775807) :
    Calls Try.prog 6 #[cfV c, .slice a n cap] w fun e w' => e = .returned (.bool true) ∧ Below w.heap.size w w' := by
  obtain ⟨W, hW⟩ : ∃ W, W = w.alloc (.cells #[.int .u32 c.isn, .int .i64 c.win, .int .i64 c.rto, .int .i64 c.mrto, .int .i64 c.da, .int .i64 c.pe] 59) := ⟨_, rfl⟩
  have hbW : Below w.heap.size w W := by rw [hW]; exact (Below.refl _ _).alloc (Nat.le_refl _) _
  have hC : W.heap[w.heap.size]? = some (.cells #[.int .u32 c.isn, .int .i64 c.win, .int .i64 c.rto, .int .i64 c.mrto, .int .i64 c.da, .int .i64 c.pe] 59) := by rw [hW]; exact box_new _ _ _ rfl
  have hsW : w.heap.size < W.heap.size := by rw [hW]; simp
  have HC : Hid (∀ V : World, Below W.heap.size W V → V.cell? ⟨w.heap.size, 0, none⟩ = some (.int .u32 c.isn) ∧ V.cell? ⟨w.heap.size, 1, none⟩ = some (.int .i64 c.win) ∧ V.cell? ⟨w.heap.size, 2, none⟩ = some (.int .i64 c.rto) ∧ V.cell? ⟨w.heap.size, 3, none⟩ = some (.int .i64 c.mrto) ∧ V.cell? ⟨w.heap.size, 4, none⟩ = some (.int .i64 c.da) ∧ V.cell? ⟨w.heap.size, 5, none⟩ = some (.int .i64 c.pe)) := by
    unfold Hid
    intro V hV
    have h := (hV.block _ hsW).trans hC
    exact ⟨Go.Joins.cell_of_block h 0, Go.Joins.cell_of_block h 1, Go.Joins.cell_of_block h 2, Go.Joins.cell_of_block h 3, Go.Joins.cell_of_block h 4, Go.Joins.cell_of_block h 5⟩
  have hz := hz.moved hbW
  by_cases hl : n ≤ 1048576
  · obtain ⟨q0, q1, t, r, cn, p, d, code, T, hT, himpl, hspec⟩ := bothState c es hi hx
    have HI : Hid _ := himpl
    have HS : Hid _ := hspec
    obtain ⟨N, hN⟩ : ∃ N, Hid (N = T.length) := ⟨_, rfl⟩
    have hN5 : N ≤ 1048576 := by rw [hN.out]; exact hT
    clear himpl hspec hT hx hC
    have hsz := szSubEventS_is a n cap W hm (1048576 - (n : Int)) (.inl ⟨hl, rfl⟩)
    go_enter Try.func6, Try.ntmps6
    go_wp2_with fail
    rw [← hW]
    clear hW
    refine hsz.mono ?_
    rintro e w1 ⟨rfl, rfl⟩
    obtain ⟨c0, c1, c2, c3, c4, c5⟩ := HC.out w1 (Below.refl _ _)
    go_wp2_with fail
    refine (toSubConfig_is c.isn c.win c.rto c.mrto c.da c.pe w1).mono ?_
    rintro e w2 ⟨rfl, hb2⟩
    have hB2 : Below w1.heap.size w1 w2 := hb2
    have t1 := hB2.size
    clear c0 c1 c2 c3 c4 c5 hsz
    go_wp2_with fail
    refine (toSubEventS_any a es n cap w2 hn (hz.moved hB2) hl).mono ?_
    rintro e w3 ⟨rfl, ho3, hb3⟩
    have hB3 := hB2.trans (hb3.mono hB2.size)
    have t3 := hB3.size
    go_wp2_with fail
    have hsp := HS.out _ n w3 (Lie3.ofRow hn ho3)
    rw [hn, ← hN.out] at hsp
    refine hsp.mono ?_
    rintro e w4 ⟨av0, cp0, rfl, hr0, hb4⟩
    have hB4 := hB3.trans (hb4.mono hB3.size)
    have lt0 : ∀ k, (Value.slice av0 N cp0).ownBlock = some k → k < w4.heap.size := fun k hk => (hr0.lt hk).2
    have t4 := hB4.size
    clear hb3 hb4 ho3 hsp HS hB3 hB2 hb2
    obtain ⟨V4, hV4⟩ : ∃ V, V = w4.alloc (.cells #[.int .u32 q0, .int .u32 q1, .slice av0 N cp0, .int .i64 t, .int .i64 r, .int .i64 cn, .int .i64 p, .int .i64 d] 54) := ⟨_, rfl⟩
    have hv4 : Below w4.heap.size w4 V4 := by rw [hV4]; exact (Below.refl _ _).alloc (Nat.le_refl _) _
    have hX0 : V4.heap[w4.heap.size]? = some (.cells #[.int .u32 q0, .int .u32 q1, .slice av0 N cp0, .int .i64 t, .int .i64 r, .int .i64 cn, .int .i64 p, .int .i64 d] 54) := by rw [hV4]; exact box_new _ _ _ rfl
    have s4 : w4.heap.size < V4.heap.size := by rw [hV4]; simp
    have hBv := hB4.trans (hv4.mono hB4.size)
    have hr0 := hr0.kept fun k hk => hv4.block k (hr0.lt hk).2
    go_wp2_with fail
    rw [← hV4]
    clear hV4 hv4 hB4
    refine (toSubEventS_any a es n cap V4 hn (hz.moved hBv) hl).mono ?_
    rintro e w5 ⟨rfl, ho5, hb5⟩
    have hB5 := hBv.trans (hb5.mono hBv.size)
    have hr0 := hr0.kept fun k hk => hb5.block k (hr0.lt hk).2
    have hX0 := (hb5.block _ s4).trans hX0
    have s5 : V4.heap.size < w5.heap.size := (ho5.lt _ rfl).2
    obtain ⟨c0, c1, c2, c3, c4, c5⟩ := HC.out w5 hB5
    clear hb5 hBv
    go_wp2_with fail
    refine (toSubConfig_is c.isn c.win c.rto c.mrto c.da c.pe w5).mono ?_
    rintro e w6 ⟨rfl, hb6⟩
    have hB6 := hB5.trans (hb6.mono hB5.size)
    have hr0 := hr0.kept fun k hk => hb6.block k (hr0.lt hk).2
    have hX0 := (hb6.block _ (by omega)).trans hX0
    have ho5 := owned_kept ho5 hb6
    have s6 := hb6.size
    clear c0 c1 c2 c3 c4 c5 hb6 hB5
    go_wp2_with fail
    have him := HI.out _ n w6 (Lie3.ofRow hn ho5)
    rw [hn, ← hN.out] at him
    refine him.mono ?_
    rintro e w7 ⟨av1, cp1, rfl, hr1, hb7⟩
    have hB7 := hB6.trans (hb7.mono hB6.size)
    have hr0 := hr0.kept fun k hk => hb7.block k (hr0.lt hk).2
    have hX0 := (hb7.block _ (by omega)).trans hX0
    have ho5 := owned_kept ho5 hb7
    have s7 := hb7.size
    have ge1 : ∀ k, (Value.slice av1 N cp1).ownBlock = some k → w6.heap.size ≤ k ∧ k < w7.heap.size := fun k hk => hr1.lt k hk
    clear him hb7 hB6
    obtain ⟨V7, hV7⟩ : ∃ V, V = w7.alloc (.cells #[.int .u32 q0, .int .u32 q1, .slice av1 N cp1, .int .i64 t, .int .i64 r, .int .i64 cn, .int .i64 p, .int .i64 d] 54) := ⟨_, rfl⟩
    have hv7 : Below w7.heap.size w7 V7 := by rw [hV7]; exact (Below.refl _ _).alloc (Nat.le_refl _) _
    have hX1 : V7.heap[w7.heap.size]? = some (.cells #[.int .u32 q0, .int .u32 q1, .slice av1 N cp1, .int .i64 t, .int .i64 r, .int .i64 cn, .int .i64 p, .int .i64 d] 54) := by rw [hV7]; exact box_new _ _ _ rfl
    have u7 : w7.heap.size < V7.heap.size := by rw [hV7]; simp
    have hBu := hB7.trans (hv7.mono hB7.size)
    have hr0 := hr0.kept fun k hk => hv7.block k (hr0.lt hk).2
    obtain ⟨⟨x0, x1, x2, x3, x4, x5, x6, x7⟩, _⟩ := cells8 hX0
    have ne7 : ¬ w4.heap.size = w7.heap.size := by omega
    have ne8 : ¬ w7.heap.size = w4.heap.size := by omega
    have lt7 : w4.heap.size < w7.heap.size := by omega
    have hX0 := (hv7.block _ (by omega)).trans hX0
    have ho5 := owned_kept ho5 hv7
    have hr1 := owned_kept hr1 hv7
    have I0 : ∀ {V : World}, Tags V w3.heap.size (.slice av0 N cp0) T → Ints .i64 V av0 T := fun {V} h => by
      obtain ⟨a2, c2, e2, _, _, _, h2⟩ := h.shape
      simp only [Value.slice.injEq] at e2
      rw [e2.1]
      exact h2
    have heq := eqSubView_same q0 q1 t r cn p d av1 av0 T N cp1 cp0 V7 hN.out.symm (Ints.ofRow hr1) (I0 hr0) hN5
    go_wp2_with fail
    rw [← hV7]
    clear hV7 hv7 hB7 x0 x1 x2 x3 x4 x5 x6 x7
    refine heq.mono ?_
    rintro e w8 ⟨rfl, hb8⟩
    have hB8 := hBu.trans (hb8.mono hBu.size)
    have hr0 := hr0.kept fun k hk => hb8.block k (hr0.lt hk).2
    have hr1 := owned_kept hr1 hb8
    have hX0 := (hb8.block _ (by omega)).trans hX0
    have hX1 := (hb8.block _ u7).trans hX1
    have ho5 := owned_kept ho5 hb8
    have s8 := hb8.size
    clear hb8 heq hBu
    go_wp2_with fail
    refine (toSubEventS_any a es n cap w8 hn (hz.moved hB8) hl).mono ?_
    rintro e w9 ⟨rfl, ho9, hb9⟩
    have hB9 := hB8.trans (hb9.mono hB8.size)
    have hr0 := hr0.kept fun k hk => hb9.block k (hr0.lt hk).2
    have hr1 := owned_kept hr1 hb9
    have hX0 := (hb9.block _ (by omega)).trans hX0
    have hX1 := (hb9.block _ (by omega)).trans hX1
    have ho5 := owned_kept ho5 hb9
    have s9 := hb9.size
    clear hb9 hB8
    go_wp2_with fail
    refine (eqSubEventS_same _ _ es n _ _ w9 hn (Lie3.ofRow hn ho5) (Lie3.ofRow hn ho9) hl).mono ?_
    rintro e w10 ⟨rfl, hb10⟩
    have hB10 := hB9.trans (hb10.mono hB9.size)
    have hr0 := hr0.kept fun k hk => hb10.block k (hr0.lt hk).2
    have hr1 := owned_kept hr1 hb10
    have hX0 := (hb10.block _ (by omega)).trans hX0
    have hX1 := (hb10.block _ (by omega)).trans hX1
    have ho5 := owned_kept ho5 hb10
    have s10 := hb10.size
    clear hb10 hB9 ho9
    go_wp2_with fail
    refine (markSubEventS_from _ es 1 n w10 V4.heap.size hn ho5 hl (by omega) (by omega)).mono ?_
    rintro e w11 ⟨rfl, ho11, hg11⟩
    have hof : ∀ k, k < V4.heap.size ∨ V4.heap.size < k → some k ≠ (Value.slice (some ⟨V4.heap.size, 0, none⟩) n n).ownBlock := fun k hk e => by
      have : k = V4.heap.size := by simpa [Value.ownBlock] using e
      omega
    have hr0 := hr0.kept fun k hk => hg11.block k (hr0.lt hk).2 (hof k (.inl (by have := lt0 k hk; omega)))
    have hr1 := hr1.kept hg11 (by
      cases hu : (Value.slice av1 N cp1).ownBlock with
      | none => exact .inl rfl
      | some k => exact .inr (hof k (.inr (by have := ge1 k hu; omega))))
    have hX0 := (hg11.block _ (by omega) (hof _ (.inl (by omega)))).trans hX0
    have hX1 := (hg11.block _ (by omega) (hof _ (.inr (by omega)))).trans hX1
    have hB11 := below_grown hB10 ho5 hg11 (by omega) hB10.size
    have s11 := hg11.size
    clear hg11 hB10 ho5 ho11 hof
    have heq := eqSubView_same q0 q1 t r cn p d av1 av0 T N cp1 cp0 w11 hN.out.symm (Ints.ofRow hr1) (I0 hr0) hN5
    obtain ⟨⟨x0, x1, x2, x3, x4, x5, x6, x7⟩, _⟩ := cells8 hX0
    obtain ⟨⟨y0, y1, y2, y3, y4, y5, y6, y7⟩, _⟩ := cells8 hX1
    go_wp2_with fail
    clear x0 x1 x2 x3 x4 x5 x6 x7 y0 y1 y2 y3 y4 y5 y6 y7
    refine heq.mono ?_
    rintro e w12 ⟨rfl, hb12⟩
    have hB12 := hB11.trans (hb12.mono hB11.size)
    have hr0 := hr0.kept fun k hk => hb12.block k (hr0.lt hk).2
    have hr1 := owned_kept hr1 hb12
    have hX0 := (hb12.block _ (by omega)).trans hX0
    have hX1 := (hb12.block _ (by omega)).trans hX1
    have s12 := hb12.size
    clear hb12 heq hB11
    obtain ⟨⟨y0, y1, y2, y3, y4, y5, y6, y7⟩, _⟩ := cells8 hX1
    go_wp2_with fail
    clear y0 y1 y2 y3 y4 y5 y6 y7
    refine (markSubView_any q0 q1 t r cn p d av1 T N cp1 w6.heap.size w12 hN.out.symm hr1 hN5).mono ?_
    rintro e w13 ⟨rfl, hr13, hg13⟩
    have hof : ∀ k, k < w6.heap.size ∨ w7.heap.size ≤ k → some k ≠ (Value.slice av1 N cp1).ownBlock := fun k hk e => by
      have := ge1 k e.symm
      omega
    have hr0 := hr0.kept fun k hk => hg13.block k (hr0.lt hk).2 (hof k (.inl (by have := lt0 k hk; omega)))
    have hX0 := (hg13.block _ (by omega) (hof _ (.inl (by omega)))).trans hX0
    have hX1 := (hg13.block _ (by omega) (hof _ (.inr (by omega)))).trans hX1
    have hB13 := below_grown hB12 hr1 hg13 (by omega) hB12.size
    have s13 := hg13.size
    clear hg13 hB12 hr1 hof
    obtain ⟨⟨y0, y1, y2, y3, y4, y5, y6, y7⟩, _⟩ := cells8 hX1
    go_wp2_with fail
    clear y0 y1 y2 y3 y4 y5 y6 y7
    refine (heldSubView_any q0 q1 t r cn p d av1 N cp1 w13 (Ints.ofRow hr13) hN5).mono ?_
    rintro e w14 ⟨rfl, hb14⟩
    have hB14 := hB13.trans (hb14.mono hB13.size)
    have hr0 := hr0.kept fun k hk => hb14.block k (hr0.lt hk).2
    have hX0 := (hb14.block _ (by omega)).trans hX0
    have s14 := hb14.size
    clear hb14 hB13 hr13 hX1
    obtain ⟨c0, c1, c2, c3, c4, c5⟩ := HC.out w14 hB14
    go_wp2_with fail
    refine (toSubConfig_is c.isn c.win c.rto c.mrto c.da c.pe w14).mono ?_
    rintro e w15 ⟨rfl, hb15⟩
    have hB15 := hB14.trans (hb15.mono hB14.size)
    have hr0 := hr0.kept fun k hk => hb15.block k (hr0.lt hk).2
    have hX0 := (hb15.block _ (by omega)).trans hX0
    have s15 := hb15.size
    clear c0 c1 c2 c3 c4 c5 hb15 hB14
    go_wp2_with fail
    refine (toSubEventS_any a es n cap w15 hn (hz.moved hB15) hl).mono ?_
    rintro e w16 ⟨rfl, ho16, hb16⟩
    have hB16 := hB15.trans (hb16.mono hB15.size)
    have hr0 := hr0.kept fun k hk => hb16.block k (hr0.lt hk).2
    have hX0 := (hb16.block _ (by omega)).trans hX0
    have s16 := hb16.size
    clear hb16 hB15
    go_wp2_with fail
    have him := HI.out _ n w16 (Lie3.ofRow hn ho16)
    rw [hn, ← hN.out] at him
    refine him.mono ?_
    rintro e w17 ⟨av2, cp2, rfl, hr2, hb17⟩
    have hB17 := hB16.trans (hb17.mono hB16.size)
    have hr0 := hr0.kept fun k hk => hb17.block k (hr0.lt hk).2
    have hX0 := (hb17.block _ (by omega)).trans hX0
    have s17 := hb17.size
    clear him hb17 hB16 ho16 HI
    obtain ⟨⟨x0, x1, x2, x3, x4, x5, x6, x7⟩, _⟩ := cells8 hX0
    have ne17 : ¬ w4.heap.size = w17.heap.size := by omega
    have ne18 : ¬ w17.heap.size = w4.heap.size := by omega
    have lt17 : w4.heap.size < w17.heap.size := by omega
    have hv17 : Below w17.heap.size w17 (w17.alloc (.cells #[.int .u32 q0, .int .u32 q1, .slice av2 N cp2, .int .i64 t, .int .i64 r, .int .i64 cn, .int .i64 p, .int .i64 d] 54)) := (Below.refl _ _).alloc (Nat.le_refl _) _
    have hBf := hB17.trans (hv17.mono hB17.size)
    have heq := eqSubView_same q0 q1 t r cn p d av2 av0 T N cp2 cp0 _ hN.out.symm (Ints.ofRow (owned_kept hr2 hv17)) (I0 (hr0.kept fun k hk => hv17.block k (hr0.lt hk).2)) hN5
    clear hr2 hr0
    go_wp2_with fail
    refine heq.mono ?_
    rintro e w18 ⟨rfl, hb18⟩
    have hBz := hbW.trans ((hBf.trans (hb18.mono hBf.size)).mono hbW.size)
    clear heq hb18 x0 x1 x2 x3 x4 x5 x6 x7
    go_wp2
    go_ret
    exact ⟨rfl, hBz⟩
  · have hsz := szSubEventS_is a n cap W hm (-1) (.inr ⟨by omega, rfl⟩)
    clear hx hz
    go_enter Try.func6, Try.ntmps6
    go_wp2_with fail
    rw [← hW]
    clear hW
    refine hsz.mono ?_
    rintro e w1 ⟨rfl, rfl⟩
    go_wp2
    go_ret
    exact ⟨rfl, hbW⟩
end Go.Proofs.Ytincfdhfoaimbaa
