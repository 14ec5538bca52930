import Derived.Test.YtgjcdejiolenkaaSpanOps
import Derived.Deep.RegionHeld3
import Derived.Deep.AppendLies
namespace Go.Proofs.Ytgjcdejiolenkaa
open Go.ChangeShapes Go.WideShapes Go.ChangeAt Go.RowKit
set_option linter.unusedVariables false

theorem cut_keep {S : Sp} {p q : Int} {i j : Nat} (hn : Norm S) (pq : p ≤ q) (hi : Place S (fun x => decide (p < x.2)) i) (hj : Place S (fun x => decide (q ≤ x.1)) j) (h : p = q ∨ i = j) : built f2 S (p, q) = S :=
  built_is rfl hn (cut_none (s := (p, q)) hn pq hi hj h)

set_option maxRecDepth 100000 in
set_option maxHeartbeats 8000000 in
theorem implCut_main (S : Sp) (p q : Int) (hf : Fits S) (hl : S.length ≤ 1000) (hn : Norm S) (p0 : 0 ≤ p) (pq : p ≤ q) (q1 : q ≤ 18446744073709551615)
    (a : Option Addr) (cap : Nat) (w : World) (hS : Spans w a S) (hc : S.length ≤ cap) (hm : cap ≤ 9223372036854775807) (hnone : a = none → cap = 0) (T : Sp) (c : Int)
    (hTc : ((built f2 S (p, q)).length ≤ 1000 ∧ T = built f2 S (p, q) ∧ c = 0) ∨ (1000 < (built f2 S (p, q)).length ∧ T = [] ∧ c = 5)) :
    Calls Try.prog 22 #[.slice a S.length cap, .agg #[.int .u64 p, .int .u64 q]] w fun e w' => ∃ av cp, e = .returned (.tuple #[.slice av T.length cp, .int .i64 c]) ∧
      w'.ownsRow w.heap.size 31 2 (.slice av T.length cp) T.length (flat T) ∧ Below w.heap.size w w' := by
  have hb0 : Below w.heap.size w (w.alloc (.cells #[.int .u64 p, .int .u64 q] 31)) := (Below.refl _ _).alloc (Nat.le_refl _) _
  have hS0 := hS.moved hb0
  obtain ⟨x0, x1⟩ := cell_alloc2 w (.int .u64 p) (.int .u64 q) 31 _ rfl
  have HTC : Hid _ := hTc
  clear hTc
  go_enter Try.func22, Try.ntmps22
  go_wp2_with fail
  refine (spansHold_any a S cap p q _ hS0 hf (by omega)).mono ?_
  rintro e w1 ⟨b, rfl, hiff, hb1⟩
  obtain rfl : b = true := hiff.2 ⟨⟨hl, hn⟩, pq⟩
  obtain ⟨W, hWS, hW0, hW1, hB1, hwW⟩ : ∃ W : World, Spans W a S ∧ W.cell? ⟨w.heap.size, 0, none⟩ = some (.int .u64 p) ∧ W.cell? ⟨w.heap.size, 1, none⟩ = some (.int .u64 q) ∧ Below W.heap.size W w1 ∧ Below w.heap.size w W := ⟨_, hS0, x0, x1, hb1, hb0⟩
  have y0 := (hB1.cell (World.block_lt_of_cell? _ _ hW0)).trans hW0
  have y1 := (hB1.cell (World.block_lt_of_cell? _ _ hW1)).trans hW1
  clear hiff hS hS0 hb0 hb1 x0 x1
  go_wp2_with fail
  refine (overlap_any a S cap p q _ (hWS.moved hB1) hf hl hn).mono ?_
  rintro e w2 ⟨i, j, rfl, hi, hj, hb2⟩
  have hB2 := hB1.trans (hb2.mono hB1.size)
  have z0 := (hB2.cell (World.block_lt_of_cell? _ _ hW0)).trans hW0
  have z1 := (hB2.cell (World.block_lt_of_cell? _ _ hW1)).trans hW1
  have hij := overlap_le (s := (p, q)) hn pq hi hj
  have hjl := hj.le
  have hil := hi.le
  clear y0 y1 hB1 hb2
  by_cases hk : p = q ∨ i = j
  · have HB : Hid (built f2 S (p, q) = S) := cut_keep hn pq hi hj hk
    obtain ⟨rfl, rfl⟩ : T = S ∧ c = 0 := by
      rcases HTC.out with ⟨_, h1, h2⟩ | ⟨h0, _, _⟩
      · exact ⟨by rw [h1, HB.out], h2⟩
      · rw [HB.out] at h0; omega
    clear hi hj HTC HB
    by_cases e1 : p = q
    · have b1 : (p == q) = true := by simpa using e1
      subst e1
      go_wp2_with fail
      refine (copySpans_any a _ _ cap rfl _ (hWS.moved hB2) (by omega) hnone).mono ?_
      rintro e w3 ⟨av, cp, rfl, ho, hb3⟩
      go_wp2
      go_ret2
      have hB3 := hB2.trans (hb3.mono hB2.size)
      exact ⟨av, cp, rfl, owned_base ho (by have := hwW.size; have := hB2.size; omega), hwW.trans (hB3.mono hwW.size)⟩
    · have hije : i = j := by omega
      have b1 : (p == q) = false := by simpa using e1
      subst hije
      go_wp2_with fail
      refine (copySpans_any a _ _ cap rfl _ (hWS.moved hB2) (by omega) hnone).mono ?_
      rintro e w3 ⟨av, cp, rfl, ho, hb3⟩
      go_wp2
      go_ret2
      have hB3 := hB2.trans (hb3.mono hB2.size)
      exact ⟨av, cp, rfl, owned_base ho (by have := hwW.size; have := hB2.size; omega), hwW.trans (hB3.mono hwW.size)⟩
  · have hpq : p < q := by omega
    have hlt : i < j := by omega
    have b1 : (p == q) = false := by simp; omega
    have b2 : ((i : Int) == (j : Int)) = false := by simp; omega
    have hi2 : i < S.length := by omega
    have hj2 : j - 1 < S.length := by omega
    rcases hWS with h0 | ⟨b, off, rfl, hcc⟩
    · simp [h0] at hi2
    have hWS : Spans W (some ⟨b, off, none⟩) S := .inr ⟨b, off, rfl, hcc⟩
    obtain ⟨c1, d1, hn1, c0, c0', _, _, q2, _⟩ := Spans.at hf hcc hi2
    obtain ⟨c2, d2, hn2, _, _, e0, e0', _, q5⟩ := Spans.at hf hcc hj2
    have hcut := cut_is (s := (p, q)) hn hpq hi hj hlt hj2 _ _ rfl rfl
    have HJ0 : Hid (built f2 S (p, q) = S.take i ++ (if c1 < p then [(c1, p)] else []) ++ (if q < d2 then [(q, d2)] else []) ++ S.drop j) := by
      unfold Hid
      have h := built_is (f := f2) rfl hcut.1 hcut.2
      simp only [hn1.out, hn2.out] at h
      exact h
    obtain ⟨j', rfl⟩ : ∃ j', j = j' + 1 := ⟨j - 1, by omega⟩
    simp only [Nat.add_sub_cancel] at q5
    have jb : (0 : Int) ≤ (j' : Int) := by omega
    have jc : (j' : Int) < (S.length : Int) := by omega
    have jd : (j' : Int) + 1 - 1 < (S.length : Int) := by omega
    have je : (0 : Int) ≤ (j' : Int) + 1 - 1 := by omega
    have jw : IntKind.i64.wrap ((j' : Int) + 1 - 1) = (j' : Int) := by
      have := wrap_i64_small j' (by omega)
      rwa [show (j' : Int) + 1 - 1 = (j' : Int) by omega]
    have jw2 := wrap_i64_small j' (by omega)
    have ib : (i : Int) < (S.length : Int) := by omega
    have ia : (0 : Int) ≤ (i : Int) := by omega
    obtain ⟨i0, hi0, hz0, hz1, hz2⟩ := info_parts info_span
    have hTc := HTC.out
    clear hcc hcut hn1 hn2 hi hj hk HTC
    go_wp2_with fail
    refine (copySpans_any (some ⟨b, off, none⟩) (S.take i) i cap (by simp; omega) _ (spans_take (hWS.moved hB2) i) (by omega) (by simp)).mono ?_
    rintro e w4 ⟨av, cp, rfl, ho4', hb4⟩
    have ho4 := owned_base ho4' hB2.size
    have hB4 := hB2.trans (hb4.mono hB2.size)
    have ra_w4 := (hB4.cell (World.block_lt_of_cell? W _ q2)).trans q2
    have rb_w4 := (hB4.cell (World.block_lt_of_cell? W _ q5)).trans q5
    have rc_w4 := (hB4.cell (World.block_lt_of_cell? W _ hW0)).trans hW0
    have rd_w4 := (hB4.cell (World.block_lt_of_cell? W _ hW1)).trans hW1
    have sz_w4 := hB4.size
    clear ho4' hb4 hB2 z0 z1
    have HTC : Hid _ := hTc
    clear hTc
    rcases (show (c1 < p ∧ q < d2) ∨ (c1 < p ∧ ¬ q < d2) ∨ (¬ c1 < p ∧ q < d2) ∨ (¬ c1 < p ∧ ¬ q < d2) by omega) with ⟨m1, m2⟩ | ⟨m1, m2⟩ | ⟨m1, m2⟩ | ⟨m1, m2⟩
    all_goals have hTc := HTC.out
    all_goals clear HTC
    · have g1 : decide (c1 < p) = true := by simp; omega
      have g2 : decide (q < d2) = true := by simp; omega
      have HJ : Hid (built f2 S (p, q) = S.take i ++ [(c1, p)] ++ [(q, d2)] ++ S.drop (j' + 1)) := by unfold Hid; rw [HJ0.out, if_pos (by omega), if_pos (by omega)]
      have hL : Hid ((built f2 S (p, q)).length = ((i + 1) + 1) + (S.length - (j' + 1))) := by unfold Hid; rw [HJ.out]; simp; omega
      clear HJ0
      rcases hTc with ⟨hlen, rfl, rfl⟩ | ⟨hlen, rfl, rfl⟩
      · go_wp2
        go_quiet (fail)
        obtain ⟨w5, hww5⟩ : ∃ z, z = w4.drewN nq := ⟨_, rfl⟩
        rw [← hww5]
        have ho5 : w5.ownsRow W.heap.size 31 2 (.slice av i cp) i (flat (S.take i)) := by rw [hww5]; exact ho4
        have hB5 : Below W.heap.size W w5 := by rw [hww5]; exact drewsN hB4 _
        clear hww5 ho4 hB4
        have ra_w5 := (hB5.cell (World.block_lt_of_cell? W _ q2)).trans q2
        have rb_w5 := (hB5.cell (World.block_lt_of_cell? W _ q5)).trans q5
        have rc_w5 := (hB5.cell (World.block_lt_of_cell? W _ hW0)).trans hW0
        have rd_w5 := (hB5.cell (World.block_lt_of_cell? W _ hW1)).trans hW1
        have sz_w5 := hB5.size
        go_wp2
        go_region_held3 (fun w' => w'.cell? ⟨b, off + i * 2, none⟩ = some (.int .u64 c1) ∧ w'.cell? ⟨w.heap.size, 0, none⟩ = some (.int .u64 p))
          (first | go_keep | exact ⟨by assumption, by assumption⟩)
          ((refine step_append_lies _ (by rfl) _ _ _ (by rfl) W.heap.size 31 i0 _ 2 16 Try.underlying29 hi0 hz0 hz1 hz2 rfl (by omega) _ i (flat (S.take i)) (by rfl) ((ho5.alloc _).drew) ⟨w5.heap.size, 0, none⟩ 1 1 [.int .u64 c1, .int .u64 p] (by rfl) (by rfl) (World.news_of_block (cs := #[.int .u64 c1, .int .u64 p]) (t := 31) (fr := (0, 0)) (heap_alloc_new w5 _)) (by simp [Value.oneCell']) (by omega) (by unfold maxLen; omega) (by omega) (by simp; omega) (w5.heap.size + 1) (by simp) ?_; intro g6 c6 w6 ho6' hg_w6 hat_w6 hgl_w6; have hB6 := below_grown (hB5.alloc sz_w5 _).drew (ho5.alloc _).drew hg_w6 (Nat.le_refl _) (by simp; omega); have ka := (hB6.cell (World.block_lt_of_cell? W _ q2)).trans q2; have kb := (hB6.cell (World.block_lt_of_cell? W _ q5)).trans q5; have kc := (hB6.cell (World.block_lt_of_cell? W _ hW0)).trans hW0; have kd := (hB6.cell (World.block_lt_of_cell? W _ hW1)).trans hW1))
        have ho6 : w6.ownsRow W.heap.size 31 2 (.slice (some ⟨g6, 0, none⟩) (i + 1) c6) (i + 1) (flat ((S.take i) ++ [(c1, p)])) := by rw [flat_append, flat_one]; exact ho6'
        clear ka kb kc kd ho5 hB5 ho6'
        have ra_w6 := (hB6.cell (World.block_lt_of_cell? W _ q2)).trans q2
        have rb_w6 := (hB6.cell (World.block_lt_of_cell? W _ q5)).trans q5
        have rc_w6 := (hB6.cell (World.block_lt_of_cell? W _ hW0)).trans hW0
        have rd_w6 := (hB6.cell (World.block_lt_of_cell? W _ hW1)).trans hW1
        have sz_w6 := hB6.size
        go_wp2
        go_quiet (fail)
        obtain ⟨w7, hww7⟩ : ∃ z, z = w6.drewN nq := ⟨_, rfl⟩
        rw [← hww7]
        have ho7 : w7.ownsRow W.heap.size 31 2 (.slice (some ⟨g6, 0, none⟩) (i + 1) c6) (i + 1) (flat (S.take i ++ [(c1, p)])) := by rw [hww7]; exact ho6
        have hB7 : Below W.heap.size W w7 := by rw [hww7]; exact drewsN hB6 _
        clear hww7 ho6 hB6
        have ra_w7 := (hB7.cell (World.block_lt_of_cell? W _ q2)).trans q2
        have rb_w7 := (hB7.cell (World.block_lt_of_cell? W _ q5)).trans q5
        have rc_w7 := (hB7.cell (World.block_lt_of_cell? W _ hW0)).trans hW0
        have rd_w7 := (hB7.cell (World.block_lt_of_cell? W _ hW1)).trans hW1
        have sz_w7 := hB7.size
        go_wp2
        go_region_held3 (fun w' => w'.cell? ⟨w.heap.size, 1, none⟩ = some (.int .u64 q) ∧ w'.cell? ⟨b, off + j' * 2 + 1, none⟩ = some (.int .u64 d2))
          (first | go_keep | exact ⟨by assumption, by assumption⟩)
          ((refine step_append_lies _ (by rfl) _ _ _ (by rfl) W.heap.size 31 i0 _ 2 16 Try.underlying29 hi0 hz0 hz1 hz2 rfl (by omega) _ (i + 1) (flat (S.take i ++ [(c1, p)])) (by rfl) ((ho7.alloc _).drew) ⟨w7.heap.size, 0, none⟩ 1 1 [.int .u64 q, .int .u64 d2] (by rfl) (by rfl) (World.news_of_block (cs := #[.int .u64 q, .int .u64 d2]) (t := 31) (fr := (0, 0)) (heap_alloc_new w7 _)) (by simp [Value.oneCell']) (by omega) (by unfold maxLen; omega) (by omega) (by simp; omega) (w7.heap.size + 1) (by simp) ?_; intro g8 c8 w8 ho8' hg_w8 hat_w8 hgl_w8; have hB8 := below_grown (hB7.alloc sz_w7 _).drew (ho7.alloc _).drew hg_w8 (Nat.le_refl _) (by simp; omega); have ka := (hB8.cell (World.block_lt_of_cell? W _ q2)).trans q2; have kb := (hB8.cell (World.block_lt_of_cell? W _ q5)).trans q5; have kc := (hB8.cell (World.block_lt_of_cell? W _ hW0)).trans hW0; have kd := (hB8.cell (World.block_lt_of_cell? W _ hW1)).trans hW1))
        have ho8 : w8.ownsRow W.heap.size 31 2 (.slice (some ⟨g8, 0, none⟩) ((i + 1) + 1) c8) ((i + 1) + 1) (flat ((S.take i ++ [(c1, p)]) ++ [(q, d2)])) := by rw [flat_append, flat_one]; exact ho8'
        clear ka kb kc kd ho7 hB7 ho8'
        have ra_w8 := (hB8.cell (World.block_lt_of_cell? W _ q2)).trans q2
        have rb_w8 := (hB8.cell (World.block_lt_of_cell? W _ q5)).trans q5
        have rc_w8 := (hB8.cell (World.block_lt_of_cell? W _ hW0)).trans hW0
        have rd_w8 := (hB8.cell (World.block_lt_of_cell? W _ hW1)).trans hW1
        have sz_w8 := hB8.size
        go_wp2_with (at_builtin; refine wpList_appT _ rfl (.tmp 75) (.tmp 78) rfl W.heap.size _ ((i + 1) + 1) _ ((S.take i ++ [(c1, p)]) ++ [(q, d2)]) (by simp; omega) rfl ho8 _ (S.drop (j' + 1)) _ _ (by simp) rfl (by intro h; split at h <;> cases h) (by split <;> first | exact spans_none_left (by omega) | exact spans_drop (hWS.moved hB8) _) (by omega) (by omega) ?_; intro a9 c9 w9 ho9 hg9; have hB9 := below_grown hB8 ho8 hg9 (Nat.le_refl _) sz_w8)
        all_goals
          refine (limit_ok _ _ _ _ (by have := hL.out; omega)).mono ?_
          rintro e w10 ⟨rfl, rfl⟩
          go_wp2
          go_ret2
          exact ⟨a9, c9, by rw [hL.out]; rfl, by rw [hL.out, HJ.out]; exact owned_base (by simpa using ho9) hwW.size, hwW.trans (hB9.mono hwW.size)⟩
      · go_wp2
        go_quiet (fail)
        obtain ⟨w5, hww5⟩ : ∃ z, z = w4.drewN nq := ⟨_, rfl⟩
        rw [← hww5]
        have ho5 : w5.ownsRow W.heap.size 31 2 (.slice av i cp) i (flat (S.take i)) := by rw [hww5]; exact ho4
        have hB5 : Below W.heap.size W w5 := by rw [hww5]; exact drewsN hB4 _
        clear hww5 ho4 hB4
        have ra_w5 := (hB5.cell (World.block_lt_of_cell? W _ q2)).trans q2
        have rb_w5 := (hB5.cell (World.block_lt_of_cell? W _ q5)).trans q5
        have rc_w5 := (hB5.cell (World.block_lt_of_cell? W _ hW0)).trans hW0
        have rd_w5 := (hB5.cell (World.block_lt_of_cell? W _ hW1)).trans hW1
        have sz_w5 := hB5.size
        go_wp2
        go_region_held3 (fun w' => w'.cell? ⟨b, off + i * 2, none⟩ = some (.int .u64 c1) ∧ w'.cell? ⟨w.heap.size, 0, none⟩ = some (.int .u64 p))
          (first | go_keep | exact ⟨by assumption, by assumption⟩)
          ((refine step_append_lies _ (by rfl) _ _ _ (by rfl) W.heap.size 31 i0 _ 2 16 Try.underlying29 hi0 hz0 hz1 hz2 rfl (by omega) _ i (flat (S.take i)) (by rfl) ((ho5.alloc _).drew) ⟨w5.heap.size, 0, none⟩ 1 1 [.int .u64 c1, .int .u64 p] (by rfl) (by rfl) (World.news_of_block (cs := #[.int .u64 c1, .int .u64 p]) (t := 31) (fr := (0, 0)) (heap_alloc_new w5 _)) (by simp [Value.oneCell']) (by omega) (by unfold maxLen; omega) (by omega) (by simp; omega) (w5.heap.size + 1) (by simp) ?_; intro g6 c6 w6 ho6' hg_w6 hat_w6 hgl_w6; have hB6 := below_grown (hB5.alloc sz_w5 _).drew (ho5.alloc _).drew hg_w6 (Nat.le_refl _) (by simp; omega); have ka := (hB6.cell (World.block_lt_of_cell? W _ q2)).trans q2; have kb := (hB6.cell (World.block_lt_of_cell? W _ q5)).trans q5; have kc := (hB6.cell (World.block_lt_of_cell? W _ hW0)).trans hW0; have kd := (hB6.cell (World.block_lt_of_cell? W _ hW1)).trans hW1))
        have ho6 : w6.ownsRow W.heap.size 31 2 (.slice (some ⟨g6, 0, none⟩) (i + 1) c6) (i + 1) (flat ((S.take i) ++ [(c1, p)])) := by rw [flat_append, flat_one]; exact ho6'
        clear ka kb kc kd ho5 hB5 ho6'
        have ra_w6 := (hB6.cell (World.block_lt_of_cell? W _ q2)).trans q2
        have rb_w6 := (hB6.cell (World.block_lt_of_cell? W _ q5)).trans q5
        have rc_w6 := (hB6.cell (World.block_lt_of_cell? W _ hW0)).trans hW0
        have rd_w6 := (hB6.cell (World.block_lt_of_cell? W _ hW1)).trans hW1
        have sz_w6 := hB6.size
        go_wp2
        go_quiet (fail)
        obtain ⟨w7, hww7⟩ : ∃ z, z = w6.drewN nq := ⟨_, rfl⟩
        rw [← hww7]
        have ho7 : w7.ownsRow W.heap.size 31 2 (.slice (some ⟨g6, 0, none⟩) (i + 1) c6) (i + 1) (flat (S.take i ++ [(c1, p)])) := by rw [hww7]; exact ho6
        have hB7 : Below W.heap.size W w7 := by rw [hww7]; exact drewsN hB6 _
        clear hww7 ho6 hB6
        have ra_w7 := (hB7.cell (World.block_lt_of_cell? W _ q2)).trans q2
        have rb_w7 := (hB7.cell (World.block_lt_of_cell? W _ q5)).trans q5
        have rc_w7 := (hB7.cell (World.block_lt_of_cell? W _ hW0)).trans hW0
        have rd_w7 := (hB7.cell (World.block_lt_of_cell? W _ hW1)).trans hW1
        have sz_w7 := hB7.size
        go_wp2
        go_region_held3 (fun w' => w'.cell? ⟨w.heap.size, 1, none⟩ = some (.int .u64 q) ∧ w'.cell? ⟨b, off + j' * 2 + 1, none⟩ = some (.int .u64 d2))
          (first | go_keep | exact ⟨by assumption, by assumption⟩)
          ((refine step_append_lies _ (by rfl) _ _ _ (by rfl) W.heap.size 31 i0 _ 2 16 Try.underlying29 hi0 hz0 hz1 hz2 rfl (by omega) _ (i + 1) (flat (S.take i ++ [(c1, p)])) (by rfl) ((ho7.alloc _).drew) ⟨w7.heap.size, 0, none⟩ 1 1 [.int .u64 q, .int .u64 d2] (by rfl) (by rfl) (World.news_of_block (cs := #[.int .u64 q, .int .u64 d2]) (t := 31) (fr := (0, 0)) (heap_alloc_new w7 _)) (by simp [Value.oneCell']) (by omega) (by unfold maxLen; omega) (by omega) (by simp; omega) (w7.heap.size + 1) (by simp) ?_; intro g8 c8 w8 ho8' hg_w8 hat_w8 hgl_w8; have hB8 := below_grown (hB7.alloc sz_w7 _).drew (ho7.alloc _).drew hg_w8 (Nat.le_refl _) (by simp; omega); have ka := (hB8.cell (World.block_lt_of_cell? W _ q2)).trans q2; have kb := (hB8.cell (World.block_lt_of_cell? W _ q5)).trans q5; have kc := (hB8.cell (World.block_lt_of_cell? W _ hW0)).trans hW0; have kd := (hB8.cell (World.block_lt_of_cell? W _ hW1)).trans hW1))
        have ho8 : w8.ownsRow W.heap.size 31 2 (.slice (some ⟨g8, 0, none⟩) ((i + 1) + 1) c8) ((i + 1) + 1) (flat ((S.take i ++ [(c1, p)]) ++ [(q, d2)])) := by rw [flat_append, flat_one]; exact ho8'
        clear ka kb kc kd ho7 hB7 ho8'
        have ra_w8 := (hB8.cell (World.block_lt_of_cell? W _ q2)).trans q2
        have rb_w8 := (hB8.cell (World.block_lt_of_cell? W _ q5)).trans q5
        have rc_w8 := (hB8.cell (World.block_lt_of_cell? W _ hW0)).trans hW0
        have rd_w8 := (hB8.cell (World.block_lt_of_cell? W _ hW1)).trans hW1
        have sz_w8 := hB8.size
        go_wp2_with (at_builtin; refine wpList_appT _ rfl (.tmp 75) (.tmp 78) rfl W.heap.size _ ((i + 1) + 1) _ ((S.take i ++ [(c1, p)]) ++ [(q, d2)]) (by simp; omega) rfl ho8 _ (S.drop (j' + 1)) _ _ (by simp) rfl (by intro h; split at h <;> cases h) (by split <;> first | exact spans_none_left (by omega) | exact spans_drop (hWS.moved hB8) _) (by omega) (by omega) ?_; intro a9 c9 w9 ho9 hg9; have hB9 := below_grown hB8 ho8 hg9 (Nat.le_refl _) sz_w8)
        all_goals
          refine (limit_no _ _ _ _ (by have := hL.out; omega) (by omega)).mono ?_
          rintro e w10 ⟨rfl, rfl⟩
          go_wp2
          go_ret2
          exact ⟨none, 0, rfl, World.ownsRow_nil _ _ _ _, hwW.trans (hB9.mono hwW.size)⟩
    · have g1 : decide (c1 < p) = true := by simp; omega
      have g2 : decide (q < d2) = false := by simp; omega
      have HJ : Hid (built f2 S (p, q) = S.take i ++ [(c1, p)] ++ S.drop (j' + 1)) := by unfold Hid; rw [HJ0.out, if_pos (by omega), if_neg (by omega)]; simp
      have hL : Hid ((built f2 S (p, q)).length = (i + 1) + (S.length - (j' + 1))) := by unfold Hid; rw [HJ.out]; simp; omega
      clear HJ0
      rcases hTc with ⟨hlen, rfl, rfl⟩ | ⟨hlen, rfl, rfl⟩
      · go_wp2
        go_quiet (fail)
        obtain ⟨w5, hww5⟩ : ∃ z, z = w4.drewN nq := ⟨_, rfl⟩
        rw [← hww5]
        have ho5 : w5.ownsRow W.heap.size 31 2 (.slice av i cp) i (flat (S.take i)) := by rw [hww5]; exact ho4
        have hB5 : Below W.heap.size W w5 := by rw [hww5]; exact drewsN hB4 _
        clear hww5 ho4 hB4
        have ra_w5 := (hB5.cell (World.block_lt_of_cell? W _ q2)).trans q2
        have rb_w5 := (hB5.cell (World.block_lt_of_cell? W _ q5)).trans q5
        have rc_w5 := (hB5.cell (World.block_lt_of_cell? W _ hW0)).trans hW0
        have rd_w5 := (hB5.cell (World.block_lt_of_cell? W _ hW1)).trans hW1
        have sz_w5 := hB5.size
        go_wp2
        go_region_held3 (fun w' => w'.cell? ⟨b, off + i * 2, none⟩ = some (.int .u64 c1) ∧ w'.cell? ⟨w.heap.size, 0, none⟩ = some (.int .u64 p))
          (first | go_keep | exact ⟨by assumption, by assumption⟩)
          ((refine step_append_lies _ (by rfl) _ _ _ (by rfl) W.heap.size 31 i0 _ 2 16 Try.underlying29 hi0 hz0 hz1 hz2 rfl (by omega) _ i (flat (S.take i)) (by rfl) ((ho5.alloc _).drew) ⟨w5.heap.size, 0, none⟩ 1 1 [.int .u64 c1, .int .u64 p] (by rfl) (by rfl) (World.news_of_block (cs := #[.int .u64 c1, .int .u64 p]) (t := 31) (fr := (0, 0)) (heap_alloc_new w5 _)) (by simp [Value.oneCell']) (by omega) (by unfold maxLen; omega) (by omega) (by simp; omega) (w5.heap.size + 1) (by simp) ?_; intro g6 c6 w6 ho6' hg_w6 hat_w6 hgl_w6; have hB6 := below_grown (hB5.alloc sz_w5 _).drew (ho5.alloc _).drew hg_w6 (Nat.le_refl _) (by simp; omega); have ka := (hB6.cell (World.block_lt_of_cell? W _ q2)).trans q2; have kb := (hB6.cell (World.block_lt_of_cell? W _ q5)).trans q5; have kc := (hB6.cell (World.block_lt_of_cell? W _ hW0)).trans hW0; have kd := (hB6.cell (World.block_lt_of_cell? W _ hW1)).trans hW1))
        have ho6 : w6.ownsRow W.heap.size 31 2 (.slice (some ⟨g6, 0, none⟩) (i + 1) c6) (i + 1) (flat ((S.take i) ++ [(c1, p)])) := by rw [flat_append, flat_one]; exact ho6'
        clear ka kb kc kd ho5 hB5 ho6'
        have ra_w6 := (hB6.cell (World.block_lt_of_cell? W _ q2)).trans q2
        have rb_w6 := (hB6.cell (World.block_lt_of_cell? W _ q5)).trans q5
        have rc_w6 := (hB6.cell (World.block_lt_of_cell? W _ hW0)).trans hW0
        have rd_w6 := (hB6.cell (World.block_lt_of_cell? W _ hW1)).trans hW1
        have sz_w6 := hB6.size
        go_wp2
        go_quiet (fail)
        obtain ⟨w7, hww7⟩ : ∃ z, z = w6.drewN nq := ⟨_, rfl⟩
        rw [← hww7]
        have ho7 : w7.ownsRow W.heap.size 31 2 (.slice (some ⟨g6, 0, none⟩) (i + 1) c6) (i + 1) (flat (S.take i ++ [(c1, p)])) := by rw [hww7]; exact ho6
        have hB7 : Below W.heap.size W w7 := by rw [hww7]; exact drewsN hB6 _
        clear hww7 ho6 hB6
        have ra_w7 := (hB7.cell (World.block_lt_of_cell? W _ q2)).trans q2
        have rb_w7 := (hB7.cell (World.block_lt_of_cell? W _ q5)).trans q5
        have rc_w7 := (hB7.cell (World.block_lt_of_cell? W _ hW0)).trans hW0
        have rd_w7 := (hB7.cell (World.block_lt_of_cell? W _ hW1)).trans hW1
        have sz_w7 := hB7.size
        go_wp2_with (at_builtin; refine wpList_appT _ rfl (.tmp 75) (.tmp 78) rfl W.heap.size _ (i + 1) _ (S.take i ++ [(c1, p)]) (by simp; omega) rfl ho7 _ (S.drop (j' + 1)) _ _ (by simp) rfl (by intro h; split at h <;> cases h) (by split <;> first | exact spans_none_left (by omega) | exact spans_drop (hWS.moved hB7) _) (by omega) (by omega) ?_; intro a9 c9 w9 ho9 hg9; have hB9 := below_grown hB7 ho7 hg9 (Nat.le_refl _) sz_w7)
        all_goals
          refine (limit_ok _ _ _ _ (by have := hL.out; omega)).mono ?_
          rintro e w10 ⟨rfl, rfl⟩
          go_wp2
          go_ret2
          exact ⟨a9, c9, by rw [hL.out]; rfl, by rw [hL.out, HJ.out]; exact owned_base (by simpa using ho9) hwW.size, hwW.trans (hB9.mono hwW.size)⟩
      · go_wp2
        go_quiet (fail)
        obtain ⟨w5, hww5⟩ : ∃ z, z = w4.drewN nq := ⟨_, rfl⟩
        rw [← hww5]
        have ho5 : w5.ownsRow W.heap.size 31 2 (.slice av i cp) i (flat (S.take i)) := by rw [hww5]; exact ho4
        have hB5 : Below W.heap.size W w5 := by rw [hww5]; exact drewsN hB4 _
        clear hww5 ho4 hB4
        have ra_w5 := (hB5.cell (World.block_lt_of_cell? W _ q2)).trans q2
        have rb_w5 := (hB5.cell (World.block_lt_of_cell? W _ q5)).trans q5
        have rc_w5 := (hB5.cell (World.block_lt_of_cell? W _ hW0)).trans hW0
        have rd_w5 := (hB5.cell (World.block_lt_of_cell? W _ hW1)).trans hW1
        have sz_w5 := hB5.size
        go_wp2
        go_region_held3 (fun w' => w'.cell? ⟨b, off + i * 2, none⟩ = some (.int .u64 c1) ∧ w'.cell? ⟨w.heap.size, 0, none⟩ = some (.int .u64 p))
          (first | go_keep | exact ⟨by assumption, by assumption⟩)
          ((refine step_append_lies _ (by rfl) _ _ _ (by rfl) W.heap.size 31 i0 _ 2 16 Try.underlying29 hi0 hz0 hz1 hz2 rfl (by omega) _ i (flat (S.take i)) (by rfl) ((ho5.alloc _).drew) ⟨w5.heap.size, 0, none⟩ 1 1 [.int .u64 c1, .int .u64 p] (by rfl) (by rfl) (World.news_of_block (cs := #[.int .u64 c1, .int .u64 p]) (t := 31) (fr := (0, 0)) (heap_alloc_new w5 _)) (by simp [Value.oneCell']) (by omega) (by unfold maxLen; omega) (by omega) (by simp; omega) (w5.heap.size + 1) (by simp) ?_; intro g6 c6 w6 ho6' hg_w6 hat_w6 hgl_w6; have hB6 := below_grown (hB5.alloc sz_w5 _).drew (ho5.alloc _).drew hg_w6 (Nat.le_refl _) (by simp; omega); have ka := (hB6.cell (World.block_lt_of_cell? W _ q2)).trans q2; have kb := (hB6.cell (World.block_lt_of_cell? W _ q5)).trans q5; have kc := (hB6.cell (World.block_lt_of_cell? W _ hW0)).trans hW0; have kd := (hB6.cell (World.block_lt_of_cell? W _ hW1)).trans hW1))
        have ho6 : w6.ownsRow W.heap.size 31 2 (.slice (some ⟨g6, 0, none⟩) (i + 1) c6) (i + 1) (flat ((S.take i) ++ [(c1, p)])) := by rw [flat_append, flat_one]; exact ho6'
        clear ka kb kc kd ho5 hB5 ho6'
        have ra_w6 := (hB6.cell (World.block_lt_of_cell? W _ q2)).trans q2
        have rb_w6 := (hB6.cell (World.block_lt_of_cell? W _ q5)).trans q5
        have rc_w6 := (hB6.cell (World.block_lt_of_cell? W _ hW0)).trans hW0
        have rd_w6 := (hB6.cell (World.block_lt_of_cell? W _ hW1)).trans hW1
        have sz_w6 := hB6.size
        go_wp2
        go_quiet (fail)
        obtain ⟨w7, hww7⟩ : ∃ z, z = w6.drewN nq := ⟨_, rfl⟩
        rw [← hww7]
        have ho7 : w7.ownsRow W.heap.size 31 2 (.slice (some ⟨g6, 0, none⟩) (i + 1) c6) (i + 1) (flat (S.take i ++ [(c1, p)])) := by rw [hww7]; exact ho6
        have hB7 : Below W.heap.size W w7 := by rw [hww7]; exact drewsN hB6 _
        clear hww7 ho6 hB6
        have ra_w7 := (hB7.cell (World.block_lt_of_cell? W _ q2)).trans q2
        have rb_w7 := (hB7.cell (World.block_lt_of_cell? W _ q5)).trans q5
        have rc_w7 := (hB7.cell (World.block_lt_of_cell? W _ hW0)).trans hW0
        have rd_w7 := (hB7.cell (World.block_lt_of_cell? W _ hW1)).trans hW1
        have sz_w7 := hB7.size
        go_wp2_with (at_builtin; refine wpList_appT _ rfl (.tmp 75) (.tmp 78) rfl W.heap.size _ (i + 1) _ (S.take i ++ [(c1, p)]) (by simp; omega) rfl ho7 _ (S.drop (j' + 1)) _ _ (by simp) rfl (by intro h; split at h <;> cases h) (by split <;> first | exact spans_none_left (by omega) | exact spans_drop (hWS.moved hB7) _) (by omega) (by omega) ?_; intro a9 c9 w9 ho9 hg9; have hB9 := below_grown hB7 ho7 hg9 (Nat.le_refl _) sz_w7)
        all_goals
          refine (limit_no _ _ _ _ (by have := hL.out; omega) (by omega)).mono ?_
          rintro e w10 ⟨rfl, rfl⟩
          go_wp2
          go_ret2
          exact ⟨none, 0, rfl, World.ownsRow_nil _ _ _ _, hwW.trans (hB9.mono hwW.size)⟩
    · have g1 : decide (c1 < p) = false := by simp; omega
      have g2 : decide (q < d2) = true := by simp; omega
      have HJ : Hid (built f2 S (p, q) = S.take i ++ [(q, d2)] ++ S.drop (j' + 1)) := by unfold Hid; rw [HJ0.out, if_neg (by omega), if_pos (by omega)]; simp
      have hL : Hid ((built f2 S (p, q)).length = (i + 1) + (S.length - (j' + 1))) := by unfold Hid; rw [HJ.out]; simp; omega
      clear HJ0
      rcases hTc with ⟨hlen, rfl, rfl⟩ | ⟨hlen, rfl, rfl⟩
      · go_wp2
        go_quiet (fail)
        obtain ⟨w5, hww5⟩ : ∃ z, z = w4.drewN nq := ⟨_, rfl⟩
        rw [← hww5]
        have ho5 : w5.ownsRow W.heap.size 31 2 (.slice av i cp) i (flat (S.take i)) := by rw [hww5]; exact ho4
        have hB5 : Below W.heap.size W w5 := by rw [hww5]; exact drewsN hB4 _
        clear hww5 ho4 hB4
        have ra_w5 := (hB5.cell (World.block_lt_of_cell? W _ q2)).trans q2
        have rb_w5 := (hB5.cell (World.block_lt_of_cell? W _ q5)).trans q5
        have rc_w5 := (hB5.cell (World.block_lt_of_cell? W _ hW0)).trans hW0
        have rd_w5 := (hB5.cell (World.block_lt_of_cell? W _ hW1)).trans hW1
        have sz_w5 := hB5.size
        go_wp2
        go_quiet (fail)
        obtain ⟨w7, hww7⟩ : ∃ z, z = w5.drewN nq := ⟨_, rfl⟩
        rw [← hww7]
        have ho7 : w7.ownsRow W.heap.size 31 2 (.slice av i cp) i (flat (S.take i)) := by rw [hww7]; exact ho5
        have hB7 : Below W.heap.size W w7 := by rw [hww7]; exact drewsN hB5 _
        clear hww7 ho5 hB5
        have ra_w7 := (hB7.cell (World.block_lt_of_cell? W _ q2)).trans q2
        have rb_w7 := (hB7.cell (World.block_lt_of_cell? W _ q5)).trans q5
        have rc_w7 := (hB7.cell (World.block_lt_of_cell? W _ hW0)).trans hW0
        have rd_w7 := (hB7.cell (World.block_lt_of_cell? W _ hW1)).trans hW1
        have sz_w7 := hB7.size
        go_wp2
        go_region_held3 (fun w' => w'.cell? ⟨w.heap.size, 1, none⟩ = some (.int .u64 q) ∧ w'.cell? ⟨b, off + j' * 2 + 1, none⟩ = some (.int .u64 d2))
          (first | go_keep | exact ⟨by assumption, by assumption⟩)
          ((refine step_append_lies _ (by rfl) _ _ _ (by rfl) W.heap.size 31 i0 _ 2 16 Try.underlying29 hi0 hz0 hz1 hz2 rfl (by omega) _ i (flat (S.take i)) (by rfl) ((ho7.alloc _).drew) ⟨w7.heap.size, 0, none⟩ 1 1 [.int .u64 q, .int .u64 d2] (by rfl) (by rfl) (World.news_of_block (cs := #[.int .u64 q, .int .u64 d2]) (t := 31) (fr := (0, 0)) (heap_alloc_new w7 _)) (by simp [Value.oneCell']) (by omega) (by unfold maxLen; omega) (by omega) (by simp; omega) (w7.heap.size + 1) (by simp) ?_; intro g8 c8 w8 ho8' hg_w8 hat_w8 hgl_w8; have hB8 := below_grown (hB7.alloc sz_w7 _).drew (ho7.alloc _).drew hg_w8 (Nat.le_refl _) (by simp; omega); have ka := (hB8.cell (World.block_lt_of_cell? W _ q2)).trans q2; have kb := (hB8.cell (World.block_lt_of_cell? W _ q5)).trans q5; have kc := (hB8.cell (World.block_lt_of_cell? W _ hW0)).trans hW0; have kd := (hB8.cell (World.block_lt_of_cell? W _ hW1)).trans hW1))
        have ho8 : w8.ownsRow W.heap.size 31 2 (.slice (some ⟨g8, 0, none⟩) (i + 1) c8) (i + 1) (flat ((S.take i) ++ [(q, d2)])) := by rw [flat_append, flat_one]; exact ho8'
        clear ka kb kc kd ho7 hB7 ho8'
        have ra_w8 := (hB8.cell (World.block_lt_of_cell? W _ q2)).trans q2
        have rb_w8 := (hB8.cell (World.block_lt_of_cell? W _ q5)).trans q5
        have rc_w8 := (hB8.cell (World.block_lt_of_cell? W _ hW0)).trans hW0
        have rd_w8 := (hB8.cell (World.block_lt_of_cell? W _ hW1)).trans hW1
        have sz_w8 := hB8.size
        go_wp2_with (at_builtin; refine wpList_appT _ rfl (.tmp 75) (.tmp 78) rfl W.heap.size _ (i + 1) _ ((S.take i) ++ [(q, d2)]) (by simp; omega) rfl ho8 _ (S.drop (j' + 1)) _ _ (by simp) rfl (by intro h; split at h <;> cases h) (by split <;> first | exact spans_none_left (by omega) | exact spans_drop (hWS.moved hB8) _) (by omega) (by omega) ?_; intro a9 c9 w9 ho9 hg9; have hB9 := below_grown hB8 ho8 hg9 (Nat.le_refl _) sz_w8)
        all_goals
          refine (limit_ok _ _ _ _ (by have := hL.out; omega)).mono ?_
          rintro e w10 ⟨rfl, rfl⟩
          go_wp2
          go_ret2
          exact ⟨a9, c9, by rw [hL.out]; rfl, by rw [hL.out, HJ.out]; exact owned_base (by simpa using ho9) hwW.size, hwW.trans (hB9.mono hwW.size)⟩
      · go_wp2
        go_quiet (fail)
        obtain ⟨w5, hww5⟩ : ∃ z, z = w4.drewN nq := ⟨_, rfl⟩
        rw [← hww5]
        have ho5 : w5.ownsRow W.heap.size 31 2 (.slice av i cp) i (flat (S.take i)) := by rw [hww5]; exact ho4
        have hB5 : Below W.heap.size W w5 := by rw [hww5]; exact drewsN hB4 _
        clear hww5 ho4 hB4
        have ra_w5 := (hB5.cell (World.block_lt_of_cell? W _ q2)).trans q2
        have rb_w5 := (hB5.cell (World.block_lt_of_cell? W _ q5)).trans q5
        have rc_w5 := (hB5.cell (World.block_lt_of_cell? W _ hW0)).trans hW0
        have rd_w5 := (hB5.cell (World.block_lt_of_cell? W _ hW1)).trans hW1
        have sz_w5 := hB5.size
        go_wp2
        go_quiet (fail)
        obtain ⟨w7, hww7⟩ : ∃ z, z = w5.drewN nq := ⟨_, rfl⟩
        rw [← hww7]
        have ho7 : w7.ownsRow W.heap.size 31 2 (.slice av i cp) i (flat (S.take i)) := by rw [hww7]; exact ho5
        have hB7 : Below W.heap.size W w7 := by rw [hww7]; exact drewsN hB5 _
        clear hww7 ho5 hB5
        have ra_w7 := (hB7.cell (World.block_lt_of_cell? W _ q2)).trans q2
        have rb_w7 := (hB7.cell (World.block_lt_of_cell? W _ q5)).trans q5
        have rc_w7 := (hB7.cell (World.block_lt_of_cell? W _ hW0)).trans hW0
        have rd_w7 := (hB7.cell (World.block_lt_of_cell? W _ hW1)).trans hW1
        have sz_w7 := hB7.size
        go_wp2
        go_region_held3 (fun w' => w'.cell? ⟨w.heap.size, 1, none⟩ = some (.int .u64 q) ∧ w'.cell? ⟨b, off + j' * 2 + 1, none⟩ = some (.int .u64 d2))
          (first | go_keep | exact ⟨by assumption, by assumption⟩)
          ((refine step_append_lies _ (by rfl) _ _ _ (by rfl) W.heap.size 31 i0 _ 2 16 Try.underlying29 hi0 hz0 hz1 hz2 rfl (by omega) _ i (flat (S.take i)) (by rfl) ((ho7.alloc _).drew) ⟨w7.heap.size, 0, none⟩ 1 1 [.int .u64 q, .int .u64 d2] (by rfl) (by rfl) (World.news_of_block (cs := #[.int .u64 q, .int .u64 d2]) (t := 31) (fr := (0, 0)) (heap_alloc_new w7 _)) (by simp [Value.oneCell']) (by omega) (by unfold maxLen; omega) (by omega) (by simp; omega) (w7.heap.size + 1) (by simp) ?_; intro g8 c8 w8 ho8' hg_w8 hat_w8 hgl_w8; have hB8 := below_grown (hB7.alloc sz_w7 _).drew (ho7.alloc _).drew hg_w8 (Nat.le_refl _) (by simp; omega); have ka := (hB8.cell (World.block_lt_of_cell? W _ q2)).trans q2; have kb := (hB8.cell (World.block_lt_of_cell? W _ q5)).trans q5; have kc := (hB8.cell (World.block_lt_of_cell? W _ hW0)).trans hW0; have kd := (hB8.cell (World.block_lt_of_cell? W _ hW1)).trans hW1))
        have ho8 : w8.ownsRow W.heap.size 31 2 (.slice (some ⟨g8, 0, none⟩) (i + 1) c8) (i + 1) (flat ((S.take i) ++ [(q, d2)])) := by rw [flat_append, flat_one]; exact ho8'
        clear ka kb kc kd ho7 hB7 ho8'
        have ra_w8 := (hB8.cell (World.block_lt_of_cell? W _ q2)).trans q2
        have rb_w8 := (hB8.cell (World.block_lt_of_cell? W _ q5)).trans q5
        have rc_w8 := (hB8.cell (World.block_lt_of_cell? W _ hW0)).trans hW0
        have rd_w8 := (hB8.cell (World.block_lt_of_cell? W _ hW1)).trans hW1
        have sz_w8 := hB8.size
        go_wp2_with (at_builtin; refine wpList_appT _ rfl (.tmp 75) (.tmp 78) rfl W.heap.size _ (i + 1) _ ((S.take i) ++ [(q, d2)]) (by simp; omega) rfl ho8 _ (S.drop (j' + 1)) _ _ (by simp) rfl (by intro h; split at h <;> cases h) (by split <;> first | exact spans_none_left (by omega) | exact spans_drop (hWS.moved hB8) _) (by omega) (by omega) ?_; intro a9 c9 w9 ho9 hg9; have hB9 := below_grown hB8 ho8 hg9 (Nat.le_refl _) sz_w8)
        all_goals
          refine (limit_no _ _ _ _ (by have := hL.out; omega) (by omega)).mono ?_
          rintro e w10 ⟨rfl, rfl⟩
          go_wp2
          go_ret2
          exact ⟨none, 0, rfl, World.ownsRow_nil _ _ _ _, hwW.trans (hB9.mono hwW.size)⟩
    · have g1 : decide (c1 < p) = false := by simp; omega
      have g2 : decide (q < d2) = false := by simp; omega
      have HJ : Hid (built f2 S (p, q) = S.take i ++ S.drop (j' + 1)) := by unfold Hid; rw [HJ0.out, if_neg (by omega), if_neg (by omega)]; simp
      have hL : Hid ((built f2 S (p, q)).length = i + (S.length - (j' + 1))) := by unfold Hid; rw [HJ.out]; simp; omega
      clear HJ0
      rcases hTc with ⟨hlen, rfl, rfl⟩ | ⟨hlen, rfl, rfl⟩
      · go_wp2
        go_quiet (fail)
        obtain ⟨w5, hww5⟩ : ∃ z, z = w4.drewN nq := ⟨_, rfl⟩
        rw [← hww5]
        have ho5 : w5.ownsRow W.heap.size 31 2 (.slice av i cp) i (flat (S.take i)) := by rw [hww5]; exact ho4
        have hB5 : Below W.heap.size W w5 := by rw [hww5]; exact drewsN hB4 _
        clear hww5 ho4 hB4
        have ra_w5 := (hB5.cell (World.block_lt_of_cell? W _ q2)).trans q2
        have rb_w5 := (hB5.cell (World.block_lt_of_cell? W _ q5)).trans q5
        have rc_w5 := (hB5.cell (World.block_lt_of_cell? W _ hW0)).trans hW0
        have rd_w5 := (hB5.cell (World.block_lt_of_cell? W _ hW1)).trans hW1
        have sz_w5 := hB5.size
        go_wp2
        go_quiet (fail)
        obtain ⟨w7, hww7⟩ : ∃ z, z = w5.drewN nq := ⟨_, rfl⟩
        rw [← hww7]
        have ho7 : w7.ownsRow W.heap.size 31 2 (.slice av i cp) i (flat (S.take i)) := by rw [hww7]; exact ho5
        have hB7 : Below W.heap.size W w7 := by rw [hww7]; exact drewsN hB5 _
        clear hww7 ho5 hB5
        have ra_w7 := (hB7.cell (World.block_lt_of_cell? W _ q2)).trans q2
        have rb_w7 := (hB7.cell (World.block_lt_of_cell? W _ q5)).trans q5
        have rc_w7 := (hB7.cell (World.block_lt_of_cell? W _ hW0)).trans hW0
        have rd_w7 := (hB7.cell (World.block_lt_of_cell? W _ hW1)).trans hW1
        have sz_w7 := hB7.size
        go_wp2_with (at_builtin; refine wpList_appT _ rfl (.tmp 75) (.tmp 78) rfl W.heap.size _ i _ (S.take i) (by simp; omega) rfl ho7 _ (S.drop (j' + 1)) _ _ (by simp) rfl (by intro h; split at h <;> cases h) (by split <;> first | exact spans_none_left (by omega) | exact spans_drop (hWS.moved hB7) _) (by omega) (by omega) ?_; intro a9 c9 w9 ho9 hg9; have hB9 := below_grown hB7 ho7 hg9 (Nat.le_refl _) sz_w7)
        all_goals
          refine (limit_ok _ _ _ _ (by have := hL.out; omega)).mono ?_
          rintro e w10 ⟨rfl, rfl⟩
          go_wp2
          go_ret2
          exact ⟨a9, c9, by rw [hL.out]; rfl, by rw [hL.out, HJ.out]; exact owned_base (by simpa using ho9) hwW.size, hwW.trans (hB9.mono hwW.size)⟩
      · go_wp2
        go_quiet (fail)
        obtain ⟨w5, hww5⟩ : ∃ z, z = w4.drewN nq := ⟨_, rfl⟩
        rw [← hww5]
        have ho5 : w5.ownsRow W.heap.size 31 2 (.slice av i cp) i (flat (S.take i)) := by rw [hww5]; exact ho4
        have hB5 : Below W.heap.size W w5 := by rw [hww5]; exact drewsN hB4 _
        clear hww5 ho4 hB4
        have ra_w5 := (hB5.cell (World.block_lt_of_cell? W _ q2)).trans q2
        have rb_w5 := (hB5.cell (World.block_lt_of_cell? W _ q5)).trans q5
        have rc_w5 := (hB5.cell (World.block_lt_of_cell? W _ hW0)).trans hW0
        have rd_w5 := (hB5.cell (World.block_lt_of_cell? W _ hW1)).trans hW1
        have sz_w5 := hB5.size
        go_wp2
        go_quiet (fail)
        obtain ⟨w7, hww7⟩ : ∃ z, z = w5.drewN nq := ⟨_, rfl⟩
        rw [← hww7]
        have ho7 : w7.ownsRow W.heap.size 31 2 (.slice av i cp) i (flat (S.take i)) := by rw [hww7]; exact ho5
        have hB7 : Below W.heap.size W w7 := by rw [hww7]; exact drewsN hB5 _
        clear hww7 ho5 hB5
        have ra_w7 := (hB7.cell (World.block_lt_of_cell? W _ q2)).trans q2
        have rb_w7 := (hB7.cell (World.block_lt_of_cell? W _ q5)).trans q5
        have rc_w7 := (hB7.cell (World.block_lt_of_cell? W _ hW0)).trans hW0
        have rd_w7 := (hB7.cell (World.block_lt_of_cell? W _ hW1)).trans hW1
        have sz_w7 := hB7.size
        go_wp2_with (at_builtin; refine wpList_appT _ rfl (.tmp 75) (.tmp 78) rfl W.heap.size _ i _ (S.take i) (by simp; omega) rfl ho7 _ (S.drop (j' + 1)) _ _ (by simp) rfl (by intro h; split at h <;> cases h) (by split <;> first | exact spans_none_left (by omega) | exact spans_drop (hWS.moved hB7) _) (by omega) (by omega) ?_; intro a9 c9 w9 ho9 hg9; have hB9 := below_grown hB7 ho7 hg9 (Nat.le_refl _) sz_w7)
        all_goals
          refine (limit_no _ _ _ _ (by have := hL.out; omega) (by omega)).mono ?_
          rintro e w10 ⟨rfl, rfl⟩
          go_wp2
          go_ret2
          exact ⟨none, 0, rfl, World.ownsRow_nil _ _ _ _, hwW.trans (hB9.mono hwW.size)⟩
end Go.Proofs.Ytgjcdejiolenkaa
