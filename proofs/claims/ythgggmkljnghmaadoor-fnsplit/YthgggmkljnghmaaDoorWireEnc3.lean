import Derived.Test.YthgggmkljnghmaaDoorWireEnc2
namespace Go.Proofs.YthgggmkljnghmaaDoor
open Go.ChangeShapes Go.WideShapes Go.ChangeAt Go.RowKit
set_option linter.unusedVariables false

set_option maxHeartbeats 4000000 in
theorem ints_four (w : World) (b c d f : Int) (e : TypeId) : Ints .u8 (w.alloc (.cells #[.int .u8 b, .int .u8 c, .int .u8 d, .int .u8 f] e)) (some ⟨w.heap.size, 0, none⟩) [b, c, d, f] := by
  refine .inr ⟨_, 0, rfl, fun i hi => ?_⟩
  match i, hi with
  | 0, _ => simp
  | 1, _ => simp
  | 2, _ => simp
  | 3, _ => simp

theorem SaysE.no {P : Prop} {w w' : World} {e : Ending} (h : SaysE P w e w') (hP : ¬P) : e = .returned (.iface 70 (.agg #[.int .i64 1])) ∧ Below w.heap.size w w' := by
  rcases h with ⟨⟨q, _⟩ | ⟨_, rfl⟩, hb⟩
  · exact absurd q hP
  · exact ⟨rfl, hb⟩

theorem SaysE.yes {P : Prop} {w w' : World} {e : Ending} (h : SaysE P w e w') (hP : P) : e = .returned .nilIface ∧ Below w.heap.size w w' := by
  rcases h with ⟨⟨_, rfl⟩ | ⟨q, _⟩, hb⟩
  · exact ⟨rfl, hb⟩
  · exact absurd hP q

set_option maxHeartbeats 4000000 in
theorem implEncode_bad (k p s o wd : Int) (a : Option Addr) (ys : List Int) (n cap : Nat) (w : World) (k0 : -9223372036854775808 ≤ k) (k1 : k ≤ 9223372036854775807) (pa : -9223372036854775808 ≤ p) (pb : p ≤ 9223372036854775807) (s0 : 0 ≤ s) (s1 : s ≤ 4294967295) (o0 : 0 ≤ o) (o1 : o ≤ 18446744073709551615) (wa : -9223372036854775808 ≤ wd) (wb : wd ≤ 9223372036854775807) (hn : n ≤ 1048576) (hg : Laid w) (hv : ¬Valid k p s o wd n) :
    Calls Tryd.prog 10 #[.agg #[.int .i64 k, .int .i64 p, .int .u32 s, .int .u64 o, .int .i64 wd, .slice a n cap]] w fun e w' => e = .returned (.tuple #[.slice none 0 0, .int .i64 1]) ∧ Below w.heap.size w w' := by
  have hb0 : Below w.heap.size w (w.alloc (.cells #[.int .i64 k, .int .i64 p, .int .u32 s, .int .u64 o, .int .i64 wd, .slice a n cap] 30)) := (Below.refl _ _).alloc (Nat.le_refl _) _
  have hg0 := hg.moved hb0
  go_enter Tryd.func10, Tryd.ntmps10
  go_wp2_with (first
    | (go_at_call 29; refine (checkFrame k p s o wd a n cap _ k0 k1 pa pb s0 s1 o0 o1 wa wb hn).mono ?_; intro e1 w1 h1; obtain ⟨rfl, hb1⟩ := h1.no hv; have hg1 := hg0.moved hb1)
    | (go_at_call 30; refine (codeOf_fault 1 _ hg1).mono ?_; rintro e2 w2 ⟨rfl, hb2⟩))
  go_ret2
  exact ⟨rfl, hb0.trans ((hb1.trans (hb2.mono hb1.size)).mono hb0.size)⟩

set_option maxHeartbeats 8000000 in
theorem implEncode_good (k p s o wd : Int) (a : Option Addr) (ys : List Int) (n cap : Nat) (w : World) (k0 : -9223372036854775808 ≤ k) (k1 : k ≤ 9223372036854775807) (pa : -9223372036854775808 ≤ p) (pb : p ≤ 9223372036854775807) (s0 : 0 ≤ s) (s1 : s ≤ 4294967295) (o0 : 0 ≤ o) (o1 : o ≤ 18446744073709551615) (wa : -9223372036854775808 ≤ wd) (wb : wd ≤ 9223372036854775807) (hn : n ≤ 1048576) (hyl : ys.length = n) (hy : Ints .u8 w a ys) (hyv : ∀ x ∈ ys, 0 ≤ x ∧ x ≤ 255) (hnone : a = none → cap = 0) (hv : Valid k p s o wd n) :
    Calls Tryd.prog 10 #[.agg #[.int .i64 k, .int .i64 p, .int .u32 s, .int .u64 o, .int .i64 wd, .slice a n cap]] w fun e w' => ∃ av' cap', e = .returned (.tuple #[.slice av' (22 + n) cap', .int .i64 0]) ∧ w'.ownsRow w.heap.size 5 1 (.slice av' (22 + n) cap') (22 + n) ((frameBytes k p s o wd ys).map (.int .u8)) ∧ Below w.heap.size w w' := by
  have hb0 : Below w.heap.size w (w.alloc (.cells #[.int .i64 k, .int .i64 p, .int .u32 s, .int .u64 o, .int .i64 wd, .slice a n cap] 30)) := (Below.refl _ _).alloc (Nat.le_refl _) _
  obtain ⟨f0, f1, f2, f3, f4, f5⟩ := cells6 w (.int .i64 k) (.int .i64 p) (.int .u32 s) (.int .u64 o) (.int .i64 wd) (.slice a n cap) 30 _ rfl
  obtain ⟨W, hW⟩ : ∃ W, W = w.alloc (.cells #[.int .i64 k, .int .i64 p, .int .u32 s, .int .u64 o, .int .i64 wd, .slice a n cap] 30) := ⟨_, rfl⟩
  have hWs : W.heap.size = w.heap.size + 1 := by rw [hW]; simp
  rw [← hW] at f0 f1 f2 f3 f4 f5 hb0
  have hv' := hv
  unfold Valid at hv'
  have hn32 : n ≤ 32 := by omega
  go_enter Tryd.func10, Tryd.ntmps10
  go_upto_region 4 with (go_at_call 29; rw [← hW]; refine (checkFrame k p s o wd a n cap _ k0 k1 pa pb s0 s1 o0 o1 wa wb hn).mono ?_; intro e1 w1 h1; obtain ⟨rfl, hb1⟩ := h1.yes hv; have f0_1 := (hb1.cell (World.block_lt_of_cell? W _ f0)).trans f0; have f1_1 := (hb1.cell (World.block_lt_of_cell? W _ f1)).trans f1; have f2_1 := (hb1.cell (World.block_lt_of_cell? W _ f2)).trans f2; have f3_1 := (hb1.cell (World.block_lt_of_cell? W _ f3)).trans f3; have f4_1 := (hb1.cell (World.block_lt_of_cell? W _ f4)).trans f4; have f5_1 := (hb1.cell (World.block_lt_of_cell? W _ f5)).trans f5; have hs1 := hb1.size)
  obtain ⟨i0, hi0, hz0, hz1, hz2⟩ := info_parts info_byte
  go_upto_region 5 with (at_make; refine wpList_make_own _ rfl _ _ 24 rfl W.heap.size 5 i0 (.int .u8 0) 1 Tryd.underlying24 hi0 hz0 hz1 .i64 .i64 _ (22 + n) rfl rfl (by omega) (by rw [hz2]; omega) (by unfold maxLen; omega) hs1 ?_; intro w2 hr1 hg2)
  have hB2 : Below W.heap.size W w2 := hb1.grown hg2 hs1 (by simp)
  clear f0_1 f1_1 f2_1 f3_1 f4_1 f5_1 hg2
  have f0_2 := (hB2.cell (World.block_lt_of_cell? W _ f0)).trans f0; have f1_2 := (hB2.cell (World.block_lt_of_cell? W _ f1)).trans f1; have f2_2 := (hB2.cell (World.block_lt_of_cell? W _ f2)).trans f2; have f3_2 := (hB2.cell (World.block_lt_of_cell? W _ f3)).trans f3; have f4_2 := (hB2.cell (World.block_lt_of_cell? W _ f4)).trans f4; have f5_2 := (hB2.cell (World.block_lt_of_cell? W _ f5)).trans f5
  have hs2 := hB2.size
  have hfour := ints_four w2 213 k p (n : Int) 5
  go_upto_region 6 with (at_builtin; refine wpList_appI _ (by rfl) _ _ (by rfl) W.heap.size _ 0 (22 + n) [] rfl (by rfl) (hr1.alloc _) (some ⟨w2.heap.size, 0, none⟩) [213, k, p, (n : Int)] 4 4 rfl (by rfl) (by simp) hfour (by omega) (by simp; omega) ?_; intro av3 cap3 w3 ho3 hg3; have hB3 := below_grown (hB2.alloc hs2 _) (hr1.alloc _) hg3 (Nat.le_refl _) (by simp; omega); have f0_3 := (hB3.cell (World.block_lt_of_cell? W _ f0)).trans f0; have f1_3 := (hB3.cell (World.block_lt_of_cell? W _ f1)).trans f1; have f2_3 := (hB3.cell (World.block_lt_of_cell? W _ f2)).trans f2; have f3_3 := (hB3.cell (World.block_lt_of_cell? W _ f3)).trans f3; have f4_3 := (hB3.cell (World.block_lt_of_cell? W _ f4)).trans f4; have f5_3 := (hB3.cell (World.block_lt_of_cell? W _ f5)).trans f5; have hs3 := hB3.size)
  have l4 : ([213, k, p, (n : Int)] ++ be s 4).length = 8 := by simp [be_length]
  have l5 : ([213, k, p, (n : Int)] ++ be s 4 ++ be o 8).length = 16 := by simp [be_length]
  have l6 : ([213, k, p, (n : Int)] ++ be s 4 ++ be o 8 ++ be wd 2).length = 18 := by simp [be_length]
  clear f0_2 f1_2 f2_2 f3_2 f4_2 f5_2 hr1 hfour
  go_upto_region 7 with (go_at_call 31; refine (implPut W.heap.size _ 4 cap3 [213, k, p, (n : Int)] s 4 _ s0 (by omega) (by omega) rfl (by omega) ho3 hs3).mono ?_; rintro e4 w4 ⟨av4, cap4, rfl, ho4, hb4⟩; have hB4 := hB3.trans hb4; have f0_4 := (hB4.cell (World.block_lt_of_cell? W _ f0)).trans f0; have f1_4 := (hB4.cell (World.block_lt_of_cell? W _ f1)).trans f1; have f2_4 := (hB4.cell (World.block_lt_of_cell? W _ f2)).trans f2; have f3_4 := (hB4.cell (World.block_lt_of_cell? W _ f3)).trans f3; have f4_4 := (hB4.cell (World.block_lt_of_cell? W _ f4)).trans f4; have f5_4 := (hB4.cell (World.block_lt_of_cell? W _ f5)).trans f5; have hs4 := hB4.size)
  go_upto_region 8 with (go_at_call 31; refine (implPut W.heap.size _ 8 cap4 ([213, k, p, (n : Int)] ++ be s 4) o 8 _ o0 (by omega) (by omega) l4 (by omega) ho4 hs4).mono ?_; rintro e5 w5 ⟨av5, cap5, rfl, ho5, hb5⟩; have hB5 := hB4.trans hb5; have f0_5 := (hB5.cell (World.block_lt_of_cell? W _ f0)).trans f0; have f1_5 := (hB5.cell (World.block_lt_of_cell? W _ f1)).trans f1; have f2_5 := (hB5.cell (World.block_lt_of_cell? W _ f2)).trans f2; have f3_5 := (hB5.cell (World.block_lt_of_cell? W _ f3)).trans f3; have f4_5 := (hB5.cell (World.block_lt_of_cell? W _ f4)).trans f4; have f5_5 := (hB5.cell (World.block_lt_of_cell? W _ f5)).trans f5; have hs5 := hB5.size)
  go_upto_region 9 with (go_at_call 31; refine (implPut W.heap.size _ 16 cap5 ([213, k, p, (n : Int)] ++ be s 4 ++ be o 8) wd 2 _ (by omega) (by omega) (by omega) l5 (by omega) ho5 hs5).mono ?_; rintro e6 w6 ⟨av6, cap6, rfl, ho6, hb6⟩; have hB6 := hB5.trans hb6; have f0_6 := (hB6.cell (World.block_lt_of_cell? W _ f0)).trans f0; have f1_6 := (hB6.cell (World.block_lt_of_cell? W _ f1)).trans f1; have f2_6 := (hB6.cell (World.block_lt_of_cell? W _ f2)).trans f2; have f3_6 := (hB6.cell (World.block_lt_of_cell? W _ f3)).trans f3; have f4_6 := (hB6.cell (World.block_lt_of_cell? W _ f4)).trans f4; have f5_6 := (hB6.cell (World.block_lt_of_cell? W _ f5)).trans f5; have hs6 := hB6.size)
  have hyW : Ints .u8 w6 a ys := (hy.moved hb0).moved hB6
  clear f0_3 f1_3 f2_3 f3_3 f4_3 f5_3 f0_4 f1_4 f2_4 f3_4 f4_4 f5_4 f0_5 f1_5 f2_5 f3_5 f4_5 f5_5 ho3 ho4 ho5
  go_upto_region 10 with (at_builtin; refine wpList_appI _ (by rfl) _ _ (by rfl) W.heap.size av6 18 cap6 ([213, k, p, (n : Int)] ++ be s 4 ++ be o 8 ++ be wd 2) l6 (by rfl) ho6 a ys n cap hyl (by rfl) hnone hyW (by omega) hs6 ?_; intro av7 cap7 w7 ho7 hg7; have hB7 := below_grown hB6 ho6 hg7 (Nat.le_refl _) hs6; have hs7 := hB7.size)
  have hld : ([213, k, p, (n : Int)] ++ be s 4 ++ be o 8 ++ be wd 2) ++ ys = laidDown k p s o wd ys := by unfold laidDown; rw [hyl]
  rw [hld] at ho7
  have hlv : ∀ x ∈ laidDown k p s o wd ys, 0 ≤ x ∧ x ≤ 255 := laidDown_fits hyv (by omega) (by omega) (by omega) (by omega) (by omega)
  have hll : (laidDown k p s o wd ys).length = 18 + n := by unfold laidDown; simp [be_length]; omega
  have hc := crcOf_fits (laidDown k p s o wd ys)
  have hi7 := Ints.row ho7
  have hcr := implCrc av7 (laidDown k p s o wd ys) cap7 w7 hi7 hlv (by omega)
  rw [hll] at hcr
  obtain ⟨z, hz⟩ : ∃ z, Hid (laidDown k p s o wd ys = z) := ⟨_, rfl⟩
  rw [hz.out] at ho7 hlv hll hc hcr
  clear hld hi7 l4 l5 l6 hyW hlv ho6 f0_6 f1_6 f2_6 f3_6 f4_6 f5_6
  go_wp2_with (first
    | (go_at_call 24; refine hcr.mono ?_; rintro e8 w8 ⟨rfl, rfl⟩)
    | (go_at_call 31; refine (implPut W.heap.size av7 (18 + n) cap7 z (crcOf z) 4 _ hc.1 (by omega) (by omega) hll (by omega) ho7 hs7).mono ?_; rintro e9 w9 ⟨av9, cap9, rfl, ho9, hb9⟩))
  go_ret2
  refine ⟨av9, cap9, by (rw [show 22 + n = 18 + n + 4 by omega]; rfl), ?_, ?_⟩
  · have e22 : 18 + n + 4 = 22 + n := by omega
    rw [e22, ← hz.out] at ho9
    exact owned_base ho9 (by omega)
  · exact hb0.trans ((hB7.trans hb9).mono (by omega))
end Go.Proofs.YthgggmkljnghmaaDoor
