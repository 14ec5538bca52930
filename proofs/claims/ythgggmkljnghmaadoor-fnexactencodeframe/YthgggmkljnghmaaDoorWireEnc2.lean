import Derived.Test.YthgggmkljnghmaaDoorWireEnc
import Derived.Deep.Cut
namespace Go.Proofs.YthgggmkljnghmaaDoor
open Go.ChangeShapes Go.WideShapes Go.ChangeAt Go.RowKit
set_option linter.unusedVariables false

/-- A frame's bytes without their sum. -/
def laidDown (k p s o wd : Int) (ys : List Int) : List Int := [213, k, p, (ys.length : Int)] ++ be s 4 ++ be o 8 ++ be wd 2 ++ ys
/-- A frame's bytes. -/
def frameBytes (k p s o wd : Int) (ys : List Int) : List Int := laidDown k p s o wd ys ++ be (crcOf (laidDown k p s o wd ys)) 4

theorem laidDown_fits {k p s o wd : Int} {ys : List Int} (hy : ∀ x ∈ ys, 0 ≤ x ∧ x ≤ 255) (k0 : 0 ≤ k) (k1 : k ≤ 255) (p0 : 0 ≤ p) (p1 : p ≤ 255) (hl : ys.length ≤ 255) : ∀ x ∈ laidDown k p s o wd ys, 0 ≤ x ∧ x ≤ 255 := by
  intro x hx
  unfold laidDown at hx
  simp only [List.mem_append, List.mem_cons, List.not_mem_nil, or_false] at hx
  rcases hx with (((h | h) | h) | h) | h
  · omega
  · exact be_fits _ _ x h
  · exact be_fits _ _ x h
  · exact be_fits _ _ x h
  · exact hy x h

set_option maxHeartbeats 8000000 in
theorem specEncode_good (k p s o wd : Int) (a : Option Addr) (ys : List Int) (n cap : Nat) (w : World) (k0 : -9223372036854775808 ≤ k) (k1 : k ≤ 9223372036854775807) (pa : -9223372036854775808 ≤ p) (pb : p ≤ 9223372036854775807) (s0 : 0 ≤ s) (s1 : s ≤ 4294967295) (o0 : 0 ≤ o) (o1 : o ≤ 18446744073709551615) (wa : -9223372036854775808 ≤ wd) (wb : wd ≤ 9223372036854775807) (hn : n ≤ 1048576) (hyl : ys.length = n) (hy : Ints .u8 w a ys) (hyv : ∀ x ∈ ys, 0 ≤ x ∧ x ≤ 255) (hv : Valid k p s o wd n) :
    Calls Tryd.prog 8 #[.agg #[.int .i64 k, .int .i64 p, .int .u32 s, .int .u64 o, .int .i64 wd, .slice a n cap]] w fun e w' => ∃ av' cap', e = .returned (.tuple #[.slice av' (22 + n) cap', .int .i64 0]) ∧ w'.ownsRow w.heap.size 5 1 (.slice av' (22 + n) cap') (22 + n) ((frameBytes k p s o wd ys).map (.int .u8)) ∧ Below w.heap.size w w' := by
  have hb0 : Below w.heap.size w (w.alloc (.cells #[.int .i64 k, .int .i64 p, .int .u32 s, .int .u64 o, .int .i64 wd, .slice a n cap] 30)) := (Below.refl _ _).alloc (Nat.le_refl _) _
  obtain ⟨f0, f1, f2, f3, f4, f5⟩ := cells6 w (.int .i64 k) (.int .i64 p) (.int .u32 s) (.int .u64 o) (.int .i64 wd) (.slice a n cap) 30 _ rfl
  obtain ⟨W, hW⟩ : ∃ W, W = w.alloc (.cells #[.int .i64 k, .int .i64 p, .int .u32 s, .int .u64 o, .int .i64 wd, .slice a n cap] 30) := ⟨_, rfl⟩
  have hWs : W.heap.size = w.heap.size + 1 := by rw [hW]; simp
  rw [← hW] at f0 f1 f2 f3 f4 f5 hb0
  have hv' := hv
  unfold Valid at hv'
  go_enter Tryd.func8, Tryd.ntmps8
  go_upto_region 4 with (go_at_call 26; rw [← hW]; refine (specValid k p s o wd a n cap _ k0 k1 pa pb s0 s1 o0 o1 wa wb hn).mono ?_; intro e1 w1 h1; obtain ⟨rfl, hb1⟩ := h1.yes hv; have f0_1 := (hb1.cell (World.block_lt_of_cell? W _ f0)).trans f0; have f1_1 := (hb1.cell (World.block_lt_of_cell? W _ f1)).trans f1; have f2_1 := (hb1.cell (World.block_lt_of_cell? W _ f2)).trans f2; have f3_1 := (hb1.cell (World.block_lt_of_cell? W _ f3)).trans f3; have f4_1 := (hb1.cell (World.block_lt_of_cell? W _ f4)).trans f4; have f5_1 := (hb1.cell (World.block_lt_of_cell? W _ f5)).trans f5; have hs1 := hb1.size)
  have hr1 : (w1.alloc (.cells #[.int .u8 213, .int .u8 k, .int .u8 p, .int .u8 (n : Int)] 5)).ownsRow W.heap.size 5 1 (.slice (some ⟨w1.heap.size, 0, none⟩) 4 4) 4 (([213, k, p, (n : Int)] : List Int).map (.int .u8)) := World.ownsRow_lit w1 _ 4 hs1 (by unfold maxLen; omega) rfl
  obtain ⟨w2, hw2⟩ : ∃ w2, w2 = w1.alloc (.cells #[.int .u8 213, .int .u8 k, .int .u8 p, .int .u8 (n : Int)] 5) := ⟨_, rfl⟩
  have hB2 : Below W.heap.size W w2 := by rw [hw2]; exact hb1.alloc hs1 _
  rw [← hw2] at hr1 ⊢
  clear hw2 f0_1 f1_1 f2_1 f3_1 f4_1 f5_1
  have f0_2 := (hB2.cell (World.block_lt_of_cell? W _ f0)).trans f0; have f1_2 := (hB2.cell (World.block_lt_of_cell? W _ f1)).trans f1; have f2_2 := (hB2.cell (World.block_lt_of_cell? W _ f2)).trans f2; have f3_2 := (hB2.cell (World.block_lt_of_cell? W _ f3)).trans f3; have f4_2 := (hB2.cell (World.block_lt_of_cell? W _ f4)).trans f4; have f5_2 := (hB2.cell (World.block_lt_of_cell? W _ f5)).trans f5
  have hs2 := hB2.size
  go_upto_region 5 with (go_at_call 27; refine (specPut W.heap.size _ 4 4 [213, k, p, (n : Int)] s 4 _ s0 (by omega) (by omega) rfl (by omega) hr1 hs2).mono ?_; rintro e3 w3 ⟨av3, cap3, rfl, ho3, hb3⟩; have hB3 := hB2.trans hb3; have f0_3 := (hB3.cell (World.block_lt_of_cell? W _ f0)).trans f0; have f1_3 := (hB3.cell (World.block_lt_of_cell? W _ f1)).trans f1; have f2_3 := (hB3.cell (World.block_lt_of_cell? W _ f2)).trans f2; have f3_3 := (hB3.cell (World.block_lt_of_cell? W _ f3)).trans f3; have f4_3 := (hB3.cell (World.block_lt_of_cell? W _ f4)).trans f4; have f5_3 := (hB3.cell (World.block_lt_of_cell? W _ f5)).trans f5; have hs3 := hB3.size)
  have l3 : ([213, k, p, (n : Int)] ++ be s 4).length = 8 := by simp [be_length]
  have l4 : ([213, k, p, (n : Int)] ++ be s 4 ++ be o 8).length = 16 := by simp [be_length]
  have l5 : ([213, k, p, (n : Int)] ++ be s 4 ++ be o 8 ++ be wd 2).length = 18 := by simp [be_length]
  go_upto_region 6 with (go_at_call 27; refine (specPut W.heap.size _ 8 cap3 ([213, k, p, (n : Int)] ++ be s 4) o 8 _ o0 (by omega) (by omega) l3 (by omega) ho3 hs3).mono ?_; rintro e4 w4 ⟨av4, cap4, rfl, ho4, hb4⟩; have hB4 := hB3.trans hb4; have f0_4 := (hB4.cell (World.block_lt_of_cell? W _ f0)).trans f0; have f1_4 := (hB4.cell (World.block_lt_of_cell? W _ f1)).trans f1; have f2_4 := (hB4.cell (World.block_lt_of_cell? W _ f2)).trans f2; have f3_4 := (hB4.cell (World.block_lt_of_cell? W _ f3)).trans f3; have f4_4 := (hB4.cell (World.block_lt_of_cell? W _ f4)).trans f4; have f5_4 := (hB4.cell (World.block_lt_of_cell? W _ f5)).trans f5; have hs4 := hB4.size)
  go_upto_region 7 with (go_at_call 27; refine (specPut W.heap.size _ 16 cap4 ([213, k, p, (n : Int)] ++ be s 4 ++ be o 8) wd 2 _ (by omega) (by omega) (by omega) l4 (by omega) ho4 hs4).mono ?_; rintro e5 w5 ⟨av5, cap5, rfl, ho5, hb5⟩; have hB5 := hB4.trans hb5; have f0_5 := (hB5.cell (World.block_lt_of_cell? W _ f0)).trans f0; have f1_5 := (hB5.cell (World.block_lt_of_cell? W _ f1)).trans f1; have f2_5 := (hB5.cell (World.block_lt_of_cell? W _ f2)).trans f2; have f3_5 := (hB5.cell (World.block_lt_of_cell? W _ f3)).trans f3; have f4_5 := (hB5.cell (World.block_lt_of_cell? W _ f4)).trans f4; have f5_5 := (hB5.cell (World.block_lt_of_cell? W _ f5)).trans f5; have hs5 := hB5.size)
  have hyW : Ints .u8 W a ys := hy.moved hb0
  clear hr1 ho3 ho4 hb3 hb4 hb5 f0_2 f1_2 f2_2 f3_2 f4_2 f5_2 f0_3 f1_3 f2_3 f3_3 f4_3 f5_3 f0_4 f1_4 f2_4 f3_4 f4_4 f5_4 f0_5 f1_5 f2_5 f3_5 f4_5 f5_5
  go_wp2_with fail
  go_loopw [4, 5] (fun v i wr => ∃ (t : Nat) (av' : Option Addr) (cap' : Nat), t ≤ n ∧ i = .int .i64 (t : Int) ∧ v = .slice av' (18 + t) cap' ∧ wr.ownsRow W.heap.size 5 1 (.slice av' (18 + t) cap') (18 + t) ((([213, k, p, (n : Int)] ++ be s 4 ++ be o 8 ++ be wd 2) ++ ys.take t).map (.int .u8)) ∧ Below W.heap.size W wr) (fun _ i _ => n - (intOf i).toNat)
  case atStart => exact ⟨0, av5, cap5, Nat.zero_le _, rfl, rfl, by simpa using ho5, hB5⟩
  case round =>
    obtain ⟨t, av', cap', ht, rfl, rfl, ho, hb⟩ := hrel
    have hsz := hb.size
    have f0_r := (hb.cell (World.block_lt_of_cell? W _ f0)).trans f0; have f1_r := (hb.cell (World.block_lt_of_cell? W _ f1)).trans f1; have f2_r := (hb.cell (World.block_lt_of_cell? W _ f2)).trans f2; have f3_r := (hb.cell (World.block_lt_of_cell? W _ f3)).trans f3; have f4_r := (hb.cell (World.block_lt_of_cell? W _ f4)).trans f4; have f5_r := (hb.cell (World.block_lt_of_cell? W _ f5)).trans f5
    by_cases hlt : t < n
    · rcases hyW with h0 | ⟨b, off, rfl, hc⟩
      · rw [h0] at hyl; simp at hyl; omega
      obtain ⟨c, hcn⟩ : ∃ c : Int, Hid (ys.getD t 0 = c) := ⟨_, rfl⟩
      have hcell : wr.cell? ⟨b, off + t, none⟩ = some (.int .u8 c) := by rw [hb.cell (World.block_lt_of_cell? W _ (hc t (by omega))), hc t (by omega), hcn.out]
      clear hc
      have hlen : Hid ((([213, k, p, (n : Int)] ++ be s 4 ++ be o 8 ++ be wd 2) ++ ys.take t).length = 18 + t) := by unfold Hid; simp [be_length]; omega
      have hone := ints_one wr c 5
      go_wp2_with (at_builtin; refine wpList_appI _ (by rfl) _ _ (by rfl) W.heap.size av' (18 + t) cap' (([213, k, p, (n : Int)] ++ be s 4 ++ be o 8 ++ be wd 2) ++ ys.take t) hlen.out (by rfl) (ho.alloc _) (some ⟨wr.heap.size, 0, none⟩) [c] 1 1 rfl (by rfl) (by simp) hone (by omega) (by simp; omega) ?_; intro av2 cap2 w2' ho2 hg2)
      have hb2 := below_grown (hb.alloc hsz _) (ho.alloc _) hg2 (Nat.le_refl _) (by simp; omega)
      have hts : ys.take (t + 1) = ys.take t ++ [c] := by
        rw [List.take_succ_eq_append_getElem (by omega), ← hcn.out]
        simp [show t < ys.length by omega]
      go_roundw
      case rel => exact ⟨t + 1, av2, cap2, hlt, by go_num, rfl, by rw [hts, ← List.append_assoc]; exact ho2, hb2⟩
      case measure => simp [intOf]; omega
    · have htn : n = t := by omega
      subst htn
      have hyt : ys.take n = ys := List.take_of_length_le (by omega)
      rw [hyt] at ho
      have hld : ([213, k, p, (n : Int)] ++ be s 4 ++ be o 8 ++ be wd 2) ++ ys = laidDown k p s o wd ys := by unfold laidDown; rw [hyl]
      rw [hld] at ho
      have hlv : ∀ x ∈ laidDown k p s o wd ys, 0 ≤ x ∧ x ≤ 255 := laidDown_fits hyv (by omega) (by omega) (by omega) (by omega) (by omega)
      have hll : (laidDown k p s o wd ys).length = 18 + n := by unfold laidDown; simp [be_length]; omega
      go_wp2_with (go_at_call 28; refine (specSeal W.heap.size av' (18 + n) cap' (laidDown k p s o wd ys) _ hll (by omega) hlv ho hsz).mono ?_; rintro e6 w6 ⟨av6, cap6, rfl, ho6, hb6⟩)
      go_ret2
      refine ⟨av6, cap6, by (rw [show 22 + n = 18 + n + 4 by omega]; rfl), ?_, ?_⟩
      · have e22 : 18 + n + 4 = 22 + n := by omega
        rw [e22] at ho6
        exact owned_base ho6 (by omega)
      · exact hb0.trans ((hb.trans hb6).mono (by omega))

set_option maxHeartbeats 4000000 in
theorem specEncode_bad (k p s o wd : Int) (a : Option Addr) (ys : List Int) (n cap : Nat) (w : World) (k0 : -9223372036854775808 ≤ k) (k1 : k ≤ 9223372036854775807) (pa : -9223372036854775808 ≤ p) (pb : p ≤ 9223372036854775807) (s0 : 0 ≤ s) (s1 : s ≤ 4294967295) (o0 : 0 ≤ o) (o1 : o ≤ 18446744073709551615) (wa : -9223372036854775808 ≤ wd) (wb : wd ≤ 9223372036854775807) (hn : n ≤ 1048576) (hv : ¬Valid k p s o wd n) :
    Calls Tryd.prog 8 #[.agg #[.int .i64 k, .int .i64 p, .int .u32 s, .int .u64 o, .int .i64 wd, .slice a n cap]] w fun e w' => e = .returned (.tuple #[.slice none 0 0, .int .i64 1]) ∧ Below w.heap.size w w' := by
  have hb0 : Below w.heap.size w (w.alloc (.cells #[.int .i64 k, .int .i64 p, .int .u32 s, .int .u64 o, .int .i64 wd, .slice a n cap] 30)) := (Below.refl _ _).alloc (Nat.le_refl _) _
  go_enter Tryd.func8, Tryd.ntmps8
  go_wp2_with (go_at_call 26; refine (specValid k p s o wd a n cap _ k0 k1 pa pb s0 s1 o0 o1 wa wb hn).mono ?_; intro e1 w1 h1; obtain ⟨rfl, hb1⟩ := h1.no hv)
  go_ret2
  exact ⟨rfl, hb0.trans (hb1.mono hb0.size)⟩
end Go.Proofs.YthgggmkljnghmaaDoor
