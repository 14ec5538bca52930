import Derived.Test.YtlagaiekoahjnaaMapMark
import Derived.Test.YtlagaiekoahjnaaViewMark
import Derived.Test.YtlagaiekoahjnaaLongLaw
namespace Go.Proofs.Ytlagaiekoahjnaa
open Go.ChangeShapes Go.WideShapes Go.ChangeAt Go.RowKit
set_option linter.unusedVariables false

theorem toInt64S_any (a : Option Addr) (zs : List Int) (cap : Nat) (w : World) (hz : Ints .i64 w a zs) (hl : zs.length ≤ 1048576) :
    Calls Try.prog 63 #[.slice a zs.length cap] w fun e w' => e = .returned (.slice (some ⟨w.heap.size, 0, none⟩) zs.length zs.length) ∧
      w'.ownsRow w.heap.size 2 1 (.slice (some ⟨w.heap.size, 0, none⟩) zs.length zs.length) zs.length (zs.map (.int .i64)) ∧ Below w.heap.size w w' := by
  obtain ⟨i0, hi, hz0, hz1, hz2⟩ := info_parts info_i64
  go_enter Try.func63, Try.ntmps63
  go_wp2_with (at_make; refine wpList_make_full _ rfl _ _ 36 rfl w.heap.size 2 i0 (.int .i64 0) 1 Try.underlying36 hi hz0 hz1 .i64 .i64 _ _ zs.length rfl rfl rfl rfl (by rw [hz2]; omega) (by unfold maxLen; omega) (Nat.le_refl _) ?_; intro w1 hown hgrow)
  have hstart : w1.ownsRow w.heap.size 2 1 (.slice (some ⟨w.heap.size, 0, none⟩) zs.length zs.length) zs.length ((part zs 0).map (.int .i64)) := by
    rw [part_zero]
    simpa [toList_madeCells_one, Value.cells] using hown
  have hbel : Below w.heap.size w w1 := (Below.refl _ _).grown hgrow (Nat.le_refl _) (by simp)
  clear hown hgrow
  go_loopw [4] (fun i wr => ∃ k : Nat, k ≤ zs.length ∧ i = .int .i64 k ∧ wr.ownsRow w.heap.size 2 1 (.slice (some ⟨w.heap.size, 0, none⟩) zs.length zs.length) zs.length ((part zs k).map (.int .i64)) ∧ Below w.heap.size w wr)
    (fun i _ => zs.length - (intOf i).toNat)
  case atStart => exact ⟨0, Nat.zero_le _, rfl, hstart, hbel⟩
  case round =>
    clear hstart hbel
    obtain ⟨k, hk, rfl, hown, hb⟩ := hrel
    by_cases hlt : k < zs.length
    · rcases hz with h | ⟨b, off, rfl, hc⟩
      · simp [h] at hlt
      · have hcell : wr.cell? ⟨b, off + k, none⟩ = some (.int .i64 (zs.getD k 0)) := by rw [hb.cell (World.block_lt_of_cell? w _ (hc k hlt))]; exact hc k hlt
        have hfz := hown.frozenAt k
        have hold : wr.cell? ⟨w.heap.size, k, none⟩ = some (.int .i64 ((part zs k).getD k 0)) := by
          rw [hown.cellAt k (by omega)]
          have : k < (part zs k).length := by have := owned_length hown; omega
          simp [this]
        have hst := hown.stored k (.int .i64 (zs.getD k 0))
        have hnext : (wr.setCell ⟨w.heap.size, k, none⟩ (.int .i64 (zs.getD k 0))).ownsRow w.heap.size 2 1 (.slice (some ⟨w.heap.size, 0, none⟩) zs.length zs.length) zs.length ((part zs (k + 1)).map (.int .i64)) := by
          rw [← part_succ zs k hlt, List.map_set]
          exact hst.1
        have hb2 : Below w.heap.size w (wr.setCell ⟨w.heap.size, k, none⟩ (.int .i64 (zs.getD k 0))) := hb.setCell (Nat.le_refl _) _
        clear hst hown hb hc
        go_wp2
        go_roundw
        case rel => exact ⟨k + 1, by omega, by go_num, by simpa [hlt] using hnext, by simpa [hlt] using hb2⟩
        case measure => simp [intOf]; omega
    · go_wp2
      go_ret
      have : k = zs.length := by omega
      subst this
      rw [part_all] at hown
      exact ⟨rfl, hown, hb⟩


theorem szInt64S_is (a : Option Addr) (n cap : Nat) (s c : Int) (w : World) (hm : n ≤ 9223372036854775807) (s0 : 0 ≤ s) (s1 : s ≤ 1048576) (hc : ((n : Int) ≤ s ∧ c = s - (n : Int)) ∨ (s < (n : Int) ∧ c = -1)) :
    Calls Try.prog 62 #[.slice a n cap, .int .i64 s] w fun e w' => e = .returned (.int .i64 c) ∧ w' = w := by
  rcases hc with ⟨h, rfl⟩ | ⟨h, rfl⟩
  · go_enter Try.func62, Try.ntmps62
    go_wp2
    go_ret
    exact ⟨rfl, rfl⟩
  · go_enter Try.func62, Try.ntmps62
    go_wp2
    go_ret
    exact ⟨rfl, rfl⟩

set_option maxRecDepth 100000 in
set_option maxHeartbeats 2000000 in
theorem szSched_any (pol tur : Int) (pa : Option Addr) (pk : List Int) (pc : Nat) (va : Option Addr) (V : Vws) (vc : Nat) (ma : Option Addr) (S : Mps) (mc : Nat) (mx mp wt ed cl fm pl : Int) (w : World) (hp : pk.length ≤ 9223372036854775807) (hv : V.length ≤ 9223372036854775807) (hs : S.length ≤ 9223372036854775807) :
    Calls Try.prog 30 #[.agg #[.int .i64 pol, .int .i64 tur, .slice pa pk.length pc, .slice va V.length vc, .slice ma S.length mc, .int .i64 mx, .int .u64 mp, .int .u64 wt, .int .u64 ed, .int .i64 cl, .int .i64 fm, .int .i64 pl], .int .i64 1048576] w fun e w' => ∃ c : Int, e = .returned (.int .i64 c) ∧ (0 ≤ c → pk.length ≤ 1048576 ∧ V.length ≤ 1048576 ∧ S.length ≤ 1048576) ∧ -1 ≤ c ∧ c ≤ 1048576 ∧ Below w.heap.size w w' := by
  have hbW : Below w.heap.size w (w.alloc (.cells #[.int .i64 pol, .int .i64 tur, .slice pa pk.length pc, .slice va V.length vc, .slice ma S.length mc, .int .i64 mx, .int .u64 mp, .int .u64 wt, .int .u64 ed, .int .i64 cl, .int .i64 fm, .int .i64 pl] 61)) := (Below.refl _ _).alloc (Nat.le_refl _) _
  by_cases h1 : (pk.length : Int) ≤ 1048576
  · by_cases h2 : (V.length : Int) ≤ 1048576 - (pk.length : Int)
    · by_cases h3 : (S.length : Int) ≤ 1048576 - (pk.length : Int) - (V.length : Int)
      · go_enter Try.func30, Try.ntmps30
        go_wp2_with (first
          | (go_at_call 62; refine (szInt64S_is pa pk.length pc _ _ _ hp (by omega) (by omega) (.inl ⟨by omega, rfl⟩)).mono ?_; rintro e w2 ⟨rfl, hw2⟩; obtain rfl := hw2)
          | (go_at_call 17; refine (szVS_is va V.length vc _ _ _ hv (by omega) (by omega) (.inl ⟨by omega, rfl⟩)).mono ?_; rintro e w2 ⟨rfl, hw2⟩; obtain rfl := hw2)
          | (go_at_call 8; refine (szMS_is ma S.length mc _ _ _ hs (by omega) (by omega) (.inl ⟨by omega, rfl⟩)).mono ?_; rintro e w2 ⟨rfl, hw2⟩; obtain rfl := hw2))
        go_ret
        exact ⟨_, rfl, fun _ => by omega, by omega, by omega, hbW⟩
      · go_enter Try.func30, Try.ntmps30
        go_wp2_with (first
          | (go_at_call 62; refine (szInt64S_is pa pk.length pc _ _ _ hp (by omega) (by omega) (.inl ⟨by omega, rfl⟩)).mono ?_; rintro e w2 ⟨rfl, hw2⟩; obtain rfl := hw2)
          | (go_at_call 17; refine (szVS_is va V.length vc _ _ _ hv (by omega) (by omega) (.inl ⟨by omega, rfl⟩)).mono ?_; rintro e w2 ⟨rfl, hw2⟩; obtain rfl := hw2)
          | (go_at_call 8; refine (szMS_is ma S.length mc _ _ _ hs (by omega) (by omega) (.inr ⟨by omega, rfl⟩)).mono ?_; rintro e w2 ⟨rfl, hw2⟩; obtain rfl := hw2))
        go_ret
        exact ⟨-1, rfl, fun h => by omega, by omega, by omega, hbW⟩
    · go_enter Try.func30, Try.ntmps30
      go_wp2_with (first
        | (go_at_call 62; refine (szInt64S_is pa pk.length pc _ _ _ hp (by omega) (by omega) (.inl ⟨by omega, rfl⟩)).mono ?_; rintro e w2 ⟨rfl, hw2⟩; obtain rfl := hw2)
        | (go_at_call 17; refine (szVS_is va V.length vc _ _ _ hv (by omega) (by omega) (.inr ⟨by omega, rfl⟩)).mono ?_; rintro e w2 ⟨rfl, hw2⟩; obtain rfl := hw2))
      go_ret
      exact ⟨-1, rfl, fun h => by omega, by omega, by omega, hbW⟩
  · go_enter Try.func30, Try.ntmps30
    go_wp2_with (go_at_call 62; refine (szInt64S_is pa pk.length pc _ _ _ hp (by omega) (by omega) (.inr ⟨by omega, rfl⟩)).mono ?_; rintro e w2 ⟨rfl, hw2⟩; obtain rfl := hw2)
    go_ret
    exact ⟨-1, rfl, fun h => by omega, by omega, by omega, hbW⟩

set_option maxRecDepth 100000 in
set_option maxHeartbeats 2000000 in
theorem eqPlan_same (kd pcx of ln : Int) (T : List Int) (tn us : Int) (a a' : Option Addr) (c c' : Nat) (w : World) (h : Ints .i64 w a T) (h' : Ints .i64 w a' T) (hl : T.length ≤ 1048576) :
    Calls Try.prog 32 #[.agg #[.int .i64 kd, .int .i64 pcx, .int .u64 of, .int .i64 ln, .slice a T.length c, .int .i64 tn, .int .i64 us], .agg #[.int .i64 kd, .int .i64 pcx, .int .u64 of, .int .i64 ln, .slice a' T.length c', .int .i64 tn, .int .i64 us]] w fun e w' => e = .returned (.bool true) ∧ Below w.heap.size w w' := by
  obtain ⟨W, hW⟩ : ∃ W, W = (w.alloc (.cells #[.int .i64 kd, .int .i64 pcx, .int .u64 of, .int .i64 ln, .slice a T.length c, .int .i64 tn, .int .i64 us] 51)).alloc (.cells #[.int .i64 kd, .int .i64 pcx, .int .u64 of, .int .i64 ln, .slice a' T.length c', .int .i64 tn, .int .i64 us] 51) := ⟨_, rfl⟩
  have hbW : Below w.heap.size w W := by rw [hW]; exact ((Below.refl _ _).alloc (Nat.le_refl _) _).alloc (by simp) _
  have x5 : W.cell? ⟨w.heap.size, 5, none⟩ = some (.int .i64 tn) := by rw [hW]; simp
  have x6 : W.cell? ⟨w.heap.size, 6, none⟩ = some (.int .i64 us) := by rw [hW]; simp
  have y5 : W.cell? ⟨w.heap.size + 1, 5, none⟩ = some (.int .i64 tn) := by rw [hW]; simp
  have y6 : W.cell? ⟨w.heap.size + 1, 6, none⟩ = some (.int .i64 us) := by rw [hW]; simp
  have q1 := h.moved hbW
  have q2 := h'.moved hbW
  go_enter Try.func32, Try.ntmps32
  go_wp2_with fail
  rw [← hW]
  refine (eqInt64S_same _ _ T _ _ _ q1 q2 hl).mono ?_
  rintro e w2 ⟨rfl, hb2⟩
  have x5' := (hb2.cell (World.block_lt_of_cell? _ _ x5)).trans x5
  have x6' := (hb2.cell (World.block_lt_of_cell? _ _ x6)).trans x6
  have y5' := (hb2.cell (World.block_lt_of_cell? _ _ y5)).trans y5
  have y6' := (hb2.cell (World.block_lt_of_cell? _ _ y6)).trans y6
  have hb3 := hbW.trans (hb2.mono hbW.size)
  clear hW q1 q2 h h' x5 x6 y5 y6 hb2
  go_wp2
  go_ret
  exact ⟨rfl, hb3⟩

theorem markPlan_any (kd pcx of ln : Int) (T : List Int) (tn us : Int) (a : Option Addr) (c : Nat) (w : World) (base : Nat) (h : w.ownsRow base 2 1 (.slice a T.length c) T.length (T.map (.int .i64))) (hl : T.length ≤ 1048576) :
    Calls Try.prog 35 #[.agg #[.int .i64 kd, .int .i64 pcx, .int .u64 of, .int .i64 ln, .slice a T.length c, .int .i64 tn, .int .i64 us], .int .i64 1] w fun e w' => e = .returned (.int .i64 (1 + (T.length : Int))) ∧ w'.ownsRow base 2 1 (.slice a T.length c) T.length ((markedL 1 T.length).map (.int .i64)) ∧ ∃ v, (w.alloc v).grownBy w' (Value.slice a T.length c).ownBlock := by
  go_enter Try.func35, Try.ntmps35
  go_wp2_with (go_at_call 24; refine (markInt64S_any _ T 1 _ base T.length rfl (h.alloc _) hl (by omega) (by omega)).mono ?_; rintro e w2 ⟨rfl, ho2, hg2⟩)
  go_ret
  exact ⟨rfl, ho2, _, hg2⟩

theorem heldPlan_any (kd pcx of ln : Int) (n : Nat) (tn us : Int) (a : Option Addr) (c : Nat) (w : World) (h : Ints .i64 w a (markedL 1 n)) (hl : n ≤ 1048576) :
    Calls Try.prog 36 #[.agg #[.int .i64 kd, .int .i64 pcx, .int .u64 of, .int .i64 ln, .slice a n c, .int .i64 tn, .int .i64 us], .int .i64 1] w fun e w' => e = .returned (.int .i64 (1 + (n : Int))) ∧ Below w.heap.size w w' := by
  have hbW : Below w.heap.size w (w.alloc (.cells #[.int .i64 kd, .int .i64 pcx, .int .u64 of, .int .i64 ln, .slice a n c, .int .i64 tn, .int .i64 us] 51)) := (Below.refl _ _).alloc (Nat.le_refl _) _
  go_enter Try.func36, Try.ntmps36
  go_wp2_with (go_at_call 25; refine (heldInt64S_any a n c _ (h.moved hbW) hl).mono ?_; rintro e w2 ⟨rfl, rfl⟩)
  go_ret
  exact ⟨rfl, hbW⟩

end Go.Proofs.Ytlagaiekoahjnaa
