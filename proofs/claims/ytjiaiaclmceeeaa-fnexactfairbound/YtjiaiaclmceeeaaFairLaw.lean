import Derived.Test.YtjiaiaclmceeeaaFair2
namespace Go.Proofs.Ytjiaiaclmceeeaa
open Go.ChangeShapes Go.WideShapes Go.ChangeAt Go.RowKit
set_option linter.unusedVariables false

theorem prod_bounds {a b m n : Int} (a0 : 0 ≤ a) (a1 : a ≤ m) (b0 : 0 ≤ b) (b1 : b ≤ n) : 0 ≤ a * b ∧ a * b ≤ m * n :=
  ⟨Int.mul_nonneg a0 b0, Int.mul_le_mul a1 b1 b0 (Int.le_trans a0 a1)⟩

/-- The number of rounds. -/
def rounds (ps wi mr da : Int) (bs : Int) : Int := (ps + 1) * (da * mr + 4) + 2 * (bs + wi + 4)
def Fair (ps po wi pl sc rc mm rt mr da pe isn : Int) (bs r : Int) (fn : Nat) : Prop := ∀ w : World, Calls Try.prog fn #[.agg #[.int .i64 ps, .int .i64 po, .int .i64 wi, .int .i64 pl, .int .i64 sc, .int .i64 rc, .int .i64 mm, .int .i64 rt, .int .i64 mr, .int .i64 da, .int .i64 pe, .int .u32 isn], .int .i64 bs] w fun e w' => e = .returned (.int .i64 r) ∧ Below w.heap.size w w'

set_option maxRecDepth 100000 in
set_option maxHeartbeats 1000000 in
theorem fair_s_yes (ps po wi pl sc rc mm rt mr da pe isn : Int) (bs : Int) (ht : OkT ps po pl sc rc mm) (hl : OkL wi rt mr da pe) (hc : Cfg ps po wi pl sc rc mm rt mr da pe isn 11 true) (b0 : 0 ≤ bs) (b1 : bs ≤ 1099511627776) : Fair ps po wi pl sc rc mm rt mr da pe isn bs (rounds ps wi mr da bs) 5 := by
  obtain ⟨⟨a0, a1⟩, _⟩ := ht
  obtain ⟨⟨d0, d1⟩, ⟨r0, r1⟩, ⟨e0, e1⟩, ⟨g0, g1⟩, _⟩ := hl
  obtain ⟨m0, m1⟩ := prod_bounds (a := da) (b := mr) (by omega) g1 (by omega) e1
  obtain ⟨n0, n1⟩ := prod_bounds (a := ps + 1) (b := da * mr + 4) (m := 9) (n := 3204) (by omega) (by omega) (by omega) (by omega)
  obtain ⟨q, hq⟩ : ∃ q, q = (ps + 1) * (da * mr + 4) := ⟨_, rfl⟩
  intro w
  obtain ⟨W, hW⟩ : ∃ W, W = w.alloc (.cells #[.int .i64 ps, .int .i64 po, .int .i64 wi, .int .i64 pl, .int .i64 sc, .int .i64 rc, .int .i64 mm, .int .i64 rt, .int .i64 mr, .int .i64 da, .int .i64 pe, .int .u32 isn] 26) := ⟨_, rfl⟩
  have hbW : Below w.heap.size w W := by rw [hW]; exact (Below.refl _ _).alloc (Nat.le_refl _) _
  have k0 : W.cell? ⟨w.heap.size, 0, none⟩ = some (.int .i64 ps) := by rw [hW]; simp
  have k2 : W.cell? ⟨w.heap.size, 2, none⟩ = some (.int .i64 wi) := by rw [hW]; simp
  have k8 : W.cell? ⟨w.heap.size, 8, none⟩ = some (.int .i64 mr) := by rw [hW]; simp
  have k9 : W.cell? ⟨w.heap.size, 9, none⟩ = some (.int .i64 da) := by rw [hW]; simp
  go_enter Try.func5, Try.ntmps5
  go_wp2_with fail
  rw [← hW]
  refine Calls.mono (hc W) ?_
  rintro e w2 ⟨rfl, hb2⟩
  have j0 := (hb2.cell (World.block_lt_of_cell? _ _ k0)).trans k0
  have j2 := (hb2.cell (World.block_lt_of_cell? _ _ k2)).trans k2
  have j8 := (hb2.cell (World.block_lt_of_cell? _ _ k8)).trans k8
  have j9 := (hb2.cell (World.block_lt_of_cell? _ _ k9)).trans k9
  have hbw := hbW.trans (hb2.mono hbW.size)
  clear hW k0 k2 k8 k9 hb2
  go_wp2
  go_ret
  exact ⟨by unfold rounds; rfl, hbw⟩

set_option maxRecDepth 100000 in
set_option maxHeartbeats 1000000 in
theorem fair_s_cfg (ps po wi pl sc rc mm rt mr da pe isn : Int) (bs : Int) (hc : Cfg ps po wi pl sc rc mm rt mr da pe isn 11 false) : Fair ps po wi pl sc rc mm rt mr da pe isn bs 0 5 := by
  intro w
  obtain ⟨W, hW⟩ : ∃ W, W = w.alloc (.cells #[.int .i64 ps, .int .i64 po, .int .i64 wi, .int .i64 pl, .int .i64 sc, .int .i64 rc, .int .i64 mm, .int .i64 rt, .int .i64 mr, .int .i64 da, .int .i64 pe, .int .u32 isn] 26) := ⟨_, rfl⟩
  have hbW : Below w.heap.size w W := by rw [hW]; exact (Below.refl _ _).alloc (Nat.le_refl _) _
  have k0 : W.cell? ⟨w.heap.size, 0, none⟩ = some (.int .i64 ps) := by rw [hW]; simp
  have k2 : W.cell? ⟨w.heap.size, 2, none⟩ = some (.int .i64 wi) := by rw [hW]; simp
  have k8 : W.cell? ⟨w.heap.size, 8, none⟩ = some (.int .i64 mr) := by rw [hW]; simp
  have k9 : W.cell? ⟨w.heap.size, 9, none⟩ = some (.int .i64 da) := by rw [hW]; simp
  go_enter Try.func5, Try.ntmps5
  go_wp2_with fail
  rw [← hW]
  refine Calls.mono (hc W) ?_
  rintro e w2 ⟨rfl, hb2⟩
  have j0 := (hb2.cell (World.block_lt_of_cell? _ _ k0)).trans k0
  have j2 := (hb2.cell (World.block_lt_of_cell? _ _ k2)).trans k2
  have j8 := (hb2.cell (World.block_lt_of_cell? _ _ k8)).trans k8
  have j9 := (hb2.cell (World.block_lt_of_cell? _ _ k9)).trans k9
  have hbw := hbW.trans (hb2.mono hbW.size)
  clear hW k0 k2 k8 k9 hb2
  go_wp2
  go_ret
  exact ⟨rfl, hbw⟩

set_option maxRecDepth 100000 in
set_option maxHeartbeats 1000000 in
theorem fair_s_low (ps po wi pl sc rc mm rt mr da pe isn : Int) (bs : Int) (hc : Cfg ps po wi pl sc rc mm rt mr da pe isn 11 true) (hb : bs < 0) : Fair ps po wi pl sc rc mm rt mr da pe isn bs 0 5 := by
  intro w
  obtain ⟨W, hW⟩ : ∃ W, W = w.alloc (.cells #[.int .i64 ps, .int .i64 po, .int .i64 wi, .int .i64 pl, .int .i64 sc, .int .i64 rc, .int .i64 mm, .int .i64 rt, .int .i64 mr, .int .i64 da, .int .i64 pe, .int .u32 isn] 26) := ⟨_, rfl⟩
  have hbW : Below w.heap.size w W := by rw [hW]; exact (Below.refl _ _).alloc (Nat.le_refl _) _
  have k0 : W.cell? ⟨w.heap.size, 0, none⟩ = some (.int .i64 ps) := by rw [hW]; simp
  have k2 : W.cell? ⟨w.heap.size, 2, none⟩ = some (.int .i64 wi) := by rw [hW]; simp
  have k8 : W.cell? ⟨w.heap.size, 8, none⟩ = some (.int .i64 mr) := by rw [hW]; simp
  have k9 : W.cell? ⟨w.heap.size, 9, none⟩ = some (.int .i64 da) := by rw [hW]; simp
  go_enter Try.func5, Try.ntmps5
  go_wp2_with fail
  rw [← hW]
  refine Calls.mono (hc W) ?_
  rintro e w2 ⟨rfl, hb2⟩
  have j0 := (hb2.cell (World.block_lt_of_cell? _ _ k0)).trans k0
  have j2 := (hb2.cell (World.block_lt_of_cell? _ _ k2)).trans k2
  have j8 := (hb2.cell (World.block_lt_of_cell? _ _ k8)).trans k8
  have j9 := (hb2.cell (World.block_lt_of_cell? _ _ k9)).trans k9
  have hbw := hbW.trans (hb2.mono hbW.size)
  clear hW k0 k2 k8 k9 hb2
  go_wp2
  go_ret
  exact ⟨rfl, hbw⟩

set_option maxRecDepth 100000 in
set_option maxHeartbeats 1000000 in
theorem fair_s_high (ps po wi pl sc rc mm rt mr da pe isn : Int) (bs : Int) (hc : Cfg ps po wi pl sc rc mm rt mr da pe isn 11 true) (hb : 1099511627776 < bs) : Fair ps po wi pl sc rc mm rt mr da pe isn bs 0 5 := by
  intro w
  obtain ⟨W, hW⟩ : ∃ W, W = w.alloc (.cells #[.int .i64 ps, .int .i64 po, .int .i64 wi, .int .i64 pl, .int .i64 sc, .int .i64 rc, .int .i64 mm, .int .i64 rt, .int .i64 mr, .int .i64 da, .int .i64 pe, .int .u32 isn] 26) := ⟨_, rfl⟩
  have hbW : Below w.heap.size w W := by rw [hW]; exact (Below.refl _ _).alloc (Nat.le_refl _) _
  have k0 : W.cell? ⟨w.heap.size, 0, none⟩ = some (.int .i64 ps) := by rw [hW]; simp
  have k2 : W.cell? ⟨w.heap.size, 2, none⟩ = some (.int .i64 wi) := by rw [hW]; simp
  have k8 : W.cell? ⟨w.heap.size, 8, none⟩ = some (.int .i64 mr) := by rw [hW]; simp
  have k9 : W.cell? ⟨w.heap.size, 9, none⟩ = some (.int .i64 da) := by rw [hW]; simp
  go_enter Try.func5, Try.ntmps5
  go_wp2_with fail
  rw [← hW]
  refine Calls.mono (hc W) ?_
  rintro e w2 ⟨rfl, hb2⟩
  have j0 := (hb2.cell (World.block_lt_of_cell? _ _ k0)).trans k0
  have j2 := (hb2.cell (World.block_lt_of_cell? _ _ k2)).trans k2
  have j8 := (hb2.cell (World.block_lt_of_cell? _ _ k8)).trans k8
  have j9 := (hb2.cell (World.block_lt_of_cell? _ _ k9)).trans k9
  have hbw := hbW.trans (hb2.mono hbW.size)
  clear hW k0 k2 k8 k9 hb2
  have hb0 : ¬ bs < 0 := by omega
  go_wp2
  go_ret
  exact ⟨rfl, hbw⟩

set_option maxRecDepth 100000 in
set_option maxHeartbeats 1000000 in
theorem fair_i_yes (ps po wi pl sc rc mm rt mr da pe isn : Int) (bs : Int) (ht : OkT ps po pl sc rc mm) (hl : OkL wi rt mr da pe) (hc : Cfg ps po wi pl sc rc mm rt mr da pe isn 12 true) (b0 : 0 ≤ bs) (b1 : bs ≤ 1099511627776) : Fair ps po wi pl sc rc mm rt mr da pe isn bs (rounds ps wi mr da bs) 7 := by
  obtain ⟨⟨a0, a1⟩, _⟩ := ht
  obtain ⟨⟨d0, d1⟩, ⟨r0, r1⟩, ⟨e0, e1⟩, ⟨g0, g1⟩, _⟩ := hl
  obtain ⟨m0, m1⟩ := prod_bounds (a := da) (b := mr) (by omega) g1 (by omega) e1
  obtain ⟨n0, n1⟩ := prod_bounds (a := ps + 1) (b := da * mr + 4) (m := 9) (n := 3204) (by omega) (by omega) (by omega) (by omega)
  obtain ⟨q, hq⟩ : ∃ q, q = (ps + 1) * (da * mr + 4) := ⟨_, rfl⟩
  intro w
  obtain ⟨W, hW⟩ : ∃ W, W = w.alloc (.cells #[.int .i64 ps, .int .i64 po, .int .i64 wi, .int .i64 pl, .int .i64 sc, .int .i64 rc, .int .i64 mm, .int .i64 rt, .int .i64 mr, .int .i64 da, .int .i64 pe, .int .u32 isn] 26) := ⟨_, rfl⟩
  have hbW : Below w.heap.size w W := by rw [hW]; exact (Below.refl _ _).alloc (Nat.le_refl _) _
  have k0 : W.cell? ⟨w.heap.size, 0, none⟩ = some (.int .i64 ps) := by rw [hW]; simp
  have k2 : W.cell? ⟨w.heap.size, 2, none⟩ = some (.int .i64 wi) := by rw [hW]; simp
  have k8 : W.cell? ⟨w.heap.size, 8, none⟩ = some (.int .i64 mr) := by rw [hW]; simp
  have k9 : W.cell? ⟨w.heap.size, 9, none⟩ = some (.int .i64 da) := by rw [hW]; simp
  go_enter Try.func7, Try.ntmps7
  go_wp2_with fail
  rw [← hW]
  refine Calls.mono (hc W) ?_
  rintro e w2 ⟨rfl, hb2⟩
  have j0 := (hb2.cell (World.block_lt_of_cell? _ _ k0)).trans k0
  have j2 := (hb2.cell (World.block_lt_of_cell? _ _ k2)).trans k2
  have j8 := (hb2.cell (World.block_lt_of_cell? _ _ k8)).trans k8
  have j9 := (hb2.cell (World.block_lt_of_cell? _ _ k9)).trans k9
  have hbw := hbW.trans (hb2.mono hbW.size)
  clear hW k0 k2 k8 k9 hb2
  go_wp2_with (go_at_call 13; with_reducible (refine Calls.mono (within_yes bs 0 1099511627776 _ b0 b1) ?_); rintro e w3 ⟨rfl, hw3⟩; obtain rfl := hw3)
  go_ret
  exact ⟨by unfold rounds; rfl, hbw⟩

set_option maxRecDepth 100000 in
set_option maxHeartbeats 1000000 in
theorem fair_i_cfg (ps po wi pl sc rc mm rt mr da pe isn : Int) (bs : Int) (hc : Cfg ps po wi pl sc rc mm rt mr da pe isn 12 false) : Fair ps po wi pl sc rc mm rt mr da pe isn bs 0 7 := by
  intro w
  obtain ⟨W, hW⟩ : ∃ W, W = w.alloc (.cells #[.int .i64 ps, .int .i64 po, .int .i64 wi, .int .i64 pl, .int .i64 sc, .int .i64 rc, .int .i64 mm, .int .i64 rt, .int .i64 mr, .int .i64 da, .int .i64 pe, .int .u32 isn] 26) := ⟨_, rfl⟩
  have hbW : Below w.heap.size w W := by rw [hW]; exact (Below.refl _ _).alloc (Nat.le_refl _) _
  have k0 : W.cell? ⟨w.heap.size, 0, none⟩ = some (.int .i64 ps) := by rw [hW]; simp
  have k2 : W.cell? ⟨w.heap.size, 2, none⟩ = some (.int .i64 wi) := by rw [hW]; simp
  have k8 : W.cell? ⟨w.heap.size, 8, none⟩ = some (.int .i64 mr) := by rw [hW]; simp
  have k9 : W.cell? ⟨w.heap.size, 9, none⟩ = some (.int .i64 da) := by rw [hW]; simp
  go_enter Try.func7, Try.ntmps7
  go_wp2_with fail
  rw [← hW]
  refine Calls.mono (hc W) ?_
  rintro e w2 ⟨rfl, hb2⟩
  have j0 := (hb2.cell (World.block_lt_of_cell? _ _ k0)).trans k0
  have j2 := (hb2.cell (World.block_lt_of_cell? _ _ k2)).trans k2
  have j8 := (hb2.cell (World.block_lt_of_cell? _ _ k8)).trans k8
  have j9 := (hb2.cell (World.block_lt_of_cell? _ _ k9)).trans k9
  have hbw := hbW.trans (hb2.mono hbW.size)
  clear hW k0 k2 k8 k9 hb2
  go_wp2
  go_ret
  exact ⟨rfl, hbw⟩

set_option maxRecDepth 100000 in
set_option maxHeartbeats 1000000 in
theorem fair_i_no (ps po wi pl sc rc mm rt mr da pe isn : Int) (bs : Int) (hc : Cfg ps po wi pl sc rc mm rt mr da pe isn 12 true) (hn : ¬ (0 ≤ bs ∧ bs ≤ 1099511627776)) : Fair ps po wi pl sc rc mm rt mr da pe isn bs 0 7 := by
  intro w
  obtain ⟨W, hW⟩ : ∃ W, W = w.alloc (.cells #[.int .i64 ps, .int .i64 po, .int .i64 wi, .int .i64 pl, .int .i64 sc, .int .i64 rc, .int .i64 mm, .int .i64 rt, .int .i64 mr, .int .i64 da, .int .i64 pe, .int .u32 isn] 26) := ⟨_, rfl⟩
  have hbW : Below w.heap.size w W := by rw [hW]; exact (Below.refl _ _).alloc (Nat.le_refl _) _
  have k0 : W.cell? ⟨w.heap.size, 0, none⟩ = some (.int .i64 ps) := by rw [hW]; simp
  have k2 : W.cell? ⟨w.heap.size, 2, none⟩ = some (.int .i64 wi) := by rw [hW]; simp
  have k8 : W.cell? ⟨w.heap.size, 8, none⟩ = some (.int .i64 mr) := by rw [hW]; simp
  have k9 : W.cell? ⟨w.heap.size, 9, none⟩ = some (.int .i64 da) := by rw [hW]; simp
  go_enter Try.func7, Try.ntmps7
  go_wp2_with fail
  rw [← hW]
  refine Calls.mono (hc W) ?_
  rintro e w2 ⟨rfl, hb2⟩
  have j0 := (hb2.cell (World.block_lt_of_cell? _ _ k0)).trans k0
  have j2 := (hb2.cell (World.block_lt_of_cell? _ _ k2)).trans k2
  have j8 := (hb2.cell (World.block_lt_of_cell? _ _ k8)).trans k8
  have j9 := (hb2.cell (World.block_lt_of_cell? _ _ k9)).trans k9
  have hbw := hbW.trans (hb2.mono hbW.size)
  clear hW k0 k2 k8 k9 hb2
  have HN : Hid (¬ (0 ≤ bs ∧ bs ≤ 1099511627776)) := hn
  clear hn
  go_wp2_with (go_at_call 13; with_reducible (refine Calls.mono (within_no bs 0 1099511627776 _ HN.out) ?_); rintro e w3 ⟨rfl, hw3⟩; obtain rfl := hw3)
  go_ret
  exact ⟨rfl, hbw⟩

theorem both_fair (ps po wi pl sc rc mm rt mr da pe isn : Int) (bs : Int) : ∃ r, Fair ps po wi pl sc rc mm rt mr da pe isn bs r 5 ∧ Fair ps po wi pl sc rc mm rt mr da pe isn bs r 7 := by
  rcases both_cfg ps po wi pl sc rc mm rt mr da pe isn with ⟨ht, hl, h1, h2⟩ | ⟨h1, h2⟩
  · by_cases hb : 0 ≤ bs ∧ bs ≤ 1099511627776
    · exact ⟨_, fair_s_yes ps po wi pl sc rc mm rt mr da pe isn bs ht hl h1 hb.1 hb.2, fair_i_yes ps po wi pl sc rc mm rt mr da pe isn bs ht hl h2 hb.1 hb.2⟩
    · refine ⟨0, ?_, fair_i_no ps po wi pl sc rc mm rt mr da pe isn bs h2 hb⟩
      by_cases h0 : bs < 0
      · exact fair_s_low ps po wi pl sc rc mm rt mr da pe isn bs h1 h0
      · exact fair_s_high ps po wi pl sc rc mm rt mr da pe isn bs h1 (by omega)
  · exact ⟨0, fair_s_cfg ps po wi pl sc rc mm rt mr da pe isn bs h1, fair_i_cfg ps po wi pl sc rc mm rt mr da pe isn bs h2⟩

set_option maxRecDepth 100000 in
set_option maxHeartbeats 1000000 in
theorem toConfig_is (ps po wi pl sc rc mm rt mr da pe isn : Int) (w : World) : Calls Try.prog 6 #[.agg #[.int .i64 ps, .int .i64 po, .int .i64 wi, .int .i64 pl, .int .i64 sc, .int .i64 rc, .int .i64 mm, .int .i64 rt, .int .i64 mr, .int .i64 da, .int .i64 pe, .int .u32 isn]] w fun e w' => e = .returned (.agg #[.int .i64 ps, .int .i64 po, .int .i64 wi, .int .i64 pl, .int .i64 sc, .int .i64 rc, .int .i64 mm, .int .i64 rt, .int .i64 mr, .int .i64 da, .int .i64 pe, .int .u32 isn]) ∧ Below w.heap.size w w' := by
  have hbW := fun o o1 o2 : Obj => (((Below.refl w.heap.size w).alloc (Nat.le_refl _) o).alloc (by simp) o1).alloc (by simp; omega) o2
  have hbX := fun o o1 : Obj => ((Below.refl w.heap.size w).alloc (Nat.le_refl _) o).alloc (by simp) o1
  go_enter Try.func6, Try.ntmps6
  go_wp2
  exact bodyPost_ret (v := .agg #[.int .i64 ps, .int .i64 po, .int .i64 wi, .int .i64 pl, .int .i64 sc, .int .i64 rc, .int .i64 mm, .int .i64 rt, .int .i64 mr, .int .i64 da, .int .i64 pe, .int .u32 isn]) (by simp [results, Try.results6, go_sem]) rfl ⟨rfl, by first | exact hbW _ _ _ | exact hbX _ _⟩

set_option maxRecDepth 100000 in
set_option maxHeartbeats 1000000 in
theorem lawFair (ps po wi pl sc rc mm rt mr da pe isn : Int) (bs : Int) (w : World) : Calls Try.prog 3 #[.agg #[.int .i64 ps, .int .i64 po, .int .i64 wi, .int .i64 pl, .int .i64 sc, .int .i64 rc, .int .i64 mm, .int .i64 rt, .int .i64 mr, .int .i64 da, .int .i64 pe, .int .u32 isn], .int .i64 bs] w fun e w' => e = .returned (.bool true) ∧ Below w.heap.size w w' := by
  obtain ⟨r, hs, hi⟩ := both_fair ps po wi pl sc rc mm rt mr da pe isn bs
  obtain ⟨W, hW⟩ : ∃ W, W = w.alloc (.cells #[.int .i64 ps, .int .i64 po, .int .i64 wi, .int .i64 pl, .int .i64 sc, .int .i64 rc, .int .i64 mm, .int .i64 rt, .int .i64 mr, .int .i64 da, .int .i64 pe, .int .u32 isn] 24) := ⟨_, rfl⟩
  have hbW : Below w.heap.size w W := by rw [hW]; exact (Below.refl _ _).alloc (Nat.le_refl _) _
  have k0 : W.cell? ⟨w.heap.size, 0, none⟩ = some (.int .i64 ps) := by rw [hW]; simp
  have k1 : W.cell? ⟨w.heap.size, 1, none⟩ = some (.int .i64 po) := by rw [hW]; simp
  have k2 : W.cell? ⟨w.heap.size, 2, none⟩ = some (.int .i64 wi) := by rw [hW]; simp
  have k3 : W.cell? ⟨w.heap.size, 3, none⟩ = some (.int .i64 pl) := by rw [hW]; simp
  have k4 : W.cell? ⟨w.heap.size, 4, none⟩ = some (.int .i64 sc) := by rw [hW]; simp
  have k5 : W.cell? ⟨w.heap.size, 5, none⟩ = some (.int .i64 rc) := by rw [hW]; simp
  have k6 : W.cell? ⟨w.heap.size, 6, none⟩ = some (.int .i64 mm) := by rw [hW]; simp
  have k7 : W.cell? ⟨w.heap.size, 7, none⟩ = some (.int .i64 rt) := by rw [hW]; simp
  have k8 : W.cell? ⟨w.heap.size, 8, none⟩ = some (.int .i64 mr) := by rw [hW]; simp
  have k9 : W.cell? ⟨w.heap.size, 9, none⟩ = some (.int .i64 da) := by rw [hW]; simp
  have k10 : W.cell? ⟨w.heap.size, 10, none⟩ = some (.int .i64 pe) := by rw [hW]; simp
  have k11 : W.cell? ⟨w.heap.size, 11, none⟩ = some (.int .u32 isn) := by rw [hW]; simp
  go_enter Try.func3, Try.ntmps3
  go_wp2_with fail
  rw [← hW]
  refine Calls.mono (toConfig_is ps po wi pl sc rc mm rt mr da pe isn W) ?_
  rintro e w1 ⟨rfl, hb1⟩
  have j0 := (hb1.cell (World.block_lt_of_cell? _ _ k0)).trans k0
  have j1 := (hb1.cell (World.block_lt_of_cell? _ _ k1)).trans k1
  have j2 := (hb1.cell (World.block_lt_of_cell? _ _ k2)).trans k2
  have j3 := (hb1.cell (World.block_lt_of_cell? _ _ k3)).trans k3
  have j4 := (hb1.cell (World.block_lt_of_cell? _ _ k4)).trans k4
  have j5 := (hb1.cell (World.block_lt_of_cell? _ _ k5)).trans k5
  have j6 := (hb1.cell (World.block_lt_of_cell? _ _ k6)).trans k6
  have j7 := (hb1.cell (World.block_lt_of_cell? _ _ k7)).trans k7
  have j8 := (hb1.cell (World.block_lt_of_cell? _ _ k8)).trans k8
  have j9 := (hb1.cell (World.block_lt_of_cell? _ _ k9)).trans k9
  have j10 := (hb1.cell (World.block_lt_of_cell? _ _ k10)).trans k10
  have j11 := (hb1.cell (World.block_lt_of_cell? _ _ k11)).trans k11
  have hbw1 := hbW.trans (hb1.mono hbW.size)
  clear hW k0 k1 k2 k3 k4 k5 k6 k7 k8 k9 k10 k11 hb1
  go_wp2_with fail
  refine Calls.mono (hs _) ?_
  rintro e w2 ⟨rfl, hb2⟩
  have i0 := (hb2.cell (World.block_lt_of_cell? _ _ j0)).trans j0
  have i1 := (hb2.cell (World.block_lt_of_cell? _ _ j1)).trans j1
  have i2 := (hb2.cell (World.block_lt_of_cell? _ _ j2)).trans j2
  have i3 := (hb2.cell (World.block_lt_of_cell? _ _ j3)).trans j3
  have i4 := (hb2.cell (World.block_lt_of_cell? _ _ j4)).trans j4
  have i5 := (hb2.cell (World.block_lt_of_cell? _ _ j5)).trans j5
  have i6 := (hb2.cell (World.block_lt_of_cell? _ _ j6)).trans j6
  have i7 := (hb2.cell (World.block_lt_of_cell? _ _ j7)).trans j7
  have i8 := (hb2.cell (World.block_lt_of_cell? _ _ j8)).trans j8
  have i9 := (hb2.cell (World.block_lt_of_cell? _ _ j9)).trans j9
  have i10 := (hb2.cell (World.block_lt_of_cell? _ _ j10)).trans j10
  have i11 := (hb2.cell (World.block_lt_of_cell? _ _ j11)).trans j11
  have hbw2 := hbw1.trans (hb2.mono hbw1.size)
  clear j0 j1 j2 j3 j4 j5 j6 j7 j8 j9 j10 j11 hb2
  go_wp2_with fail
  refine Calls.mono (toConfig_is ps po wi pl sc rc mm rt mr da pe isn _) ?_
  rintro e w3 ⟨rfl, hb3⟩
  have hbw3 := hbw2.trans (hb3.mono hbw2.size)
  clear hb3
  go_wp2_with fail
  refine Calls.mono (hi _) ?_
  rintro e w4 ⟨rfl, hb4⟩
  have hbw4 := hbw3.trans (hb4.mono hbw3.size)
  clear hb4
  go_wp2
  go_ret
  exact ⟨rfl, hbw4⟩
end Go.Proofs.Ytjiaiaclmceeeaa
