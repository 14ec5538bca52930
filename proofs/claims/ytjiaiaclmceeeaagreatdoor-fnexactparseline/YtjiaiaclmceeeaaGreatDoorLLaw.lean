import Derived.Test.YtjiaiaclmceeeaaGreatDoorLSpec3
namespace Go.Proofs.YtjiaiaclmceeeaaGreatDoor
open Go.ChangeShapes Go.WideShapes Go.ChangeAt Go.RowKit
set_option linter.unusedVariables false
set_option linter.unusedSimpArgs false

/-! ### The law of ParseLine -/
theorem parse_one (s : ByteArray) : ∃ (c : Cmd) (code : Int), ∀ w e w', ParseP s w e w' → e = .returned (.tuple #[.agg c.vals, .int .i64 code]) ∧ Below w.heap.size w w' := by
  by_cases h : 1000 < s.size
  · refine ⟨noCmd, 5, fun w e w' hp => ⟨?_, hp.2⟩⟩
    rcases hp.1 with ⟨_, h1⟩ | ⟨h1, _⟩ | ⟨h1, _⟩
    · exact h1
    · omega
    · omega
  by_cases hx : ∃ op ks, LineOK s op ks
  · obtain ⟨op, ks, hl⟩ := hx
    refine ⟨readTo s ks op ks.length, 0, fun w e w' hp => ⟨?_, hp.2⟩⟩
    rcases hp.1 with ⟨h1, _⟩ | ⟨_, op', ks', hl', h1⟩ | ⟨_, h1, _⟩
    · exact absurd h1 h
    · have e1 := hl.row
      rw [hl'.row] at e1
      simp only [Option.some.injEq, Prod.mk.injEq] at e1
      rw [h1, e1.1, e1.2]
    · exact absurd ⟨op, ks, hl⟩ h1
  · refine ⟨noCmd, 16, fun w e w' hp => ⟨?_, hp.2⟩⟩
    rcases hp.1 with ⟨h1, _⟩ | ⟨_, op', ks', hl', h1⟩ | ⟨_, _, h1⟩
    · exact absurd h1 h
    · exact absurd ⟨op', ks', hl'⟩ hx
    · exact h1
theorem beq_list (u : List UInt8) : (u == u) = true := by simp
set_option maxRecDepth 100000 in
set_option maxHeartbeats 1000000 in
theorem eqCommand_same (c : Cmd) (w : World) : Calls Tryz.prog 6 #[.agg c.vals, .agg c.vals] w fun e w' => e = .returned (.bool true) ∧ Below w.heap.size w w' := by
  have hbX := fun o o1 : Obj => ((Below.refl w.heap.size w).alloc (Nat.le_refl _) o).alloc (by simp) o1
  obtain ⟨a, b, d, f, g, u⟩ := c
  have hu := beq_list u.toList
  simp only [Cmd.vals]
  go_enter Tryz.func6, Tryz.ntmps6
  go_wp2_with fail
  go_ret
  exact ⟨rfl, hbX _ _⟩

set_option maxRecDepth 100000 in
set_option maxHeartbeats 1000000 in
theorem lawLine (s : ByteArray) (w : World) (hm : s.size ≤ 9223372036854775807) : Calls Tryz.prog 3 #[.string s] w fun e w' => e = .returned (.bool true) ∧ Below w.heap.size w w' := by
  by_cases hn : s.size ≤ 1048576
  · obtain ⟨c, code, hone⟩ := parse_one s
    have hs : ∀ w, Calls Tryz.prog 4 #[.string s] w fun e w' => e = .returned (.tuple #[.agg c.vals, .int .i64 code]) ∧ Below w.heap.size w w' := fun w => (specLine_any s w).mono fun e w' h => hone w e w' h
    have hi : ∀ w, Calls Tryz.prog 5 #[.string s] w fun e w' => e = .returned (.tuple #[.agg c.vals, .int .i64 code]) ∧ Below w.heap.size w w' := fun w => (parseLine_any s hn w).mono fun e w' h => hone w e w' h
    have hq := fun w => eqCommand_same c w
    clear hone
    obtain ⟨m0, m1, m2, m3, m4, u⟩ := c
    simp only [Cmd.vals] at hs hi hq
    have hn' : ¬ (1048576 : Int) < (s.size : Int) := by omega
    go_enter Tryz.func3, Tryz.ntmps3
    go_wp2_with fail
    refine Calls.mono (hs _) ?_
    rintro e w1 ⟨rfl, hb1⟩
    obtain ⟨V1, hV1⟩ : ∃ x, x = w1.alloc (.cells #[.int .i64 m0, .int .i64 m1, .int .i64 m2, .int .i64 m3, .int .i64 m4, .string u] 23) := ⟨_, rfl⟩
    have hbV : Below w.heap.size w V1 := by rw [hV1]; exact hb1.alloc hb1.size _
    have k0 : V1.cell? ⟨w1.heap.size, 0, none⟩ = some (.int .i64 m0) := by rw [hV1]; simp
    have k1 : V1.cell? ⟨w1.heap.size, 1, none⟩ = some (.int .i64 m1) := by rw [hV1]; simp
    have k2 : V1.cell? ⟨w1.heap.size, 2, none⟩ = some (.int .i64 m2) := by rw [hV1]; simp
    have k3 : V1.cell? ⟨w1.heap.size, 3, none⟩ = some (.int .i64 m3) := by rw [hV1]; simp
    have k4 : V1.cell? ⟨w1.heap.size, 4, none⟩ = some (.int .i64 m4) := by rw [hV1]; simp
    have k5 : V1.cell? ⟨w1.heap.size, 5, none⟩ = some (.string u) := by rw [hV1]; simp
    go_wp2_with fail
    rw [← hV1]
    clear hV1 hb1
    refine Calls.mono (hi _) ?_
    rintro e w2 ⟨rfl, hb2⟩
    have j0 := (hb2.cell (World.block_lt_of_cell? _ _ k0)).trans k0
    have j1 := (hb2.cell (World.block_lt_of_cell? _ _ k1)).trans k1
    have j2 := (hb2.cell (World.block_lt_of_cell? _ _ k2)).trans k2
    have j3 := (hb2.cell (World.block_lt_of_cell? _ _ k3)).trans k3
    have j4 := (hb2.cell (World.block_lt_of_cell? _ _ k4)).trans k4
    have j5 := (hb2.cell (World.block_lt_of_cell? _ _ k5)).trans k5
    have hbw2 := hbV.trans (hb2.mono hbV.size)
    have bl : w1.heap.size < w2.heap.size := World.block_lt_of_cell? _ _ j0
    have bn : ¬ w1.heap.size = w2.heap.size := by omega
    have bm : ¬ w2.heap.size = w1.heap.size := by omega
    clear hb2 k0 k1 k2 k3 k4 k5
    obtain ⟨V2, hV2⟩ : ∃ x, x = w2.alloc (.cells #[.int .i64 m0, .int .i64 m1, .int .i64 m2, .int .i64 m3, .int .i64 m4, .string u] 23) := ⟨_, rfl⟩
    have hbV2 : Below w.heap.size w V2 := by rw [hV2]; exact hbw2.alloc hbw2.size _
    go_wp2_with fail
    rw [← hV2]
    clear hV2
    refine Calls.mono (hq _) ?_
    rintro e w3 ⟨rfl, hb3⟩
    go_wp2_with fail
    go_ret
    exact ⟨rfl, hbV2.trans (hb3.mono hbV2.size)⟩
  · have hn' : (1048576 : Int) < (s.size : Int) := by omega
    go_enter Tryz.func3, Tryz.ntmps3
    go_wp2_with fail
    go_ret
    exact ⟨rfl, Below.refl _ _⟩
end Go.Proofs.YtjiaiaclmceeeaaGreatDoor
