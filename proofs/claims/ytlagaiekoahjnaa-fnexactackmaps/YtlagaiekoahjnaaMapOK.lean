import Derived.Test.YtlagaiekoahjnaaMapMath
namespace Go.Proofs.Ytlagaiekoahjnaa
open Go.ChangeShapes Go.WideShapes Go.ChangeAt Go.RowKit
set_option linter.unusedVariables false

set_option maxRecDepth 100000 in
set_option maxHeartbeats 20000000 in
theorem specMapsOK (a : Option Addr) (S : Mps) (cap : Nat) (w : World) (hS : LieM w a S) (hf : FitsM S) (hl : S.length ≤ 9223372036854775807) :
    Calls Try.prog 37 #[.slice a S.length cap] w fun e w' => ∃ b : Bool, e = .returned (.bool b) ∧ (b = true ↔ S.length ≤ 256 ∧ Valid S) ∧ Below w.heap.size w w' := by
  by_cases hbig : S.length ≤ 256
  · go_enter Try.func37, Try.ntmps37
    go_wp2
    go_loopw [3] (fun i wr => ∃ k : Nat, k ≤ S.length ∧ i = .int .i64 k ∧ OkS S k ∧ Below w.heap.size w wr) (fun i _ => S.length - (intOf i).toNat)
    case atStart => exact ⟨0, Nat.zero_le _, rfl, OkS.start S, Below.refl _ _⟩
    case round =>
      obtain ⟨k, hk, rfl, ht, hb⟩ := hrel
      have HT : Hid (OkS S k) := ht
      clear ht
      by_cases hlt : k < S.length
      · rcases hS with h | ⟨b, off, rfl, hc⟩
        · simp [h] at hlt
        obtain ⟨c0, c1, c2, c3, c4, hn, hok, q0, q1, q2, q3, q4⟩ := LieM.at hf hc hlt
        have r0 : wr.cell? ⟨b, off + k * 5, none⟩ = some (.int .u64 c0) := by rw [hb.cell (World.block_lt_of_cell? w _ q0)]; exact q0
        have r1 : wr.cell? ⟨b, off + k * 5 + 1, none⟩ = some (.int .i64 c1) := by rw [hb.cell (World.block_lt_of_cell? w _ q1)]; exact q1
        have r2 : wr.cell? ⟨b, off + k * 5 + 2, none⟩ = some (.int .i64 c2) := by rw [hb.cell (World.block_lt_of_cell? w _ q2)]; exact q2
        have r3 : wr.cell? ⟨b, off + k * 5 + 3, none⟩ = some (.int .i64 c3) := by rw [hb.cell (World.block_lt_of_cell? w _ q3)]; exact q3
        have r4 : wr.cell? ⟨b, off + k * 5 + 4, none⟩ = some (.int .i64 c4) := by rw [hb.cell (World.block_lt_of_cell? w _ q4)]; exact q4
        simp only [Mp.ok] at hok
        clear q0 q1 q2 q3 q4
        have hok0 := hok.1.1
        clear hok
        rcases (show 4611686018427387904 < c0 ∨ (c0 ≤ 4611686018427387904 ∧ c3 < 1) ∨ (c0 ≤ 4611686018427387904 ∧ 1 ≤ c3 ∧ 255 < c3) ∨ (c0 ≤ 4611686018427387904 ∧ 1 ≤ c3 ∧ c3 ≤ 255 ∧ ¬ c4 = 0 ∧ ¬ c4 = 1) ∨ (c0 ≤ 4611686018427387904 ∧ 1 ≤ c3 ∧ c3 ≤ 255 ∧ (c4 = 0 ∨ c4 = 1)) by omega) with g | ⟨g1, g⟩ | ⟨g1, g2, g⟩ | ⟨g1, g2, g3, g4, g5⟩ | ⟨g1, g2, g3, g⟩
        · have hs : ¬ Valid S := not_validS hlt (by rw [hn.out]; intro h; have := h.1.1; simp only at this; omega)
          clear hc hf hn HT
          go_wp2
          go_ret
          exact ⟨false, rfl, ⟨fun h => (by cases h), fun h => absurd h.2 hs⟩, hb.alloc hb.size _⟩
        · have hs : ¬ Valid S := not_validS hlt (by rw [hn.out]; intro h; have := h.1.2.1; simp only at this; omega)
          clear hc hf hn HT
          go_wp2
          go_ret
          exact ⟨false, rfl, ⟨fun h => (by cases h), fun h => absurd h.2 hs⟩, hb.alloc hb.size _⟩
        · have hs : ¬ Valid S := not_validS hlt (by rw [hn.out]; intro h; have := h.1.2.2.1; simp only at this; omega)
          clear hc hf hn HT
          go_wp2
          go_ret
          exact ⟨false, rfl, ⟨fun h => (by cases h), fun h => absurd h.2 hs⟩, hb.alloc hb.size _⟩
        · have hs : ¬ Valid S := not_validS hlt (by rw [hn.out]; intro h; have := h.1.2.2.2; simp only at this; omega)
          have g4' : (c4 != 0) = true := by simpa using g4
          have g5' : (c4 != 1) = true := by simpa using g5
          clear hc hf hn HT
          go_wp2
          go_ret
          exact ⟨false, rfl, ⟨fun h => (by cases h), fun h => absurd h.2 hs⟩, hb.alloc hb.size _⟩
        · have hb' := fun v => hb.alloc hb.size v
          rcases (show (c2 = 0 ∧ c1 < 1) ∨ (c2 = 0 ∧ 1 ≤ c1 ∧ 32 < c1) ∨ (c2 = 0 ∧ 1 ≤ c1 ∧ c1 ≤ 32) ∨ (c2 = 1 ∧ c1 = 0 ∧ Hid (k + 1 = S.length)) ∨ (c2 = 1 ∧ c1 = 0 ∧ ¬ k + 1 = S.length) ∨ (c2 = 1 ∧ ¬ c1 = 0) ∨ (¬ c2 = 0 ∧ ¬ c2 = 1) by unfold Hid; omega) with ⟨rfl, d⟩ | ⟨rfl, d, d'⟩ | ⟨rfl, d, d'⟩ | ⟨rfl, rfl, d⟩ | ⟨rfl, rfl, d⟩ | ⟨rfl, d⟩ | ⟨d, d'⟩
          · have hs : ¬ Valid S := not_validS hlt (by rw [hn.out]; intro h; have := h.2.1; simp only [data, fine] at this; omega)
            clear hc hf hn HT
            rcases g with rfl | rfl
            all_goals
              go_wp2
              go_quiet (fail)
              all_goals
                go_wp2
                go_ret
                exact ⟨false, rfl, ⟨fun h => (by cases h), fun h => absurd h.2 hs⟩, drewsN (hb' _) _⟩
          · have hs : ¬ Valid S := not_validS hlt (by rw [hn.out]; intro h; have := h.2.1; simp only [data, fine] at this; omega)
            have x1 : decide (c1 ≤ 32) = false := by simp; omega
            clear hc hf hn HT
            rcases g with rfl | rfl
            all_goals
              go_wp2
              go_quiet (fail)
              all_goals
                go_wp2
                go_ret
                exact ⟨false, rfl, ⟨fun h => (by cases h), fun h => absurd h.2 hs⟩, drewsN (hb' _) _⟩
          · cases k with
            | zero =>
              have HS : Hid (OkS S (0 + 1)) := HT.out.next hlt (by rw [hn.out]; exact ⟨⟨g1, g2, g3, by simp only; omega, by simp only; omega⟩, .inl ⟨rfl, d, d'⟩, fun h => by omega⟩)
              simp only [Nat.zero_mul, Nat.add_zero] at r0 r1 r2 r3 r4
              clear hc hf hn HT
              rcases g with rfl | rfl
              all_goals
                go_wp2
                go_quiet (fail)
                all_goals
                  go_wp2
                  go_roundw
                  case rel => exact ⟨1, by omega, by go_num, HS.out, drewsN (hb' _) _⟩
                  case measure => simp [intOf]; omega
            | succ j =>
              have hd := HT.out.data (i := j) (by omega) hlt
              obtain ⟨d0, d1, d2, d3, d4, hn', hok', q0, q1, q2, q3, q4⟩ := LieM.at hf hc (show j < S.length by omega)
              have s0 : wr.cell? ⟨b, off + j * 5, none⟩ = some (.int .u64 d0) := by rw [hb.cell (World.block_lt_of_cell? w _ q0)]; exact q0
              have s1 : wr.cell? ⟨b, off + j * 5 + 1, none⟩ = some (.int .i64 d1) := by rw [hb.cell (World.block_lt_of_cell? w _ q1)]; exact q1
              have hgp := (HT.out j (by omega) (by omega)).1
              rw [hn'.out] at hd hgp
              have e0 : 0 ≤ d0 := hok'.1.1
              have e1 : d0 ≤ 4611686018427387904 := hgp.1
              have e2 : 1 ≤ d1 := hd.2.1
              have e3 : d1 ≤ 32 := hd.2.2
              have e4 : 0 ≤ d1 := by omega
              have e5 : 0 ≤ d0 + d1 := by omega
              have e6 : d0 + d1 ≤ 18446744073709551615 := by omega
              have e7 : d0 + d1 < 18446744073709551616 := by omega
              have bl : b < wr.heap.size := World.block_lt_of_cell? wr _ s0
              have bl2 : ¬ b = wr.heap.size := by omega
              have bl3 : ¬ wr.heap.size = b := by omega
              have j0 : (0 : Int) < (j : Int) + 1 := by omega
              have j1 : (0 : Int) ≤ (j : Int) + 1 := by omega
              have j4 : (j : Int) ≤ 9223372036854775807 := by omega
              have j5 : (0 : Int) ≤ (j : Int) := by omega
              have j6 : IntKind.i64.wrap (j : Int) = (j : Int) := by rw [IntKind.wrap_i64]; omega
              have j7 : (j : Int) < (S.length : Int) := by omega
              have j3 : decide ((0 : Int) < (j : Int) + 1) = true := by rw [decide_eq_true_iff]; omega
              have j2 : (j : Int) + 1 < (S.length : Int) := by omega
              by_cases hg : d0 + d1 ≤ c0
              · have g6 : decide (c0 < d0 + d1) = false := by simp; omega
                have hs := HT.out.next hlt (by simp only [Nat.add_sub_cancel]; rw [hn.out, hn'.out]; exact ⟨⟨g1, g2, g3, by simp only; omega, by simp only; omega⟩, .inl ⟨rfl, d, d'⟩, fun _ => hg⟩)
                clear hc hf hn HT hn' hd hgp hok' q0 q1 q2 q3 q4
                rcases g with rfl | rfl
                all_goals
                  go_wp2
                  go_quiet (fail)
                  all_goals
                    go_wp2
                    go_roundw
                    case rel => exact ⟨j + 1 + 1, by omega, by go_num, hs, drewsN (hb' _) _⟩
                    case measure => simp [intOf]; omega
              · have g6 : decide (c0 < d0 + d1) = true := by simp; omega
                have hs : ¬ Valid S := not_validS hlt (by simp only [Nat.add_sub_cancel]; rw [hn.out, hn'.out]; intro h; exact hg (h.2.2 (by omega)))
                clear hc hf hn HT hn' hd hgp hok' q0 q1 q2 q3 q4
                rcases g with rfl | rfl
                all_goals
                  go_wp2
                  go_quiet (fail)
                  all_goals
                    go_wp2
                    go_ret
                    exact ⟨false, rfl, ⟨fun h => (by cases h), fun h => absurd h.2 hs⟩, drewsN (hb' _) _⟩
          · cases k with
            | zero =>
              have HS : Hid (OkS S (0 + 1)) := HT.out.next hlt (by rw [hn.out]; exact ⟨⟨g1, g2, g3, by simp only; omega, by simp only; omega⟩, .inr ⟨⟨rfl, rfl⟩, d.out⟩, fun h => by omega⟩)
              have x1 : ((0 : Int) == (S.length : Int) - 1) = true := by have := d.out; simp; omega
              simp only [Nat.zero_mul, Nat.add_zero] at r0 r1 r2 r3 r4
              clear hc hf hn HT d
              rcases g with rfl | rfl
              all_goals
                go_wp2
                go_quiet (fail)
                all_goals
                  go_wp2
                  go_roundw
                  case rel => exact ⟨1, by omega, by go_num, HS.out, drewsN (hb' _) _⟩
                  case measure => simp [intOf]; omega
            | succ j =>
              have hd := HT.out.data (i := j) (by omega) hlt
              obtain ⟨d0, d1, d2, d3, d4, hn', hok', q0, q1, q2, q3, q4⟩ := LieM.at hf hc (show j < S.length by omega)
              have s0 : wr.cell? ⟨b, off + j * 5, none⟩ = some (.int .u64 d0) := by rw [hb.cell (World.block_lt_of_cell? w _ q0)]; exact q0
              have s1 : wr.cell? ⟨b, off + j * 5 + 1, none⟩ = some (.int .i64 d1) := by rw [hb.cell (World.block_lt_of_cell? w _ q1)]; exact q1
              have hgp := (HT.out j (by omega) (by omega)).1
              rw [hn'.out] at hd hgp
              have e0 : 0 ≤ d0 := hok'.1.1
              have e1 : d0 ≤ 4611686018427387904 := hgp.1
              have e2 : 1 ≤ d1 := hd.2.1
              have e3 : d1 ≤ 32 := hd.2.2
              have e4 : 0 ≤ d1 := by omega
              have e5 : 0 ≤ d0 + d1 := by omega
              have e6 : d0 + d1 ≤ 18446744073709551615 := by omega
              have e7 : d0 + d1 < 18446744073709551616 := by omega
              have bl : b < wr.heap.size := World.block_lt_of_cell? wr _ s0
              have bl2 : ¬ b = wr.heap.size := by omega
              have bl3 : ¬ wr.heap.size = b := by omega
              have x1 : ((j : Int) + 1 == (S.length : Int) - 1) = true := by have := d.out; simp; omega
              have j0 : (0 : Int) < (j : Int) + 1 := by omega
              have j1 : (0 : Int) ≤ (j : Int) + 1 := by omega
              have j4 : (j : Int) ≤ 9223372036854775807 := by omega
              have j5 : (0 : Int) ≤ (j : Int) := by omega
              have j6 : IntKind.i64.wrap (j : Int) = (j : Int) := by rw [IntKind.wrap_i64]; omega
              have j7 : (j : Int) < (S.length : Int) := by omega
              have j3 : decide ((0 : Int) < (j : Int) + 1) = true := by rw [decide_eq_true_iff]; omega
              have j2 : (j : Int) + 1 < (S.length : Int) := by omega
              by_cases hg : d0 + d1 ≤ c0
              · have g6 : decide (c0 < d0 + d1) = false := by simp; omega
                have hs := HT.out.next hlt (by simp only [Nat.add_sub_cancel]; rw [hn.out, hn'.out]; exact ⟨⟨g1, g2, g3, by simp only; omega, by simp only; omega⟩, .inr ⟨⟨rfl, rfl⟩, d.out⟩, fun _ => hg⟩)
                clear hc hf hn HT d hn' hd hgp hok' q0 q1 q2 q3 q4
                rcases g with rfl | rfl
                all_goals
                  go_wp2
                  go_quiet (fail)
                  all_goals
                    go_wp2
                    go_roundw
                    case rel => exact ⟨j + 1 + 1, by omega, by go_num, hs, drewsN (hb' _) _⟩
                    case measure => simp [intOf]; omega
              · have g6 : decide (c0 < d0 + d1) = true := by simp; omega
                have hs : ¬ Valid S := not_validS hlt (by simp only [Nat.add_sub_cancel]; rw [hn.out, hn'.out]; intro h; exact hg (h.2.2 (by omega)))
                clear hc hf hn HT d hn' hd hgp hok' q0 q1 q2 q3 q4
                rcases g with rfl | rfl
                all_goals
                  go_wp2
                  go_quiet (fail)
                  all_goals
                    go_wp2
                    go_ret
                    exact ⟨false, rfl, ⟨fun h => (by cases h), fun h => absurd h.2 hs⟩, drewsN (hb' _) _⟩
          · have hs : ¬ Valid S := not_validS hlt (by rw [hn.out]; intro h; have := h.2.1; simp only [data, fine] at this; omega)
            have x1 : ((k : Int) == (S.length : Int) - 1) = false := by simp; omega
            clear hc hf hn HT
            rcases g with rfl | rfl
            all_goals
              go_wp2
              go_quiet (fail)
              all_goals
                go_wp2
                go_ret
                exact ⟨false, rfl, ⟨fun h => (by cases h), fun h => absurd h.2 hs⟩, drewsN (hb' _) _⟩
          · have hs : ¬ Valid S := not_validS hlt (by rw [hn.out]; intro h; have := h.2.1; simp only [data, fine] at this; omega)
            have x1 : (c1 == 0) = false := by simpa using d
            clear hc hf hn HT
            rcases g with rfl | rfl
            all_goals
              go_wp2
              go_quiet (fail)
              all_goals
                go_wp2
                go_ret
                exact ⟨false, rfl, ⟨fun h => (by cases h), fun h => absurd h.2 hs⟩, drewsN (hb' _) _⟩
          · have hs : ¬ Valid S := not_validS hlt (by rw [hn.out]; intro h; have := h.2.1; simp only [data, fine] at this; omega)
            have x1 : (c2 == 0) = false := by simpa using d
            have x2 : (c2 == 1) = false := by simpa using d'
            clear hc hf hn HT
            rcases g with rfl | rfl
            all_goals
              go_wp2
              go_quiet (fail)
              all_goals
                go_wp2
                go_ret
                exact ⟨false, rfl, ⟨fun h => (by cases h), fun h => absurd h.2 hs⟩, drewsN (hb' _) _⟩
      · go_wp2
        go_ret
        exact ⟨true, rfl, ⟨fun _ => ⟨hbig, HT.out.all hlt⟩, fun _ => rfl⟩, hb⟩
  · go_enter Try.func37, Try.ntmps37
    go_wp2
    go_ret
    exact ⟨false, rfl, ⟨fun h => (by cases h), fun h => absurd h.1 hbig⟩, Below.refl _ _⟩
end Go.Proofs.Ytlagaiekoahjnaa
