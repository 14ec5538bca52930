import Derived.Test.YtlagaiekoahjnaaPickMath
namespace Go.Proofs.Ytlagaiekoahjnaa
open Go.ChangeShapes Go.WideShapes Go.ChangeAt Go.RowKit
set_option linter.unusedVariables false

set_option maxRecDepth 100000 in
set_option maxHeartbeats 4000000 in
theorem specPathsOK (a : Option Addr) (V : Vws) (cap : Nat) (w : World) (hS : LieV w a V) (hf : FitsV V) (hl : V.length ≤ 9223372036854775807) :
    Calls Try.prog 47 #[.slice a V.length cap] w fun e w' => ∃ b : Bool, e = .returned (.bool b) ∧ (b = true ↔ (1 ≤ V.length ∧ V.length ≤ 8) ∧ ValidV V) ∧ Below w.heap.size w w' := by
  rcases (show V.length < 1 ∨ (1 ≤ V.length ∧ 8 < V.length) ∨ (1 ≤ V.length ∧ V.length ≤ 8) by omega) with hb0 | ⟨hb1, hb2⟩ | ⟨hb1, hb2⟩
  · have x1 : (V.length : Int) < 1 := by omega
    go_enter Try.func47, Try.ntmps47
    go_wp2
    go_ret
    exact ⟨false, rfl, ⟨fun h => (by cases h), fun h => by omega⟩, Below.refl _ _⟩
  · have x1 : 1 ≤ (V.length : Int) := by omega
    have x2 : 8 < (V.length : Int) := by omega
    go_enter Try.func47, Try.ntmps47
    go_wp2
    go_ret
    exact ⟨false, rfl, ⟨fun h => (by cases h), fun h => by omega⟩, Below.refl _ _⟩
  · have x1 : 1 ≤ (V.length : Int) := by omega
    have x2 : (V.length : Int) ≤ 8 := by omega
    go_enter Try.func47, Try.ntmps47
    go_wp2
    go_loopw [3] (fun i wr => ∃ k : Nat, k ≤ V.length ∧ i = .int .i64 k ∧ OkV V k ∧ Below w.heap.size w wr) (fun i _ => V.length - (intOf i).toNat)
    case atStart => exact ⟨0, Nat.zero_le _, rfl, OkV.start V, Below.refl _ _⟩
    case round =>
      obtain ⟨k, hk, rfl, ht, hb⟩ := hrel
      have HT : Hid (OkV V k) := ht
      clear ht
      by_cases hlt : k < V.length
      · rcases hS with h | ⟨b, off, rfl, hc⟩
        · simp [h] at hlt
        obtain ⟨c0, c1, c2, hn, hok, q0, q1, q2⟩ := LieV.at hf hc hlt
        have r0 : wr.cell? ⟨b, off + k * 3, none⟩ = some (.int .i64 c0) := by rw [hb.cell (World.block_lt_of_cell? w _ q0)]; exact q0
        have r1 : wr.cell? ⟨b, off + k * 3 + 1, none⟩ = some (.int .i64 c1) := by rw [hb.cell (World.block_lt_of_cell? w _ q1)]; exact q1
        have r2 : wr.cell? ⟨b, off + k * 3 + 2, none⟩ = some (.int .i64 c2) := by rw [hb.cell (World.block_lt_of_cell? w _ q2)]; exact q2
        have hb' := fun v => hb.alloc hb.size v
        clear hok q0 q1 q2 hc hf
        have bad : ¬ okV ⟨c0, c1, c2⟩ → ¬ ValidV V := fun h => not_validV hlt (by rw [hn.out]; exact h)
        rcases (show (¬ c0 = 0 ∧ ¬ c0 = 1) ∨ ((c0 = 0 ∨ c0 = 1) ∧ (c1 < 0 ∨ (0 ≤ c1 ∧ 16 < c1) ∨ (0 ≤ c1 ∧ c1 ≤ 16 ∧ (c2 < 0 ∨ (0 ≤ c2 ∧ 16 < c2) ∨ (0 ≤ c2 ∧ c2 ≤ 16))))) by omega) with ⟨g0, g1⟩ | ⟨g, h⟩
        · have hs := bad (by simp only [okV]; omega)
          have g0' : (c0 != 0) = true := by simpa using g0
          have g1' : (c0 != 1) = true := by simpa using g1
          clear bad hn HT
          go_wp2
          go_ret
          exact ⟨false, rfl, ⟨fun h => (by cases h), fun h => absurd h.2 hs⟩, hb' _⟩
        · rcases h with h | ⟨h1, h2⟩ | ⟨h1, h2, h | ⟨h3, h4⟩ | ⟨h3, h4⟩⟩
          · have hs := bad (by simp only [okV]; omega)
            clear bad hn HT
            rcases g with rfl | rfl
            all_goals
              go_wp2
              go_ret
              exact ⟨false, rfl, ⟨fun h => (by cases h), fun h => absurd h.2 hs⟩, hb' _⟩
          · have hs := bad (by simp only [okV]; omega)
            clear bad hn HT
            rcases g with rfl | rfl
            all_goals
              go_wp2
              go_ret
              exact ⟨false, rfl, ⟨fun h => (by cases h), fun h => absurd h.2 hs⟩, hb' _⟩
          · have hs := bad (by simp only [okV]; omega)
            clear bad hn HT
            rcases g with rfl | rfl
            all_goals
              go_wp2
              go_ret
              exact ⟨false, rfl, ⟨fun h => (by cases h), fun h => absurd h.2 hs⟩, hb' _⟩
          · have hs := bad (by simp only [okV]; omega)
            clear bad hn HT
            rcases g with rfl | rfl
            all_goals
              go_wp2
              go_ret
              exact ⟨false, rfl, ⟨fun h => (by cases h), fun h => absurd h.2 hs⟩, hb' _⟩
          · have HS : Hid (OkV V (k + 1)) := HT.out.next hlt (by rw [hn.out]; simp only [okV]; omega)
            clear bad hn HT
            rcases g with rfl | rfl
            all_goals
              go_wp2
              go_roundw
              case rel => exact ⟨k + 1, by omega, by go_num, HS.out, hb' _⟩
              case measure => simp [intOf]; omega
      · go_wp2
        go_ret
        exact ⟨true, rfl, ⟨fun _ => ⟨⟨hb1, hb2⟩, HT.out.all hlt⟩, fun _ => rfl⟩, hb⟩

set_option maxRecDepth 100000 in
set_option maxHeartbeats 4000000 in
theorem implPathsOK (a : Option Addr) (V : Vws) (cap : Nat) (w : World) (hS : LieV w a V) (hf : FitsV V) (hl : V.length ≤ 9223372036854775807) :
    Calls Try.prog 72 #[.slice a V.length cap] w fun e w' => ∃ b : Bool, e = .returned (.bool b) ∧ (b = true ↔ (1 ≤ V.length ∧ V.length ≤ 8) ∧ ValidV V) ∧ Below w.heap.size w w' := by
  by_cases hlen : 1 ≤ (V.length : Int) ∧ (V.length : Int) ≤ 8
  · go_enter Try.func72, Try.ntmps72
    go_wp2_with (go_at_call 65; refine (within_yes _ _ _ _ hlen.1 hlen.2).mono ?_; rintro e w2 ⟨rfl, rfl⟩)
    go_loopw [11] (fun i wr => ∃ k : Nat, k ≤ V.length ∧ i = .int .i64 k ∧ OkV V k ∧ Below w2.heap.size w2 wr) (fun i _ => V.length - (intOf i).toNat)
    case atStart => exact ⟨0, Nat.zero_le _, rfl, OkV.start V, Below.refl _ _⟩
    case round =>
      obtain ⟨k, hk, rfl, ht, hb⟩ := hrel
      have HT : Hid (OkV V k) := ht
      clear ht
      by_cases hlt : k < V.length
      · rcases hS with h | ⟨b, off, rfl, hc⟩
        · simp [h] at hlt
        obtain ⟨c0, c1, c2, hn, hok, q0, q1, q2⟩ := LieV.at hf hc hlt
        have r0 : wr.cell? ⟨b, off + k * 3, none⟩ = some (.int .i64 c0) := by rw [hb.cell (World.block_lt_of_cell? _ _ q0)]; exact q0
        have r1 : wr.cell? ⟨b, off + k * 3 + 1, none⟩ = some (.int .i64 c1) := by rw [hb.cell (World.block_lt_of_cell? _ _ q1)]; exact q1
        have r2 : wr.cell? ⟨b, off + k * 3 + 2, none⟩ = some (.int .i64 c2) := by rw [hb.cell (World.block_lt_of_cell? _ _ q2)]; exact q2
        have hb' := fun v => hb.alloc hb.size v
        clear hok q0 q1 q2 hc hf
        have bad : ¬ okV ⟨c0, c1, c2⟩ → ¬ ValidV V := fun h => not_validV hlt (by rw [hn.out]; exact h)
        by_cases g0 : 0 ≤ c0 ∧ c0 ≤ 1
        · by_cases g1 : 0 ≤ c1 ∧ c1 ≤ 16
          · by_cases g2 : 0 ≤ c2 ∧ c2 ≤ 16
            · have HS : Hid (OkV V (k + 1)) := HT.out.next hlt (by rw [hn.out]; exact ⟨g0, g1, g2⟩)
              clear bad hn HT
              go_wp2_with (first
                | (go_at_call 76; refine (isMark_yes _ _ g0.1 g0.2).mono ?_; rintro e w3 ⟨rfl, rfl⟩)
                | (go_at_call 65; with_reducible (refine Calls.mono (within_yes c1 0 16 _ g1.1 g1.2) ?_); rintro e w3 ⟨rfl, rfl⟩)
                | (go_at_call 65; with_reducible (refine Calls.mono (within_yes c2 0 16 _ g2.1 g2.2) ?_); rintro e w3 ⟨rfl, rfl⟩))
              go_roundw
              case rel => exact ⟨k + 1, by omega, by go_num, HS.out, hb' _⟩
              case measure => simp [intOf]; omega
            · have hs := bad (fun h => g2 h.2.2)
              clear bad hn HT
              go_wp2_with (first
                | (go_at_call 76; refine (isMark_yes _ _ g0.1 g0.2).mono ?_; rintro e w3 ⟨rfl, rfl⟩)
                | (go_at_call 65; with_reducible (refine Calls.mono (within_yes c1 0 16 _ g1.1 g1.2) ?_); rintro e w3 ⟨rfl, rfl⟩)
                | (go_at_call 65; with_reducible (refine Calls.mono (within_no c2 0 16 _ g2) ?_); rintro e w3 ⟨rfl, rfl⟩))
              go_ret
              exact ⟨false, rfl, ⟨fun h => (by cases h), fun h => absurd h.2 hs⟩, hb' _⟩
          · have hs := bad (fun h => g1 h.2.1)
            clear bad hn HT
            go_wp2_with (first
              | (go_at_call 76; refine (isMark_yes _ _ g0.1 g0.2).mono ?_; rintro e w3 ⟨rfl, rfl⟩)
              | (go_at_call 65; with_reducible (refine Calls.mono (within_no c1 0 16 _ g1) ?_); rintro e w3 ⟨rfl, rfl⟩))
            go_ret
            exact ⟨false, rfl, ⟨fun h => (by cases h), fun h => absurd h.2 hs⟩, hb' _⟩
        · have hs := bad (fun h => g0 h.1)
          clear bad hn HT
          go_wp2_with (go_at_call 76; refine (isMark_no _ _ g0).mono ?_; rintro e w3 ⟨rfl, rfl⟩)
          go_ret
          exact ⟨false, rfl, ⟨fun h => (by cases h), fun h => absurd h.2 hs⟩, hb' _⟩
      · go_wp2
        go_ret
        exact ⟨true, rfl, ⟨fun _ => ⟨by omega, HT.out.all hlt⟩, fun _ => rfl⟩, hb⟩
  · go_enter Try.func72, Try.ntmps72
    go_wp2_with (go_at_call 65; refine (within_no _ _ _ _ hlen).mono ?_; rintro e w2 ⟨rfl, rfl⟩)
    go_ret
    exact ⟨false, rfl, ⟨fun h => (by cases h), fun h => by omega⟩, Below.refl _ _⟩
end Go.Proofs.Ytlagaiekoahjnaa
