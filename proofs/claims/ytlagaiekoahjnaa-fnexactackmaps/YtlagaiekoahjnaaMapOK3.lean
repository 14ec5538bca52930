import Derived.Test.YtlagaiekoahjnaaMapOK2
namespace Go.Proofs.Ytlagaiekoahjnaa
open Go.ChangeShapes Go.WideShapes Go.ChangeAt Go.RowKit
set_option linter.unusedVariables false

theorem shape_of {k : Nat} {p m : Mp} (h : stepI k p m) : shape m := ⟨h.1, h.2.1⟩
theorem OkI.shape {S : Mps} {k : Nat} (h : OkI S k) {i : Nat} (hi : i < k) (hl : i < S.length) : shape S[i] := shape_of (h i hl hi)

set_option maxRecDepth 100000 in
set_option maxHeartbeats 8000000 in
theorem implMapsOK (a : Option Addr) (S : Mps) (cap : Nat) (w : World) (hS : LieM w a S) (hf : FitsM S) (hl : S.length ≤ 9223372036854775807) :
    Calls Try.prog 39 #[.slice a S.length cap] w fun e w' => ∃ b : Bool, e = .returned (.bool b) ∧ (b = true ↔ S.length ≤ 256 ∧ Valid S) ∧ Below w.heap.size w w' := by
  by_cases hbig : S.length ≤ 256
  · go_enter Try.func39, Try.ntmps39
    go_wp2
    go_loopw [10] (fun i wr => ∃ k : Nat, k ≤ S.length ∧ i = .int .i64 k ∧ OkI S k ∧ Below w.heap.size w wr) (fun i _ => S.length - (intOf i).toNat)
    case atStart => exact ⟨0, Nat.zero_le _, rfl, OkI.start S, Below.refl _ _⟩
    case round =>
      obtain ⟨k, hk, rfl, ht, hb⟩ := hrel
      have HT : Hid (OkI S k) := ht
      clear ht
      by_cases hlt : k < S.length
      · rcases hS with h | ⟨b, off, rfl, hc⟩
        · simp [h] at hlt
        obtain ⟨c0, c1, c2, c3, c4, hn, hok, q0, q1, q2, q3, q4⟩ := LieM.at hf hc hlt
        have r0 : wr.cell? ⟨b, off + k * 5, none⟩ = some (.int .u64 c0) := by rw [hb.cell (World.block_lt_of_cell? w _ q0)]; exact q0
        have r1 : wr.cell? ⟨b, off + k * 5 + 1, none⟩ = some (.int .i64 c1) := by rw [hb.cell (World.block_lt_of_cell? w _ q1)]; exact q1
        have r2 : wr.cell? ⟨b, off + k * 5 + 2, none⟩ = some (.int .i64 c2) := by rw [hb.cell (World.block_lt_of_cell? w _ q2)]; exact q2
        have r3 : wr.cell? ⟨b, off + k * 5 + 3, none⟩ = some (.int .i64 c3) := by rw [hb.cell (World.block_lt_of_cell? w _ q3)]; exact q3
        have r4 : wr.cell? ⟨b, off + k * 5 + 4, none⟩ = some (.int .i64 c4) := by rw [hb.cell (World.block_lt_of_cell? w _ q4)]; exact q4
        have hok0 := hok.1.1
        clear hok q0 q1 q2 q3 q4
        have hb' := fun v => hb.alloc hb.size v
        by_cases hsh : shape ⟨c0, c1, c2, c3, c4⟩
        · have HSH : Hid _ := hsh
          clear hsh
          cases k with
          | zero =>
            have HS : Hid (OkI S (0 + 1)) := HT.out.next hlt (by rw [hn.out]; exact ⟨HSH.out.1, HSH.out.2, fun h => by omega⟩)
            simp only [Nat.zero_mul, Nat.add_zero] at r0 r1 r2 r3 r4
            clear hc hf hn HT
            go_wp2_with (go_at_call 64; refine (holds_yes _ _ _ _ _ _ HSH.out).mono ?_; rintro e w2 ⟨rfl, hb2⟩)
            have hb3 := (hb' _).trans (hb2.mono (hb' _).size)
            clear hb hb' hb2
            go_quiet (fail)
            all_goals
              go_wp2
              go_roundw
              case rel => exact ⟨1, by omega, by go_num, HS.out, drewsN hb3 _⟩
              case measure => simp [intOf]; omega
          | succ j =>
            have hd := HT.out.shape (i := j) (by omega) (by omega)
            obtain ⟨d0, d1, d2, d3, d4, hn', hok', q0, q1, q2, q3, q4⟩ := LieM.at hf hc (show j < S.length by omega)
            rw [hn'.out] at hd
            have e0 : 0 ≤ d0 := hok'.1.1
            have e1 : d0 ≤ 4611686018427387904 := hd.1.1
            have e23 : 0 ≤ d1 ∧ d1 ≤ 32 ∧ 0 ≤ d2 ∧ d2 ≤ 1 := by
              rcases hd.2 with ⟨h1, h2, h3⟩ | ⟨h1, h2⟩ <;> simp only at * <;> omega
            obtain ⟨e2, e3, e4, e5⟩ := e23
            have j0 : (0 : Int) < (j : Int) + 1 := by omega
            have j1 : (0 : Int) ≤ (j : Int) + 1 := by omega
            have j4 : (j : Int) ≤ 9223372036854775807 := by omega
            have j5 : (0 : Int) ≤ (j : Int) := by omega
            have j6 : IntKind.i64.wrap (j : Int) = (j : Int) := by rw [IntKind.wrap_i64]; omega
            have j7 : (j : Int) < (S.length : Int) := by omega
            have j3 : decide ((0 : Int) < (j : Int) + 1) = true := by rw [decide_eq_true_iff]; omega
            have j2 : (j : Int) + 1 < (S.length : Int) := by omega
            by_cases hfin : d2 = 1
            · subst hfin
              have hs : ¬ Valid S := not_validI hlt (by simp only [Nat.add_sub_cancel]; rw [hn.out, hn'.out]; intro h; exact (h.2.2 (by omega)).1 rfl)
              clear hf hn HT hn' hd hok'
              go_wp2_with (go_at_call 64; refine (holds_yes _ _ _ _ _ _ HSH.out).mono ?_; rintro e w2 ⟨rfl, hb2⟩)
              have hb3 := (hb' _).trans (hb2.mono (hb' _).size)
              have s2 : w2.cell? ⟨b, off + j * 5 + 2, none⟩ = some (.int .i64 1) := by rw [hb3.cell (World.block_lt_of_cell? w _ q2)]; exact q2
              clear hb hb' hb2 hc q0 q1 q2 q3 q4
              go_quiet (fail)
              all_goals
                go_wp2
                go_ret
                exact ⟨false, rfl, ⟨fun h => (by cases h), fun h => absurd h.2 hs⟩, drewsN hb3 _⟩
            · have x1 : (d2 == 1) = false := by simpa using hfin
              have e6 : d2 = 0 := by omega
              subst e6
              by_cases hg : d0 + d1 + 0 ≤ c0
              · have g6 : decide (c0 < d0 + d1 + 0) = false := by simp only [decide_eq_false_iff_not]; omega
                have g7 : decide (c0 < d0 + d1) = false := by simp only [decide_eq_false_iff_not]; omega
                have HS : Hid (OkI S (j + 1 + 1)) := HT.out.next hlt (by simp only [Nat.add_sub_cancel]; rw [hn.out, hn'.out]; exact ⟨HSH.out.1, HSH.out.2, fun _ => ⟨by simp, hg⟩⟩)
                clear hf hn HT hn' hd hok'
                go_wp2_with (go_at_call 64; refine (holds_yes _ _ _ _ _ _ HSH.out).mono ?_; rintro e w2 ⟨rfl, hb2⟩)
                have hb3 := (hb' _).trans (hb2.mono (hb' _).size)
                have s0 : w2.cell? ⟨b, off + j * 5, none⟩ = some (.int .u64 d0) := by rw [hb3.cell (World.block_lt_of_cell? w _ q0)]; exact q0
                have s1 : w2.cell? ⟨b, off + j * 5 + 1, none⟩ = some (.int .i64 d1) := by rw [hb3.cell (World.block_lt_of_cell? w _ q1)]; exact q1
                have s2 : w2.cell? ⟨b, off + j * 5 + 2, none⟩ = some (.int .i64 0) := by rw [hb3.cell (World.block_lt_of_cell? w _ q2)]; exact q2
                have s3 : w2.cell? ⟨b, off + j * 5 + 3, none⟩ = some (.int .i64 d3) := by rw [hb3.cell (World.block_lt_of_cell? w _ q3)]; exact q3
                have s4 : w2.cell? ⟨b, off + j * 5 + 4, none⟩ = some (.int .i64 d4) := by rw [hb3.cell (World.block_lt_of_cell? w _ q4)]; exact q4
                have t0 : w2.cell? ⟨wr.heap.size, 0, none⟩ = some (.int .u64 c0) := by rw [hb2.cell (by simp)]; simp
                clear hb hb' hb2 hc q0 q1 q2 q3 q4 r0 r1 r2 r3 r4
                go_region_held3 (fun w' => w'.cell? ⟨wr.heap.size, 0, none⟩ = some (.int .u64 c0) ∧ w'.cell? ⟨b, off + j * 5, none⟩ = some (.int .u64 d0) ∧ w'.cell? ⟨b, off + j * 5 + 1, none⟩ = some (.int .i64 d1) ∧ w'.cell? ⟨b, off + j * 5 + 2, none⟩ = some (.int .i64 0) ∧ w'.cell? ⟨b, off + j * 5 + 3, none⟩ = some (.int .i64 d3) ∧ w'.cell? ⟨b, off + j * 5 + 4, none⟩ = some (.int .i64 d4))
                  (first | go_keep | exact ⟨by assumption, by assumption, by assumption, by assumption, by assumption, by assumption⟩)
                  (first | (go_at_call 42; refine (endOf_any _ _ _ _ _ _ e0 e1 e2 e3 e4 e5).mono ?_; rintro e w3 ⟨rfl, hb4⟩; have t0' := (hb4.cell (World.block_lt_of_cell? _ _ t0)).trans t0; have s0' := (hb4.cell (World.block_lt_of_cell? _ _ s0)).trans s0; have s1' := (hb4.cell (World.block_lt_of_cell? _ _ s1)).trans s1; have s2' := (hb4.cell (World.block_lt_of_cell? _ _ s2)).trans s2; have s3' := (hb4.cell (World.block_lt_of_cell? _ _ s3)).trans s3; have s4' := (hb4.cell (World.block_lt_of_cell? _ _ s4)).trans s4))
                have hb5 := hb3.drew.trans (hb4.mono hb3.size)
                clear hb3 hb4
                go_wp2
                go_roundw
                case rel => exact ⟨j + 1 + 1, by omega, by go_num, HS.out, by first | exact hb5 | exact hb5.drew⟩
                case measure => simp [intOf]; omega
              · have g6 : decide (c0 < d0 + d1 + 0) = true := by simp only [decide_eq_true_eq]; omega
                have g7 : decide (c0 < d0 + d1) = true := by simp only [decide_eq_true_eq]; omega
                have hs : ¬ Valid S := not_validI hlt (by simp only [Nat.add_sub_cancel]; rw [hn.out, hn'.out]; intro h; exact hg (h.2.2 (by omega)).2)
                clear hf hn HT hn' hd hok'
                go_wp2_with (go_at_call 64; refine (holds_yes _ _ _ _ _ _ HSH.out).mono ?_; rintro e w2 ⟨rfl, hb2⟩)
                have hb3 := (hb' _).trans (hb2.mono (hb' _).size)
                have s0 : w2.cell? ⟨b, off + j * 5, none⟩ = some (.int .u64 d0) := by rw [hb3.cell (World.block_lt_of_cell? w _ q0)]; exact q0
                have s1 : w2.cell? ⟨b, off + j * 5 + 1, none⟩ = some (.int .i64 d1) := by rw [hb3.cell (World.block_lt_of_cell? w _ q1)]; exact q1
                have s2 : w2.cell? ⟨b, off + j * 5 + 2, none⟩ = some (.int .i64 0) := by rw [hb3.cell (World.block_lt_of_cell? w _ q2)]; exact q2
                have s3 : w2.cell? ⟨b, off + j * 5 + 3, none⟩ = some (.int .i64 d3) := by rw [hb3.cell (World.block_lt_of_cell? w _ q3)]; exact q3
                have s4 : w2.cell? ⟨b, off + j * 5 + 4, none⟩ = some (.int .i64 d4) := by rw [hb3.cell (World.block_lt_of_cell? w _ q4)]; exact q4
                have t0 : w2.cell? ⟨wr.heap.size, 0, none⟩ = some (.int .u64 c0) := by rw [hb2.cell (by simp)]; simp
                clear hb hb' hb2 hc q0 q1 q2 q3 q4 r0 r1 r2 r3 r4
                go_region_held3 (fun w' => w'.cell? ⟨wr.heap.size, 0, none⟩ = some (.int .u64 c0) ∧ w'.cell? ⟨b, off + j * 5, none⟩ = some (.int .u64 d0) ∧ w'.cell? ⟨b, off + j * 5 + 1, none⟩ = some (.int .i64 d1) ∧ w'.cell? ⟨b, off + j * 5 + 2, none⟩ = some (.int .i64 0) ∧ w'.cell? ⟨b, off + j * 5 + 3, none⟩ = some (.int .i64 d3) ∧ w'.cell? ⟨b, off + j * 5 + 4, none⟩ = some (.int .i64 d4))
                  (first | go_keep | exact ⟨by assumption, by assumption, by assumption, by assumption, by assumption, by assumption⟩)
                  (first | (go_at_call 42; refine (endOf_any _ _ _ _ _ _ e0 e1 e2 e3 e4 e5).mono ?_; rintro e w3 ⟨rfl, hb4⟩; have t0' := (hb4.cell (World.block_lt_of_cell? _ _ t0)).trans t0; have s0' := (hb4.cell (World.block_lt_of_cell? _ _ s0)).trans s0; have s1' := (hb4.cell (World.block_lt_of_cell? _ _ s1)).trans s1; have s2' := (hb4.cell (World.block_lt_of_cell? _ _ s2)).trans s2; have s3' := (hb4.cell (World.block_lt_of_cell? _ _ s3)).trans s3; have s4' := (hb4.cell (World.block_lt_of_cell? _ _ s4)).trans s4))
                have hb5 := hb3.drew.trans (hb4.mono hb3.size)
                clear hb3 hb4
                go_wp2
                go_ret
                exact ⟨false, rfl, ⟨fun h => (by cases h), fun h => absurd h.2 hs⟩, by first | exact hb5 | exact hb5.drew⟩
        · have hs : ¬ Valid S := not_validI hlt (by rw [hn.out]; intro h; exact hsh (shape_of h))
          clear hc hf hn HT
          go_wp2_with (go_at_call 64; refine (holds_no _ _ _ _ _ _ hsh).mono ?_; rintro e w2 ⟨rfl, hb2⟩)
          go_ret
          exact ⟨false, rfl, ⟨fun h => (by cases h), fun h => absurd h.2 hs⟩, (hb' _).trans (hb2.mono (hb' _).size)⟩
      · go_wp2
        go_ret
        exact ⟨true, rfl, ⟨fun _ => ⟨hbig, HT.out.all hlt⟩, fun _ => rfl⟩, hb⟩
  · go_enter Try.func39, Try.ntmps39
    go_wp2
    go_ret
    exact ⟨false, rfl, ⟨fun h => (by cases h), fun h => absurd h.1 hbig⟩, Below.refl _ _⟩
end Go.Proofs.Ytlagaiekoahjnaa
