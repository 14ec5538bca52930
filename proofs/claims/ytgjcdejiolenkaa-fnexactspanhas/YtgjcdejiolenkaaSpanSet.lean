import Derived.Test.YtgjcdejiolenkaaSpanBase
import Derived.Test.YtgjcdejiolenkaaRows1
import Derived.Deep.RegionWith
import Derived.LoopTactic
import Derived.Deep.QuietTactic
import Derived.BigQuiet
namespace Go.Proofs.Ytgjcdejiolenkaa
open Go.ChangeShapes Go.WideShapes Go.ChangeAt Go.RowKit
set_option linter.unusedVariables false



theorem norm_of_take {S : Sp} {k : Nat} (hk : ¬ k < S.length) (h : Norm (S.take k)) : Norm S := by rwa [List.take_of_length_le (by omega)] at h
theorem not_norm {S : Sp} {k : Nat} (hk : k < S.length) (h : ¬ Norm (S.take (k + 1))) : ¬ Norm S := fun hn => h (hn.take _)
theorem step0 {S : Sp} (h : 0 < S.length) {c d : Int} (hn : S[0] = (c, d)) (hcd : c < d) : Norm (S.take 1) := by
  rw [norm_step h]
  exact ⟨by simp [Norm], by rw [hn]; exact hcd, fun h0 => by omega⟩
theorem step1 {S : Sp} {k : Nat} (hk : k < S.length) {c d : Int} (hn : S[k] = (c, d)) (hcd : ¬ c < d) : ¬ Norm (S.take (k + 1)) := by
  rw [norm_step hk, hn]
  exact fun h => hcd h.2.1
theorem step2 {S : Sp} {k : Nat} (hk : k + 1 < S.length) {c d c' d' : Int} (hn : S[k + 1] = (c, d)) (hn' : S[k] = (c', d')) (ht : Norm (S.take (k + 1))) (hcd : c < d) (h : d' < c) : Norm (S.take (k + 1 + 1)) := by
  rw [norm_step hk, hn]
  refine ⟨ht, hcd, fun _ => ?_⟩
  show (S[k + 1 - 1]).2 < c
  simp only [Nat.add_sub_cancel, hn']
  exact h
theorem step3 {S : Sp} {k : Nat} (hk : k + 1 < S.length) {c d c' d' : Int} (hn : S[k + 1] = (c, d)) (hn' : S[k] = (c', d')) (h : ¬ d' < c) : ¬ Norm (S.take (k + 1 + 1)) := by
  rw [norm_step hk, hn]
  intro hh
  have := hh.2.2 (by omega)
  simp only [Nat.add_sub_cancel, hn'] at this
  exact h this

set_option maxHeartbeats 1000000 in
theorem specSetOK (a : Option Addr) (S : Sp) (cap : Nat) (w : World) (hS : Spans w a S) (hf : Fits S) (hl : S.length ≤ 9223372036854775807) :
    Calls Try.prog 27 #[.slice a S.length cap] w fun e w' => ∃ b : Bool, e = .returned (.bool b) ∧ (b = true ↔ S.length ≤ 1000 ∧ Norm S) ∧ Below w.heap.size w w' := by
  by_cases hbig : S.length ≤ 1000
  · go_enter Try.func27, Try.ntmps27
    go_wp2
    go_loopw [3] (fun i wr => ∃ k : Nat, k ≤ S.length ∧ i = .int .i64 k ∧ Norm (S.take k) ∧ Below w.heap.size w wr) (fun i _ => S.length - (intOf i).toNat)
    case atStart => exact ⟨0, Nat.zero_le _, rfl, by simp [Norm], Below.refl _ _⟩
    case round =>
      obtain ⟨k, hk, rfl, ht, hb⟩ := hrel
      have HT : Hid (Norm (S.take k)) := ht
      clear ht
      by_cases hlt : k < S.length
      · rcases hS with h | ⟨b, off, rfl, hc⟩
        · simp [h] at hlt
        obtain ⟨c, d, hn, c0, c1, d0, d1, q1, q2⟩ := Spans.at hf hc hlt
        have r1 : wr.cell? ⟨b, off + k * 2, none⟩ = some (.int .u64 c) := by rw [hb.cell (World.block_lt_of_cell? w _ q1)]; exact q1
        have r2 : wr.cell? ⟨b, off + k * 2 + 1, none⟩ = some (.int .u64 d) := by rw [hb.cell (World.block_lt_of_cell? w _ q2)]; exact q2
        clear q1 q2
        by_cases hcd : c < d
        · have g1 : decide (d ≤ c) = false := by simp; omega
          cases k with
          | zero =>
            have r1' : wr.cell? ⟨b, off, none⟩ = some (.int .u64 c) := by simpa using r1
            have r2' : wr.cell? ⟨b, off + 1, none⟩ = some (.int .u64 d) := by simpa using r2
            clear hc hf r1 r2
            go_wp2
            go_quiet (fail)
            all_goals
              go_wp2
              go_roundw
              case rel => exact ⟨1, by omega, by go_num, step0 hlt hn.out hcd, drewsN hb _⟩
              case measure => simp [intOf]; omega
          | succ j =>
            obtain ⟨c', d', hn', _, _, e0, e1, _, q4⟩ := Spans.at hf hc (show j < S.length by omega)
            have r4 : wr.cell? ⟨b, off + j * 2 + 1, none⟩ = some (.int .u64 d') := by rw [hb.cell (World.block_lt_of_cell? w _ q4)]; exact q4
            have j0 : (0 : Int) < (j : Int) + 1 := by omega
            have j1 : (0 : Int) ≤ (j : Int) + 1 := by omega
            have g2 : decide ((0 : Int) < (j : Int) + 1) = true := by rw [decide_eq_true_iff]; omega
            have j2 : (j : Int) + 1 < (S.length : Int) := by omega
            clear hc hf q4
            by_cases hg : d' < c
            · have g3 : decide (c ≤ d') = false := by simp; omega
              have hs := step2 hlt hn.out hn'.out HT.out hcd hg
              clear hn hn' HT
              go_wp2
              go_quiet (fail)
              all_goals
                go_wp2
                go_roundw
                case rel => exact ⟨j + 1 + 1, by omega, by go_num, hs, drewsN hb _⟩
                case measure => simp [intOf]; omega
            · have g3 : decide (c ≤ d') = true := by simp; omega
              have hs := not_norm hlt (step3 hlt hn.out hn'.out hg)
              clear hn hn' HT
              go_wp2
              go_quiet (fail)
              all_goals
                go_wp2
                go_ret
                exact ⟨false, rfl, ⟨fun h => (by cases h), fun h => absurd h.2 hs⟩, drewsN hb _⟩
        · have g1 : decide (d ≤ c) = true := by simp; omega
          have hs := not_norm hlt (step1 hlt hn.out hcd)
          clear hc hf hn HT
          go_wp2
          go_quiet (fail)
          all_goals
            go_wp2
            go_ret
            exact ⟨false, rfl, ⟨fun h => (by cases h), fun h => absurd h.2 hs⟩, drewsN hb _⟩
      · go_wp2
        go_ret
        exact ⟨true, rfl, ⟨fun _ => ⟨hbig, norm_of_take hlt HT.out⟩, fun _ => rfl⟩, hb⟩
  · go_enter Try.func27, Try.ntmps27
    go_wp2
    go_ret
    exact ⟨false, rfl, ⟨fun h => (by cases h), fun h => absurd h.1 hbig⟩, Below.refl _ _⟩

set_option maxHeartbeats 1000000 in
theorem implSetOK (a : Option Addr) (S : Sp) (cap : Nat) (w : World) (hS : Spans w a S) (hf : Fits S) (hl : S.length ≤ 9223372036854775807) :
    Calls Try.prog 41 #[.slice a S.length cap] w fun e w' => ∃ b : Bool, e = .returned (.bool b) ∧ (b = true ↔ S.length ≤ 1000 ∧ Norm S) ∧ Below w.heap.size w w' := by
  by_cases hbig : S.length ≤ 1000
  · go_enter Try.func41, Try.ntmps41
    go_wp2
    go_loopw [10] (fun i wr => ∃ k : Nat, k ≤ S.length ∧ i = .int .i64 k ∧ Norm (S.take k) ∧ Below w.heap.size w wr) (fun i _ => S.length - (intOf i).toNat)
    case atStart => exact ⟨0, Nat.zero_le _, rfl, by simp [Norm], Below.refl _ _⟩
    case round =>
      obtain ⟨k, hk, rfl, ht, hb⟩ := hrel
      have HT : Hid (Norm (S.take k)) := ht
      clear ht
      have hb' := fun c d => hb.alloc hb.size (.cells #[.int .u64 c, .int .u64 d] 31)
      by_cases hlt : k < S.length
      · rcases hS with h | ⟨b, off, rfl, hc⟩
        · simp [h] at hlt
        obtain ⟨c, d, hn, c0, c1, d0, d1, q1, q2⟩ := Spans.at hf hc hlt
        have r1 : wr.cell? ⟨b, off + k * 2, none⟩ = some (.int .u64 c) := by rw [hb.cell (World.block_lt_of_cell? w _ q1)]; exact q1
        have r2 : wr.cell? ⟨b, off + k * 2 + 1, none⟩ = some (.int .u64 d) := by rw [hb.cell (World.block_lt_of_cell? w _ q2)]; exact q2
        clear q1 q2
        by_cases hcd : c < d
        · have g1 : decide (d ≤ c) = false := by simp; omega
          cases k with
          | zero =>
            have r1' : wr.cell? ⟨b, off, none⟩ = some (.int .u64 c) := by simpa using r1
            have r2' : wr.cell? ⟨b, off + 1, none⟩ = some (.int .u64 d) := by simpa using r2
            have hs := step0 hlt hn.out hcd
            clear hc hf r1 r2 hn HT
            go_wp2
            go_quiet (fail)
            all_goals
              go_wp2
              go_roundw
              case rel => exact ⟨1, by omega, by go_num, hs, drewsN (hb' _ _) _⟩
              case measure => simp [intOf]; omega
          | succ j =>
            obtain ⟨c', d', hn', _, _, e0, e1, _, q4⟩ := Spans.at hf hc (show j < S.length by omega)
            have r4 : wr.cell? ⟨b, off + j * 2 + 1, none⟩ = some (.int .u64 d') := by rw [hb.cell (World.block_lt_of_cell? w _ q4)]; exact q4
            have j0 : (0 : Int) < (j : Int) + 1 := by omega
            have j1 : (0 : Int) ≤ (j : Int) + 1 := by omega
            have g2 : decide ((0 : Int) < (j : Int) + 1) = true := by rw [decide_eq_true_iff]; omega
            have j2 : (j : Int) + 1 < (S.length : Int) := by omega
            have hbl : b < wr.heap.size := World.block_lt_of_cell? wr _ r4
            clear hc hf q4
            by_cases hg : d' < c
            · have g3 : decide (c ≤ d') = false := by simp; omega
              have hs := step2 hlt hn.out hn'.out HT.out hcd hg
              clear hn hn' HT
              go_wp2
              go_quiet (fail)
              all_goals
                go_wp2
                go_roundw
                case rel => exact ⟨j + 1 + 1, by omega, by go_num, hs, drewsN (hb' _ _) _⟩
                case measure => simp [intOf]; omega
            · have g3 : decide (c ≤ d') = true := by simp; omega
              have hs := not_norm hlt (step3 hlt hn.out hn'.out hg)
              clear hn hn' HT
              go_wp2
              go_quiet (fail)
              all_goals
                go_wp2
                go_ret
                exact ⟨false, rfl, ⟨fun h => (by cases h), fun h => absurd h.2 hs⟩, drewsN (hb' _ _) _⟩
        · have g1 : decide (d ≤ c) = true := by simp; omega
          have hs := not_norm hlt (step1 hlt hn.out hcd)
          clear hc hf hn HT
          go_wp2
          go_quiet (fail)
          all_goals
            go_wp2
            go_ret
            exact ⟨false, rfl, ⟨fun h => (by cases h), fun h => absurd h.2 hs⟩, drewsN (hb' _ _) _⟩
      · go_wp2
        go_ret
        exact ⟨true, rfl, ⟨fun _ => ⟨hbig, norm_of_take hlt HT.out⟩, fun _ => rfl⟩, hb⟩
  · go_enter Try.func41, Try.ntmps41
    go_wp2
    go_ret
    exact ⟨false, rfl, ⟨fun h => (by cases h), fun h => absurd h.1 hbig⟩, Below.refl _ _⟩

theorem inB_take {S : Sp} {k : Nat} (hk : k < S.length) {c d : Int} (hn : S[k] = (c, d)) (x : Int) : inB x (S.take (k + 1)) = (inB x (S.take k) || (decide (c ≤ x) && decide (x < d))) := by
  rw [List.take_succ_eq_append_getElem hk, inB_snoc, hn]
theorem inB_hit {S : Sp} {k : Nat} (hk : k < S.length) {c d : Int} (hn : S[k] = (c, d)) {x : Int} (h1 : c ≤ x) (h2 : x < d) : inB x S = true := by
  rw [inB_iff]
  exact ⟨S[k], List.getElem_mem hk, by rw [hn]; exact h1, by rw [hn]; exact h2⟩

theorem specIn (a : Option Addr) (S : Sp) (cap : Nat) (x : Int) (w : World) (hS : Spans w a S) (hf : Fits S) (hl : S.length ≤ 1048576) (x0 : 0 ≤ x) (x1 : x ≤ 18446744073709551615) :
    Calls Try.prog 40 #[.slice a S.length cap, .int .u64 x] w fun e w' => e = .returned (.bool (inB x S)) ∧ w' = w := by
  go_enter Try.func40, Try.ntmps40
  go_wp2
  go_loop [5] (fun i => ∃ k : Nat, k ≤ S.length ∧ i = .int .i64 k ∧ Hid (inB x (S.take k) = false)) (fun i => S.length - (intOf i).toNat)
  case atStart => exact ⟨0, Nat.zero_le _, rfl, by unfold Hid; simp [inB]⟩
  case round =>
    obtain ⟨k, hk, rfl, hno⟩ := hrel
    by_cases hlt : k < S.length
    · rcases hS with h | ⟨b, off, rfl, hc⟩
      · simp [h] at hlt
      obtain ⟨c, d, hn, c0, c1, d0, d1, q1, q2⟩ := Spans.at hf hc hlt
      have hs := inB_take hlt hn.out x
      have hh := fun h1 h2 => inB_hit (x := x) hlt hn.out h1 h2
      have HS : Hid _ := hs
      have HH : Hid _ := hh
      clear hc hs hh hn hf
      by_cases hA : c ≤ x
      · by_cases hB : x < d
        · go_wp2
          go_ret
          exact ⟨ret_bool (HH.out hA hB).symm, rfl⟩
        · go_wp2
          go_round
          case rel => exact ⟨k + 1, by omega, by go_num, by unfold Hid; rw [HS.out, hno.out]; simp; omega⟩
          case measure => simp [intOf]; omega
      · go_wp2
        go_round
        case rel => exact ⟨k + 1, by omega, by go_num, by unfold Hid; rw [HS.out, hno.out]; simp; omega⟩
        case measure => simp [intOf]; omega
    · go_wp2
      go_ret
      exact ⟨ret_bool (by have := hno.out; rw [List.take_of_length_le (by omega)] at this; exact this.symm), rfl⟩
end Go.Proofs.Ytgjcdejiolenkaa
