import Derived.Test.YtgjcdejiolenkaaSpanBase
import Derived.Deep.RegionWith
import Derived.LoopTactic
namespace Go.Proofs.Ytgjcdejiolenkaa
open Go.ChangeShapes Go.WideShapes Go.ChangeAt Go.RowKit
set_option linter.unusedVariables false

theorem szSpanS_any (a : Option Addr) (n cap : Nat) (w : World) (hm : n ≤ 9223372036854775807) :
    Calls Try.prog 9 #[.slice a n cap, .int .i64 1048576] w fun e w' => e = .returned (.int .i64 (if n ≤ 1048576 then 1048576 - (n : Int) else -1)) ∧ w' = w := by
  by_cases h : n ≤ 1048576
  · rw [if_pos h]
    go_enter Try.func9, Try.ntmps9
    go_wp2
    go_ret
    exact ⟨rfl, rfl⟩
  · rw [if_neg h]
    go_enter Try.func9, Try.ntmps9
    go_wp2
    go_ret
    exact ⟨rfl, rfl⟩

theorem toSpan_any (c d : Int) (w : World) : Calls Try.prog 12 #[.agg #[.int .u64 c, .int .u64 d]] w fun e w' => e = .returned (.agg #[.int .u64 c, .int .u64 d]) ∧ Below w.heap.size w w' := by
  go_enter Try.func12, Try.ntmps12
  go_wp2
  exact bodyPost_ret (v := .agg #[.int .u64 c, .int .u64 d]) (by simp [results, Try.results12, go_sem]) rfl ⟨rfl, (((Below.refl _ _).alloc (Nat.le_refl _) _).alloc (by simp) _).alloc (by simp; omega) _⟩

theorem toSpanS_any (a : Option Addr) (S : Sp) (cap : Nat) (w : World) (hS : Spans w a S) (hf : Fits S) (hl : S.length ≤ 1048576) :
    Calls Try.prog 11 #[.slice a S.length cap] w fun e w' => e = .returned (.slice (some ⟨w.heap.size, 0, none⟩) S.length S.length) ∧
      w'.ownsRow w.heap.size 31 2 (.slice (some ⟨w.heap.size, 0, none⟩) S.length S.length) S.length (flat S) ∧ Below w.heap.size w w' := by
  obtain ⟨i0, hi, hz0, hz1, hz2⟩ := info_parts info_span
  go_enter Try.func11, Try.ntmps11
  go_wp2_with (at_make; refine wpList_make_full _ rfl _ _ 29 rfl w.heap.size 31 i0 (.agg #[.int .u64 0, .int .u64 0]) 2 Try.underlying29 hi hz0 hz1 .i64 .i64 _ _ S.length rfl rfl rfl rfl (by rw [hz2]; omega) (by unfold maxLen; omega) (Nat.le_refl _) ?_; intro w1 hown hgrow)
  have hstart : w1.ownsRow w.heap.size 31 2 (.slice (some ⟨w.heap.size, 0, none⟩) S.length S.length) S.length (flat (partS S 0)) := by
    rw [partS_zero, flat_replicate]
    exact hown
  have hbel : Below w.heap.size w w1 := (Below.refl _ _).grown hgrow (Nat.le_refl _) (by simp)
  clear hown hgrow
  go_loopw [4] (fun i wr => ∃ k : Nat, k ≤ S.length ∧ i = .int .i64 k ∧ wr.ownsRow w.heap.size 31 2 (.slice (some ⟨w.heap.size, 0, none⟩) S.length S.length) S.length (flat (partS S k)) ∧ Below w.heap.size w wr)
    (fun i _ => S.length - (intOf i).toNat)
  case atStart => exact ⟨0, Nat.zero_le _, rfl, hstart, hbel⟩
  case round =>
    clear hstart hbel
    obtain ⟨k, hk, rfl, hown, hb⟩ := hrel
    by_cases hlt : k < S.length
    · rcases hS with h | ⟨b, off, rfl, hc⟩
      · simp [h] at hlt
      · obtain ⟨c, d, hn, c0, c1, d0, d1, hcc, hcd⟩ := Spans.at hf hc hlt
        have hcc' : wr.cell? ⟨b, off + k * 2, none⟩ = some (.int .u64 c) := by rw [hb.cell (World.block_lt_of_cell? w _ hcc)]; exact hcc
        have hcd' : wr.cell? ⟨b, off + k * 2 + 1, none⟩ = some (.int .u64 d) := by rw [hb.cell (World.block_lt_of_cell? w _ hcd)]; exact hcd
        have hsz := hb.size
        clear hc hcc hcd hf
        go_wp2_with (go_at_call 12; refine (toSpan_any _ _ _).mono ?_; rintro e w2 ⟨rfl, hb2⟩; have ho2 := owned_kept hown hb2; obtain ⟨p1, p2, ⟨u1, p3⟩, ⟨u2, p4⟩⟩ := place2 ho2 hlt)
        have hl2 := partS_length S hk
        rw [← hl2] at ho2
        have hn2 := stored2 ho2 k (by omega) c d
        rw [show ((c, d) : Int × Int) = S[k] from hn.out.symm, partS_succ S k hlt, hl2] at hn2
        have hb3 := ((hb.trans (hb2.mono hb.size)).setCell (p := ⟨w.heap.size, k * 2, none⟩) (Nat.le_refl _) (.int .u64 c)).setCell (p := ⟨w.heap.size, k * 2 + 1, none⟩) (Nat.le_refl _) (.int .u64 d)
        clear ho2 hown hb hb2 hn
        go_wp2
        go_roundw
        case rel => exact ⟨k + 1, by omega, by go_num, hn2, hb3⟩
        case measure => simp [intOf]; omega
    · go_wp2
      go_ret
      have : k = S.length := by omega
      subst this
      rw [partS_all] at hown
      exact ⟨rfl, hown, hb⟩
end Go.Proofs.Ytgjcdejiolenkaa
