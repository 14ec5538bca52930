import Derived.Test.YtgjcdejiolenkaaSpanBase
import Derived.Deep.RegionWith
import Derived.LoopTactic
namespace Go.Proofs.Ytgjcdejiolenkaa
open Go.ChangeShapes Go.WideShapes Go.ChangeAt Go.RowKit
set_option linter.unusedVariables false

theorem eqSpanS_same (a a' : Option Addr) (S : Sp) (cap cap' : Nat) (w : World) (hS : Spans w a S) (hS' : Spans w a' S) (hf : Fits S) (hl : S.length ≤ 1048576) :
    Calls Try.prog 14 #[.slice a S.length cap, .slice a' S.length cap'] w fun e w' => e = .returned (.bool true) ∧ Below w.heap.size w w' := by
  go_enter Try.func14, Try.ntmps14
  go_wp2
  go_loopw [5] (fun i wr => ∃ k : Nat, k ≤ S.length ∧ i = .int .i64 k ∧ Below w.heap.size w wr) (fun i _ => S.length - (intOf i).toNat)
  case atStart => exact ⟨0, Nat.zero_le _, rfl, Below.refl _ _⟩
  case round =>
    obtain ⟨k, hk, rfl, hb⟩ := hrel
    by_cases hlt : k < S.length
    · rcases hS with h | ⟨b, off, rfl, hc⟩
      · simp [h] at hlt
      rcases hS' with h | ⟨b', off', rfl, hc'⟩
      · simp [h] at hlt
      obtain ⟨c, d, hn, c0, c1, d0, d1, q1, q2⟩ := Spans.at hf hc hlt
      have q3 := (hc' k hlt).1
      have q4 := (hc' k hlt).2
      rw [hn.out] at q3 q4
      have r1 : wr.cell? ⟨b, off + k * 2, none⟩ = some (.int .u64 c) := by rw [hb.cell (World.block_lt_of_cell? w _ q1)]; exact q1
      have r2 : wr.cell? ⟨b, off + k * 2 + 1, none⟩ = some (.int .u64 d) := by rw [hb.cell (World.block_lt_of_cell? w _ q2)]; exact q2
      have r3 : wr.cell? ⟨b', off' + k * 2, none⟩ = some (.int .u64 c) := by rw [hb.cell (World.block_lt_of_cell? w _ q3)]; exact q3
      have r4 : wr.cell? ⟨b', off' + k * 2 + 1, none⟩ = some (.int .u64 d) := by rw [hb.cell (World.block_lt_of_cell? w _ q4)]; exact q4
      clear hc hc' q1 q2 q3 q4 hf hn
      go_wp2
      go_region_with (go_at_call 29; refine (eqSpan_same _ _ _).mono ?_; rintro e w2 ⟨rfl, hb2⟩)
      all_goals
        have hb3 := hb.drew.trans (hb2.mono hb.size)
        clear hb hb2
        go_wp2
        go_roundw
        case rel => exact ⟨k + 1, by omega, by go_num, by first | exact hb3 | exact hb3.drew⟩
        case measure => simp [intOf]; omega
    · go_wp2
      go_ret
      exact ⟨rfl, hb⟩

/-- What marking leaves: 1, 2, 3 .. -/
def marked (n : Nat) : Sp := (List.range n).map fun (i : Nat) => ((1 + 2 * i : Int), (1 + 2 * i + 1 : Int))
theorem marked_length (n : Nat) : (marked n).length = n := by simp [marked]
theorem marked_at {n i : Nat} (h : i < (marked n).length) : (marked n)[i] = ((1 + 2 * i : Int), (1 + 2 * i + 1 : Int)) := by simp [marked]
def partM (S : Sp) (k : Nat) : Sp := marked k ++ S.drop k
theorem partM_zero (S : Sp) : partM S 0 = S := by simp [partM, marked]
theorem partM_all (S : Sp) : partM S S.length = marked S.length := by simp [partM]
theorem partM_length (S : Sp) {k : Nat} (h : k ≤ S.length) : (partM S k).length = S.length := by simp [partM, marked_length]; omega
theorem partM_succ (S : Sp) {k : Nat} (h : k < S.length) : (partM S k).set k ((1 + 2 * k : Int), (1 + 2 * k + 1 : Int)) = partM S (k + 1) := by
  unfold partM
  rw [List.set_append, marked_length, if_neg (by omega), Nat.sub_self, List.drop_eq_getElem_cons h, List.set_cons_zero]
  have e : marked (k + 1) = marked k ++ [((1 + 2 * k : Int), (1 + 2 * k + 1 : Int))] := by simp [marked, List.range_succ]
  rw [e, List.append_assoc]
  rfl
theorem marked_fits {n : Nat} (h : n ≤ 1048576) : Fits (marked n) := by
  intro p hp
  simp only [marked, List.mem_map, List.mem_range] at hp
  obtain ⟨i, hi, rfl⟩ := hp
  simp
  omega

theorem markSpanS_any (v : Value) (S : Sp) (w : World) (base : Nat) (ho : w.ownsRow base 31 2 v S.length (flat S)) (hl : S.length ≤ 1048576) :
    Calls Try.prog 19 #[v, .int .i64 1] w fun e w' => e = .returned (.int .i64 (1 + 2 * (S.length : Int))) ∧ w'.ownsRow base 31 2 v S.length (flat (marked S.length)) ∧ w.grownBy w' v.ownBlock := by
  rcases ho.2 with ⟨rfl, h0⟩ | ⟨g, cap, cur, rfl, _⟩
  · go_enter Try.func19, Try.ntmps19
    go_wp2
    refine wp_loop_rounds 1 ?_
    rw [rounds_succ]
    go_wp2
    go_ret
    have hn : S = [] := List.eq_nil_of_length_eq_zero h0
    subst hn
    exact ⟨rfl, ho, World.grownBy.refl _ _⟩
  · go_enter Try.func19, Try.ntmps19
    go_wp2
    go_loopw [1, 5] (fun m i wr => ∃ k : Nat, k ≤ S.length ∧ i = .int .i64 k ∧ m = .int .i64 (1 + 2 * (k : Int)) ∧ wr.ownsRow base 31 2 (.slice (some ⟨g, 0, none⟩) S.length cap) S.length (flat (partM S k)) ∧ w.grownBy wr (some g))
      (fun _ i _ => S.length - (intOf i).toNat)
    case atStart => exact ⟨0, Nat.zero_le _, rfl, by simp, by rw [partM_zero]; exact ho, World.grownBy.refl _ _⟩
    case round =>
      obtain ⟨k, hk, rfl, rfl, hown, hg⟩ := hrel
      by_cases hlt : k < S.length
      · obtain ⟨p1, p2, ⟨u1, p3⟩, ⟨u2, p4⟩⟩ := place2 hown hlt
        have hl2 := partM_length S hk
        have ho2 := hown
        rw [← hl2] at ho2
        have hn2 := stored2 ho2 k (by omega) (1 + 2 * (k : Int)) (1 + 2 * (k : Int) + 1)
        rw [partM_succ S hlt, hl2] at hn2
        have hg2 := grown_trans hg (grown_trans (grown_set wr g (k * 2) (.int .u64 (1 + 2 * (k : Int)))) (grown_set _ g (k * 2 + 1) (.int .u64 (1 + 2 * (k : Int) + 1))))
        clear ho2 hown hg ho
        go_wp2
        go_roundw
        case rel => exact ⟨k + 1, by omega, by go_num, by go_num, hn2, hg2⟩
        case measure => simp [intOf]; omega
      · go_wp2
        go_ret
        have : k = S.length := by omega
        subst this
        rw [partM_all] at hown
        exact ⟨rfl, hown, hg⟩

theorem heldSpanS_any (a : Option Addr) (n cap : Nat) (w : World) (hS : Spans w a (marked n)) (hl : n ≤ 1048576) :
    Calls Try.prog 20 #[.slice a n cap, .int .i64 1] w fun e w' => e = .returned (.int .i64 (1 + 2 * (n : Int))) ∧ w' = w := by
  go_enter Try.func20, Try.ntmps20
  go_wp2
  go_loop [1, 5] (fun m i => ∃ k : Nat, k ≤ n ∧ i = .int .i64 k ∧ m = .int .i64 (1 + 2 * (k : Int))) (fun _ i => n - (intOf i).toNat)
  case atStart => exact ⟨0, Nat.zero_le _, rfl, by simp⟩
  case round =>
    obtain ⟨k, hk, rfl, rfl⟩ := hrel
    by_cases hlt : k < n
    · rcases hS with h | ⟨b, off, rfl, hc⟩
      · have := marked_length n; rw [h] at this; simp at this; omega
      · obtain ⟨q1, q2⟩ := hc k (by rw [marked_length]; exact hlt)
        rw [marked_at] at q1 q2
        clear hc
        go_wp2
        go_round
        case rel => exact ⟨k + 1, by omega, by go_num, by go_num⟩
        case measure => simp [intOf]; omega
    · go_wp2
      go_ret
      have : k = n := by omega
      subst this
      exact ⟨rfl, rfl⟩
end Go.Proofs.Ytgjcdejiolenkaa
