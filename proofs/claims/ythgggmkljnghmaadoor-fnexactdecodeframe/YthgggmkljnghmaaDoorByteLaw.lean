import Derived.Test.YthgggmkljnghmaaDoorByteTo
import Derived.Test.YthgggmkljnghmaaDoorRows1
import Derived.LoopTactic
namespace Go.Proofs.YthgggmkljnghmaaDoor
open Go.ChangeShapes Go.WideShapes Go.ChangeAt Go.RowKit
set_option linter.unusedVariables false

/-- What marking leaves: s, s + 1, .. modulo 256. -/
def markedB (s : Int) (n : Nat) : List Int := (List.range n).map fun (i : Nat) => (s + i) % 256
theorem markedB_length (s : Int) (n : Nat) : (markedB s n).length = n := by simp [markedB]
theorem markedB_at {s : Int} {n i : Nat} (h : i < n) : (markedB s n).getD i 0 = (s + i) % 256 := by simp [markedB, h]
def partB (s : Int) (zs : List Int) (k : Nat) : List Int := markedB s k ++ zs.drop k
theorem partB_zero (s : Int) (zs : List Int) : partB s zs 0 = zs := by simp [partB, markedB]
theorem partB_all (s : Int) (zs : List Int) : partB s zs zs.length = markedB s zs.length := by simp [partB]
theorem partB_length (s : Int) (zs : List Int) {k : Nat} (h : k ≤ zs.length) : (partB s zs k).length = zs.length := by simp [partB, markedB_length]; omega
theorem partB_succ (s : Int) (zs : List Int) {k : Nat} (h : k < zs.length) : (partB s zs k).set k ((s + k) % 256) = partB s zs (k + 1) := by
  unfold partB
  rw [List.set_append, markedB_length, if_neg (by omega), Nat.sub_self, List.drop_eq_getElem_cons h, List.set_cons_zero]
  have e : markedB s (k + 1) = markedB s k ++ [(s + k) % 256] := by simp [markedB, List.range_succ]
  rw [e, List.append_assoc]
  rfl
theorem markedB_fits (s : Int) (n : Nat) : ∀ x ∈ markedB s n, 0 ≤ x ∧ x ≤ 255 := by
  intro p hp
  simp only [markedB, List.mem_map, List.mem_range] at hp
  obtain ⟨i, hi, rfl⟩ := hp
  omega

theorem szByteS_any (a : Option Addr) (n cap : Nat) (w : World) (hm : n ≤ 9223372036854775807) :
    Calls Tryd.prog 25 #[.slice a n cap, .int .i64 1048576] w fun e w' => e = .returned (.int .i64 (if n ≤ 1048576 then 1048576 - (n : Int) else -1)) ∧ w' = w := by
  by_cases h : n ≤ 1048576
  · rw [if_pos h]
    go_enter Tryd.func25, Tryd.ntmps25
    go_wp2
    go_ret
    exact ⟨rfl, rfl⟩
  · rw [if_neg h]
    go_enter Tryd.func25, Tryd.ntmps25
    go_wp2
    go_ret
    exact ⟨rfl, rfl⟩

theorem markByteS_any (v : Value) (zs : List Int) (s : Int) (w : World) (base n : Nat) (hz : zs.length = n) (ho : w.ownsRow base 5 1 v n (zs.map (.int .u8))) (hl : n ≤ 1048576) (s0 : 0 ≤ s) (s1 : s ≤ 1000000000) :
    Calls Tryd.prog 14 #[v, .int .i64 s] w fun e w' => e = .returned (.int .i64 (s + (n : Int))) ∧ w'.ownsRow base 5 1 v n ((markedB s n).map (.int .u8)) ∧ w.grownBy w' v.ownBlock := by
  rcases ho.2 with ⟨rfl, h0⟩ | ⟨g, cap, cur, rfl, _⟩
  · go_enter Tryd.func14, Tryd.ntmps14
    go_wp2
    refine wp_loop_rounds 1 ?_
    rw [rounds_succ]
    go_wp2
    go_ret
    subst h0
    have hn : zs = [] := List.eq_nil_of_length_eq_zero hz
    subst hn
    exact ⟨ret_int (by simp), ho, World.grownBy.refl _ _⟩
  · go_enter Tryd.func14, Tryd.ntmps14
    go_wp2
    go_loopw [1, 5] (fun m i wr => ∃ k : Nat, k ≤ n ∧ i = .int .i64 k ∧ m = .int .i64 (s + (k : Int)) ∧ wr.ownsRow base 5 1 (.slice (some ⟨g, 0, none⟩) n cap) n ((partB s zs k).map (.int .u8)) ∧ w.grownBy wr (some g))
      (fun _ i _ => n - (intOf i).toNat)
    case atStart => exact ⟨0, Nat.zero_le _, rfl, by simp, by rw [partB_zero]; exact ho, World.grownBy.refl _ _⟩
    case round =>
      obtain ⟨k, hk, rfl, rfl, hown, hg⟩ := hrel
      by_cases hlt : k < n
      · have hfz := hown.frozenAt k
        have hold : wr.cell? ⟨g, k, none⟩ = some (.int .u8 ((partB s zs k).getD k 0)) := by
          rw [hown.cellAt k (by omega)]
          have : k < (partB s zs k).length := by rw [partB_length s zs (by omega)]; omega
          simp [this]
        have hst := hown.stored k (.int .u8 ((s + k) % 256))
        have hnext : (wr.setCell ⟨g, k, none⟩ (.int .u8 ((s + k) % 256))).ownsRow base 5 1 (.slice (some ⟨g, 0, none⟩) n cap) n ((partB s zs (k + 1)).map (.int .u8)) := by
          rw [← partB_succ s zs (by omega), List.map_set]
          exact hst.1
        have hg2 := grown_trans hg (grown_set wr g k (.int .u8 ((s + k) % 256)))
        obtain ⟨u, hu⟩ : ∃ u, Hid ((partB s zs k).getD k 0 = u) := ⟨_, rfl⟩
        rw [hu.out] at hold
        clear hst hown hg ho
        go_wp2
        go_roundw
        case rel => exact ⟨k + 1, by omega, by go_num, by go_num, by simpa [hlt] using hnext, by simpa [hlt] using hg2⟩
        case measure => simp [intOf]; omega
      · go_wp2
        go_ret
        have : k = n := by omega
        subst this
        rw [← hz, partB_all] at hown
        rw [hz] at hown
        exact ⟨rfl, hown, hg⟩

theorem heldByteS_any (a : Option Addr) (n cap : Nat) (s : Int) (w : World) (hS : Ints .u8 w a (markedB s n)) (hl : n ≤ 1048576) (s0 : 0 ≤ s) (s1 : s ≤ 1000000000) :
    Calls Tryd.prog 15 #[.slice a n cap, .int .i64 s] w fun e w' => e = .returned (.int .i64 (s + (n : Int))) ∧ w' = w := by
  go_enter Tryd.func15, Tryd.ntmps15
  go_wp2
  go_loop [1, 5] (fun m i => ∃ k : Nat, k ≤ n ∧ i = .int .i64 k ∧ m = .int .i64 (s + (k : Int))) (fun _ i => n - (intOf i).toNat)
  case atStart => exact ⟨0, Nat.zero_le _, rfl, by simp⟩
  case round =>
    obtain ⟨k, hk, rfl, rfl⟩ := hrel
    by_cases hlt : k < n
    · rcases hS with h | ⟨b, off, rfl, hc⟩
      · have := markedB_length s n; rw [h] at this; simp at this; omega
      · have q1 := hc k (by rw [markedB_length]; exact hlt)
        rw [markedB_at hlt] at q1
        clear hc
        go_wp2
        go_round
        case rel => exact ⟨k + 1, by omega, by go_num, by go_num⟩
        case measure => simp [intOf]; omega
    · go_wp2
      go_ret
      have : k = n := by omega
      subst this
      exact ⟨rfl, rfl⟩
end Go.Proofs.YthgggmkljnghmaaDoor
