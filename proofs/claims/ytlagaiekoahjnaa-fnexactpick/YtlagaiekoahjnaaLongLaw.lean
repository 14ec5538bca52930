import Derived.Test.YtlagaiekoahjnaaRows1
import Derived.LoopTactic
namespace Go.Proofs.Ytlagaiekoahjnaa
open Go.ChangeShapes Go.WideShapes Go.ChangeAt Go.RowKit
set_option linter.unusedVariables false

theorem info_i64 : (Try.prog.info? 2).map (fun i => (i.zero, i.size, i.bytes)) = some (some (.int .i64 0), 1, 8) := by kernel_rfl

theorem eqInt64S_same (a a' : Option Addr) (zs : List Int) (cap cap' : Nat) (w : World) (hz : Ints .i64 w a zs) (hz' : Ints .i64 w a' zs) (hl : zs.length ≤ 1048576) :
    Calls Try.prog 21 #[.slice a zs.length cap, .slice a' zs.length cap'] w fun e w' => e = .returned (.bool true) ∧ Below w.heap.size w w' := by
  go_enter Try.func21, Try.ntmps21
  go_wp2
  go_loopw [5] (fun i wr => ∃ k : Nat, k ≤ zs.length ∧ i = .int .i64 k ∧ Below w.heap.size w wr) (fun i _ => zs.length - (intOf i).toNat)
  case atStart => exact ⟨0, Nat.zero_le _, rfl, Below.refl _ _⟩
  case round =>
    obtain ⟨k, hk, rfl, hb⟩ := hrel
    by_cases hlt : k < zs.length
    · rcases hz with h | ⟨b, off, rfl, hc⟩
      · simp [h] at hlt
      rcases hz' with h | ⟨b', off', rfl, hc'⟩
      · simp [h] at hlt
      obtain ⟨c, hn⟩ : ∃ c : Int, Hid (zs.getD k 0 = c) := ⟨_, rfl⟩
      have hcell : wr.cell? ⟨b, off + k, none⟩ = some (.int .i64 c) := by rw [hb.cell (World.block_lt_of_cell? w _ (hc k hlt)), hc k hlt, hn.out]
      have hcell' : wr.cell? ⟨b', off' + k, none⟩ = some (.int .i64 c) := by rw [hb.cell (World.block_lt_of_cell? w _ (hc' k hlt)), hc' k hlt, hn.out]
      clear hc hc'
      go_wp2
      go_region
      all_goals
        go_wp2
        go_roundw
        case rel => exact ⟨k + 1, by omega, by go_num, hb.drew⟩
        case measure => simp [intOf]; omega
    · go_wp2
      go_ret
      exact ⟨rfl, hb⟩

/-- What marking leaves: s, s + 1, .. . -/
def markedL (s : Int) (n : Nat) : List Int := (List.range n).map fun (i : Nat) => (s + i)
theorem markedL_length (s : Int) (n : Nat) : (markedL s n).length = n := by simp [markedL]
theorem markedL_at {s : Int} {n i : Nat} (h : i < n) : (markedL s n).getD i 0 = (s + i) := by simp [markedL, h]
def partL (s : Int) (zs : List Int) (k : Nat) : List Int := markedL s k ++ zs.drop k
theorem partL_zero (s : Int) (zs : List Int) : partL s zs 0 = zs := by simp [partL, markedL]
theorem partL_all (s : Int) (zs : List Int) : partL s zs zs.length = markedL s zs.length := by simp [partL]
theorem partL_length (s : Int) (zs : List Int) {k : Nat} (h : k ≤ zs.length) : (partL s zs k).length = zs.length := by simp [partL, markedL_length]; omega
theorem partL_succ (s : Int) (zs : List Int) {k : Nat} (h : k < zs.length) : (partL s zs k).set k ((s + k)) = partL s zs (k + 1) := by
  unfold partL
  rw [List.set_append, markedL_length, if_neg (by omega), Nat.sub_self, List.drop_eq_getElem_cons h, List.set_cons_zero]
  have e : markedL s (k + 1) = markedL s k ++ [(s + k)] := by simp [markedL, List.range_succ]
  rw [e, List.append_assoc]
  rfl
theorem markInt64S_any (v : Value) (zs : List Int) (s : Int) (w : World) (base n : Nat) (hz : zs.length = n) (ho : w.ownsRow base 2 1 v n (zs.map (.int .i64))) (hl : n ≤ 1048576) (s0 : 0 ≤ s) (s1 : s ≤ 1000000000) :
    Calls Try.prog 24 #[v, .int .i64 s] w fun e w' => e = .returned (.int .i64 (s + (n : Int))) ∧ w'.ownsRow base 2 1 v n ((markedL s n).map (.int .i64)) ∧ w.grownBy w' v.ownBlock := by
  rcases ho.2 with ⟨rfl, h0⟩ | ⟨g, cap, cur, rfl, _⟩
  · go_enter Try.func24, Try.ntmps24
    go_wp2
    refine wp_loop_rounds 1 ?_
    rw [rounds_succ]
    go_wp2
    go_ret
    subst h0
    have hn : zs = [] := List.eq_nil_of_length_eq_zero hz
    subst hn
    exact ⟨ret_int (by simp), ho, World.grownBy.refl _ _⟩
  · go_enter Try.func24, Try.ntmps24
    go_wp2
    go_loopw [1, 5] (fun m i wr => ∃ k : Nat, k ≤ n ∧ i = .int .i64 k ∧ m = .int .i64 (s + (k : Int)) ∧ wr.ownsRow base 2 1 (.slice (some ⟨g, 0, none⟩) n cap) n ((partL s zs k).map (.int .i64)) ∧ w.grownBy wr (some g))
      (fun _ i _ => n - (intOf i).toNat)
    case atStart => exact ⟨0, Nat.zero_le _, rfl, by simp, by rw [partL_zero]; exact ho, World.grownBy.refl _ _⟩
    case round =>
      obtain ⟨k, hk, rfl, rfl, hown, hg⟩ := hrel
      by_cases hlt : k < n
      · have hfz := hown.frozenAt k
        have hold : wr.cell? ⟨g, k, none⟩ = some (.int .i64 ((partL s zs k).getD k 0)) := by
          rw [hown.cellAt k (by omega)]
          have : k < (partL s zs k).length := by rw [partL_length s zs (by omega)]; omega
          simp [this]
        have hst := hown.stored k (.int .i64 ((s + k)))
        have hnext : (wr.setCell ⟨g, k, none⟩ (.int .i64 ((s + k)))).ownsRow base 2 1 (.slice (some ⟨g, 0, none⟩) n cap) n ((partL s zs (k + 1)).map (.int .i64)) := by
          rw [← partL_succ s zs (by omega), List.map_set]
          exact hst.1
        have hg2 := grown_trans hg (grown_set wr g k (.int .i64 ((s + k))))
        obtain ⟨u, hu⟩ : ∃ u, Hid ((partL s zs k).getD k 0 = u) := ⟨_, rfl⟩
        rw [hu.out] at hold
        clear hst hown hg ho
        go_wp2
        go_roundw
        case rel => exact ⟨k + 1, by omega, by go_num, by go_num, by simpa [hlt] using hnext, by simpa [hlt] using hg2⟩
        case measure => simp [intOf]; omega
      · go_wp2
        go_ret
        have : k = n := by omega
        subst this
        rw [← hz, partL_all] at hown
        rw [hz] at hown
        exact ⟨rfl, hown, hg⟩


theorem heldInt64S_any (a : Option Addr) (n cap : Nat) (w : World) (hS : Ints .i64 w a (markedL 1 n)) (hl : n ≤ 1048576) :
    Calls Try.prog 25 #[.slice a n cap, .int .i64 1] w fun e w' => e = .returned (.int .i64 (1 + (n : Int))) ∧ w' = w := by
  go_enter Try.func25, Try.ntmps25
  go_wp2
  go_loop [1, 5] (fun m i => ∃ k : Nat, k ≤ n ∧ i = .int .i64 k ∧ m = .int .i64 (1 + (k : Int))) (fun _ i => n - (intOf i).toNat)
  case atStart => exact ⟨0, Nat.zero_le _, rfl, by simp⟩
  case round =>
    obtain ⟨k, hk, rfl, rfl⟩ := hrel
    by_cases hlt : k < n
    · rcases hS with h | ⟨b, off, rfl, hc⟩
      · have := markedL_length 1 n; rw [h] at this; simp at this; omega
      · have h0 := hc k (by rw [markedL_length]; exact hlt)
        rw [markedL_at hlt] at h0
        clear hc
        go_wp2
        go_round
        case rel => exact ⟨k + 1, by omega, by go_num, by go_num⟩
        case measure => simp [intOf]; omega
    · go_wp2
      go_ret
      have : k = n := by omega
      subst this
      exact ⟨rfl, rfl⟩
end Go.Proofs.Ytlagaiekoahjnaa
