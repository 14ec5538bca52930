import Derived.Test.YtincfdhfoaimbaaRows1
import Derived.LoopTactic
namespace Go.Proofs.Ytincfdhfoaimbaa
open Go.ChangeShapes Go.WideShapes Go.ChangeAt Go.RowKit
set_option linter.unusedVariables false

theorem info_u32 : (Try.prog.info? 22).map (fun i => (i.zero, i.size, i.bytes)) = some (some (.int .u32 0), 1, 4) := by kernel_rfl

theorem toUint32S_any (a : Option Addr) (zs : List Int) (cap : Nat) (w : World) (hz : Ints .u32 w a zs) (hl : zs.length ≤ 1048576) :
    Calls Try.prog 9 #[.slice a zs.length cap] w fun e w' => e = .returned (.slice (some ⟨w.heap.size, 0, none⟩) zs.length zs.length) ∧
      w'.ownsRow w.heap.size 22 1 (.slice (some ⟨w.heap.size, 0, none⟩) zs.length zs.length) zs.length (zs.map (.int .u32)) ∧ Below w.heap.size w w' := by
  obtain ⟨i0, hi, hz0, hz1, hz2⟩ := info_parts info_u32
  go_enter Try.func9, Try.ntmps9
  go_wp2_with (at_make; refine wpList_make_full _ rfl _ _ 23 rfl w.heap.size 22 i0 (.int .u32 0) 1 Try.underlying23 hi hz0 hz1 .i64 .i64 _ _ zs.length rfl rfl rfl rfl (by rw [hz2]; omega) (by unfold maxLen; omega) (Nat.le_refl _) ?_; intro w1 hown hgrow)
  have hstart : w1.ownsRow w.heap.size 22 1 (.slice (some ⟨w.heap.size, 0, none⟩) zs.length zs.length) zs.length ((part zs 0).map (.int .u32)) := by
    rw [part_zero]
    simpa [toList_madeCells_one, Value.cells] using hown
  have hbel : Below w.heap.size w w1 := (Below.refl _ _).grown hgrow (Nat.le_refl _) (by simp)
  clear hown hgrow
  go_loopw [4] (fun i wr => ∃ k : Nat, k ≤ zs.length ∧ i = .int .i64 k ∧ wr.ownsRow w.heap.size 22 1 (.slice (some ⟨w.heap.size, 0, none⟩) zs.length zs.length) zs.length ((part zs k).map (.int .u32)) ∧ Below w.heap.size w wr)
    (fun i _ => zs.length - (intOf i).toNat)
  case atStart => exact ⟨0, Nat.zero_le _, rfl, hstart, hbel⟩
  case round =>
    clear hstart hbel
    obtain ⟨k, hk, rfl, hown, hb⟩ := hrel
    by_cases hlt : k < zs.length
    · rcases hz with h | ⟨b, off, rfl, hc⟩
      · simp [h] at hlt
      · have hcell : wr.cell? ⟨b, off + k, none⟩ = some (.int .u32 (zs.getD k 0)) := by rw [hb.cell (World.block_lt_of_cell? w _ (hc k hlt))]; exact hc k hlt
        have hfz := hown.frozenAt k
        have hold : wr.cell? ⟨w.heap.size, k, none⟩ = some (.int .u32 ((part zs k).getD k 0)) := by
          rw [hown.cellAt k (by omega)]
          have : k < (part zs k).length := by have := owned_length hown; omega
          simp [this]
        have hst := hown.stored k (.int .u32 (zs.getD k 0))
        have hnext : (wr.setCell ⟨w.heap.size, k, none⟩ (.int .u32 (zs.getD k 0))).ownsRow w.heap.size 22 1 (.slice (some ⟨w.heap.size, 0, none⟩) zs.length zs.length) zs.length ((part zs (k + 1)).map (.int .u32)) := by
          rw [← part_succ zs k hlt, List.map_set]
          exact hst.1
        have hb2 : Below w.heap.size w (wr.setCell ⟨w.heap.size, k, none⟩ (.int .u32 (zs.getD k 0))) := hb.setCell (Nat.le_refl _) _
        clear hst hown hb hc
        go_wp2
        go_roundw
        case rel => exact ⟨k + 1, by omega, by go_num, by simpa [hlt] using hnext, by simpa [hlt] using hb2⟩
        case measure => simp [intOf]; omega
    · go_wp2
      go_ret
      have : k = zs.length := by omega
      subst this
      rw [part_all] at hown
      exact ⟨rfl, hown, hb⟩

theorem eqUint32S_same (a a' : Option Addr) (zs : List Int) (cap cap' : Nat) (w : World) (hz : Ints .u32 w a zs) (hz' : Ints .u32 w a' zs) (hl : zs.length ≤ 1048576) :
    Calls Try.prog 12 #[.slice a zs.length cap, .slice a' zs.length cap'] w fun e w' => e = .returned (.bool true) ∧ Below w.heap.size w w' := by
  go_enter Try.func12, Try.ntmps12
  go_wp2
  go_loopw [5] (fun i wr => ∃ k : Nat, k ≤ zs.length ∧ i = .int .i64 k ∧ Below w.heap.size w wr) (fun i _ => zs.length - (intOf i).toNat)
  case atStart => exact ⟨0, Nat.zero_le _, rfl, Below.refl _ _⟩
  case round =>
    obtain ⟨k, hk, rfl, hb⟩ := hrel
    by_cases hlt : k < zs.length
    · rcases hz with h | ⟨b, off, rfl, hc⟩
      · simp [h] at hlt
      rcases hz' with h | ⟨b', off', rfl, hc'⟩
      · simp [h] at hlt
      obtain ⟨c, hn⟩ : ∃ c : Int, Hid (zs.getD k 0 = c) := ⟨_, rfl⟩
      have hcell : wr.cell? ⟨b, off + k, none⟩ = some (.int .u32 c) := by rw [hb.cell (World.block_lt_of_cell? w _ (hc k hlt)), hc k hlt, hn.out]
      have hcell' : wr.cell? ⟨b', off' + k, none⟩ = some (.int .u32 c) := by rw [hb.cell (World.block_lt_of_cell? w _ (hc' k hlt)), hc' k hlt, hn.out]
      clear hc hc'
      go_wp2
      go_region
      all_goals
        go_wp2
        go_roundw
        case rel => exact ⟨k + 1, by omega, by go_num, hb.drew⟩
        case measure => simp [intOf]; omega
    · go_wp2
      go_ret
      exact ⟨rfl, hb⟩

/-- What marking leaves: s, s + 1, .. . -/
def markedW (s : Int) (n : Nat) : List Int := (List.range n).map fun (i : Nat) => (s + i)
theorem markedW_length (s : Int) (n : Nat) : (markedW s n).length = n := by simp [markedW]
theorem markedW_at {s : Int} {n i : Nat} (h : i < n) : (markedW s n).getD i 0 = (s + i) := by simp [markedW, h]
def partW (s : Int) (zs : List Int) (k : Nat) : List Int := markedW s k ++ zs.drop k
theorem partW_zero (s : Int) (zs : List Int) : partW s zs 0 = zs := by simp [partW, markedW]
theorem partW_all (s : Int) (zs : List Int) : partW s zs zs.length = markedW s zs.length := by simp [partW]
theorem partW_length (s : Int) (zs : List Int) {k : Nat} (h : k ≤ zs.length) : (partW s zs k).length = zs.length := by simp [partW, markedW_length]; omega
theorem partW_succ (s : Int) (zs : List Int) {k : Nat} (h : k < zs.length) : (partW s zs k).set k ((s + k)) = partW s zs (k + 1) := by
  unfold partW
  rw [List.set_append, markedW_length, if_neg (by omega), Nat.sub_self, List.drop_eq_getElem_cons h, List.set_cons_zero]
  have e : markedW s (k + 1) = markedW s k ++ [(s + k)] := by simp [markedW, List.range_succ]
  rw [e, List.append_assoc]
  rfl
theorem markUint32S_any (v : Value) (zs : List Int) (s : Int) (w : World) (base n : Nat) (hz : zs.length = n) (ho : w.ownsRow base 22 1 v n (zs.map (.int .u32))) (hl : n ≤ 1048576) (s0 : 0 ≤ s) (s1 : s ≤ 1000000000) :
    Calls Try.prog 13 #[v, .int .i64 s] w fun e w' => e = .returned (.int .i64 (s + (n : Int))) ∧ w'.ownsRow base 22 1 v n ((markedW s n).map (.int .u32)) ∧ w.grownBy w' v.ownBlock := by
  rcases ho.2 with ⟨rfl, h0⟩ | ⟨g, cap, cur, rfl, _⟩
  · go_enter Try.func13, Try.ntmps13
    go_wp2
    refine wp_loop_rounds 1 ?_
    rw [rounds_succ]
    go_wp2
    go_ret
    subst h0
    have hn : zs = [] := List.eq_nil_of_length_eq_zero hz
    subst hn
    exact ⟨ret_int (by simp), ho, World.grownBy.refl _ _⟩
  · go_enter Try.func13, Try.ntmps13
    go_wp2
    go_loopw [1, 5] (fun m i wr => ∃ k : Nat, k ≤ n ∧ i = .int .i64 k ∧ m = .int .i64 (s + (k : Int)) ∧ wr.ownsRow base 22 1 (.slice (some ⟨g, 0, none⟩) n cap) n ((partW s zs k).map (.int .u32)) ∧ w.grownBy wr (some g))
      (fun _ i _ => n - (intOf i).toNat)
    case atStart => exact ⟨0, Nat.zero_le _, rfl, by simp, by rw [partW_zero]; exact ho, World.grownBy.refl _ _⟩
    case round =>
      obtain ⟨k, hk, rfl, rfl, hown, hg⟩ := hrel
      by_cases hlt : k < n
      · have hfz := hown.frozenAt k
        have hold : wr.cell? ⟨g, k, none⟩ = some (.int .u32 ((partW s zs k).getD k 0)) := by
          rw [hown.cellAt k (by omega)]
          have : k < (partW s zs k).length := by rw [partW_length s zs (by omega)]; omega
          simp [this]
        have hst := hown.stored k (.int .u32 ((s + k)))
        have hnext : (wr.setCell ⟨g, k, none⟩ (.int .u32 ((s + k)))).ownsRow base 22 1 (.slice (some ⟨g, 0, none⟩) n cap) n ((partW s zs (k + 1)).map (.int .u32)) := by
          rw [← partW_succ s zs (by omega), List.map_set]
          exact hst.1
        have hg2 := grown_trans hg (grown_set wr g k (.int .u32 ((s + k))))
        obtain ⟨u, hu⟩ : ∃ u, Hid ((partW s zs k).getD k 0 = u) := ⟨_, rfl⟩
        rw [hu.out] at hold
        clear hst hown hg ho
        go_wp2
        go_roundw
        case rel => exact ⟨k + 1, by omega, by go_num, by go_num, by simpa [hlt] using hnext, by simpa [hlt] using hg2⟩
        case measure => simp [intOf]; omega
      · go_wp2
        go_ret
        have : k = n := by omega
        subst this
        rw [← hz, partW_all] at hown
        rw [hz] at hown
        exact ⟨rfl, hown, hg⟩

end Go.Proofs.Ytincfdhfoaimbaa
