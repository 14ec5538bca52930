import Derived.Test.YthgggmkljnghmaaDoorWireBase
namespace Go.Proofs.YthgggmkljnghmaaDoor
open Go.ChangeShapes Go.WideShapes Go.ChangeAt Go.RowKit
set_option linter.unusedVariables false

theorem ints_one (w : World) (b : Int) (e : TypeId) : Ints .u8 (w.alloc (.cells #[.int .u8 b] e)) (some ⟨w.heap.size, 0, none⟩) [b] := by
  refine .inr ⟨_, 0, rfl, fun i hi => ?_⟩
  obtain rfl : i = 0 := by simpa using hi
  simp

set_option maxHeartbeats 4000000 in
theorem specPut (base : Nat) (av : Option Addr) (n cap : Nat) (zs : List Int) (x : Int) (m : Nat) (w : World) (x0 : 0 ≤ x) (x1 : x ≤ 18446744073709551615) (hm : m ≤ 8) (hz : zs.length = n) (hl : n ≤ 1000000)
    (hown : w.ownsRow base 5 1 (.slice av n cap) n (zs.map (.int .u8))) (hbase : base ≤ w.heap.size) :
    Calls Tryd.prog 27 #[.slice av n cap, .int .u64 x, .int .i64 m] w fun e w' => ∃ av' cap', e = .returned (.slice av' (n + m) cap') ∧ w'.ownsRow base 5 1 (.slice av' (n + m) cap') (n + m) ((zs ++ be x m).map (.int .u8)) ∧ Below base w w' := by
  go_enter Tryd.func27, Tryd.ntmps27
  go_wp2
  go_loopw [0, 7] (fun v i wr => ∃ (t : Nat) (av' : Option Addr) (cap' : Nat), t ≤ m ∧ i = .int .i64 ((m : Int) - 1 - t) ∧ v = .slice av' (n + t) cap' ∧ wr.ownsRow base 5 1 (.slice av' (n + t) cap') (n + t) ((zs ++ (be x m).take t).map (.int .u8)) ∧ Below base w wr) (fun _ i _ => (intOf i + 1).toNat)
  case atStart => exact ⟨0, av, cap, Nat.zero_le _, by go_num, rfl, by simpa using hown, Below.refl _ _⟩
  case round =>
    obtain ⟨t, av', cap', ht, rfl, rfl, ho, hb⟩ := hrel
    by_cases hlt : t < m
    · have hsz := hb.size
      have hlen : Hid ((zs ++ (be x m).take t).length = n + t) := by unfold Hid; simp [be_length]; omega
      have hone := ints_one wr (byteOf x (m - 1 - t)) 5
      go_wp2_with (at_builtin; refine wpList_appI _ (by rfl) _ _ (by rfl) base av' (n + t) cap' (zs ++ (be x m).take t) hlen.out (by rfl) (ho.alloc _) (some ⟨wr.heap.size, 0, none⟩) [byteOf x (m - 1 - t)] 1 1 rfl (by rfl) (by simp) hone (by omega) (by simp; omega) ?_; intro av2 cap2 w2 ho2 hg2)
      have hb2 := below_grown (hb.alloc (by omega) _) (ho.alloc _) hg2 (Nat.le_refl _) (by simp; omega)
      go_roundw
      case rel => exact ⟨t + 1, av2, cap2, hlt, by go_num, rfl, by rw [be_take x m t hlt, ← List.append_assoc]; exact ho2, hb2⟩
      case measure => simp [intOf]; omega
    · go_wp2
      go_ret
      have : t = m := by omega
      subst this
      exact ⟨av', cap', rfl, by rw [List.take_of_length_le (by rw [be_length]; exact Nat.le_refl _)] at ho; exact ho, hb⟩

set_option maxHeartbeats 4000000 in
theorem implPut (base : Nat) (av : Option Addr) (n cap : Nat) (zs : List Int) (x : Int) (m : Nat) (w : World) (x0 : 0 ≤ x) (x1 : x ≤ 18446744073709551615) (hm : m ≤ 8) (hz : zs.length = n) (hl : n ≤ 1000000)
    (hown : w.ownsRow base 5 1 (.slice av n cap) n (zs.map (.int .u8))) (hbase : base ≤ w.heap.size) :
    Calls Tryd.prog 31 #[.slice av n cap, .int .u64 x, .int .i64 m] w fun e w' => ∃ av' cap', e = .returned (.slice av' (n + m) cap') ∧ w'.ownsRow base 5 1 (.slice av' (n + m) cap') (n + m) ((zs ++ be x m).map (.int .u8)) ∧ Below base w w' := by
  go_enter Tryd.func31, Tryd.ntmps31
  go_wp2
  go_loopw [0, 7] (fun v i wr => ∃ (t : Nat) (av' : Option Addr) (cap' : Nat), t ≤ m ∧ i = .int .i64 ((m : Int) - 1 - t) ∧ v = .slice av' (n + t) cap' ∧ wr.ownsRow base 5 1 (.slice av' (n + t) cap') (n + t) ((zs ++ (be x m).take t).map (.int .u8)) ∧ Below base w wr) (fun _ i _ => (intOf i + 1).toNat)
  case atStart => exact ⟨0, av, cap, Nat.zero_le _, by go_num, rfl, by simpa using hown, Below.refl _ _⟩
  case round =>
    obtain ⟨t, av', cap', ht, rfl, rfl, ho, hb⟩ := hrel
    by_cases hlt : t < m
    · have hsz := hb.size
      have hlen : Hid ((zs ++ (be x m).take t).length = n + t) := by unfold Hid; simp [be_length]; omega
      have hone := ints_one wr (byteOf x (m - 1 - t)) 5
      go_wp2_with (at_builtin; refine wpList_appI _ (by rfl) _ _ (by rfl) base av' (n + t) cap' (zs ++ (be x m).take t) hlen.out (by rfl) (ho.alloc _) (some ⟨wr.heap.size, 0, none⟩) [byteOf x (m - 1 - t)] 1 1 rfl (by rfl) (by simp) hone (by omega) (by simp; omega) ?_; intro av2 cap2 w2 ho2 hg2)
      have hb2 := below_grown (hb.alloc (by omega) _) (ho.alloc _) hg2 (Nat.le_refl _) (by simp; omega)
      go_roundw
      case rel => exact ⟨t + 1, av2, cap2, hlt, by go_num, rfl, by rw [be_take x m t hlt, ← List.append_assoc]; exact ho2, hb2⟩
      case measure => simp [intOf]; omega
    · go_wp2
      go_ret
      have : t = m := by omega
      subst this
      exact ⟨av', cap', rfl, by rw [List.take_of_length_le (by rw [be_length]; exact Nat.le_refl _)] at ho; exact ho, hb⟩
end Go.Proofs.YthgggmkljnghmaaDoor
