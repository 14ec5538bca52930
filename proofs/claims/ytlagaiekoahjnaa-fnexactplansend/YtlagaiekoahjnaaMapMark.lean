import Derived.Test.YtlagaiekoahjnaaMapBase
namespace Go.Proofs.Ytlagaiekoahjnaa
open Go.ChangeShapes Go.WideShapes Go.ChangeAt Go.RowKit
set_option linter.unusedVariables false

theorem szMS_is (a : Option Addr) (n cap : Nat) (s c : Int) (w : World) (hm : n ≤ 9223372036854775807) (s0 : 0 ≤ s) (s1 : s ≤ 1048576) (hc : ((n : Int) ≤ s ∧ c = s - (n : Int)) ∨ (s < (n : Int) ∧ c = -1)) :
    Calls Try.prog 8 #[.slice a n cap, .int .i64 s] w fun e w' => e = .returned (.int .i64 c) ∧ w' = w := by
  rcases hc with ⟨h, rfl⟩ | ⟨h, rfl⟩
  · go_enter Try.func8, Try.ntmps8
    go_wp2
    go_ret
    exact ⟨rfl, rfl⟩
  · go_enter Try.func8, Try.ntmps8
    go_wp2
    go_ret
    exact ⟨rfl, rfl⟩

theorem storedM_n {w : World} {base : Nat} {e : TypeId} {g n cap : Nat} {S : Mps} (h : w.ownsRow base e 5 (.slice (some ⟨g, 0, none⟩) n cap) n (flatM S)) (hn : S.length = n) (j : Nat) (hj : j < n) (c0 c1 c2 c3 c4 : Int) :
    ((((((w).setCell ⟨g, j * 5, none⟩ (.int .u64 c0)).setCell ⟨g, j * 5 + 1, none⟩ (.int .i64 c1)).setCell ⟨g, j * 5 + 2, none⟩ (.int .i64 c2)).setCell ⟨g, j * 5 + 3, none⟩ (.int .i64 c3)).setCell ⟨g, j * 5 + 4, none⟩ (.int .i64 c4)).ownsRow base e 5 (.slice (some ⟨g, 0, none⟩) n cap) n (flatM (S.set j ⟨c0, c1, c2, c3, c4⟩)) := by
  subst hn
  exact storedM h j hj c0 c1 c2 c3 c4

set_option maxHeartbeats 1000000 in
theorem markMS_from (v : Value) (S : Mps) (s : Int) (w : World) (base : Nat) (ho : w.ownsRow base 55 5 v S.length (flatM S)) (hl : S.length ≤ 1048576) (s0 : 0 ≤ s) (s1 : s ≤ 1000000000) :
    Calls Try.prog 13 #[v, .int .i64 s] w fun e w' => e = .returned (.int .i64 (s + 5 * (S.length : Int))) ∧ (∃ T : Mps, T.length = S.length ∧ w'.ownsRow base 55 5 v S.length (flatM T)) ∧ w.grownBy w' v.ownBlock := by
  rcases ho.2 with ⟨rfl, h0⟩ | ⟨g, cap, cur, rfl, _⟩
  · go_enter Try.func13, Try.ntmps13
    go_wp2
    refine wp_loop_rounds 1 ?_
    rw [rounds_succ]
    go_wp2
    go_ret
    have hn : S = [] := List.eq_nil_of_length_eq_zero h0
    subst hn
    exact ⟨ret_int (by simp), ⟨[], rfl, ho⟩, World.grownBy.refl _ _⟩
  · go_enter Try.func13, Try.ntmps13
    go_wp2
    go_loopw [1, 5] (fun m i wr => ∃ (k : Nat) (T : Mps), k ≤ S.length ∧ T.length = S.length ∧ i = .int .i64 k ∧ m = .int .i64 (s + 5 * (k : Int)) ∧ wr.ownsRow base 55 5 (.slice (some ⟨g, 0, none⟩) S.length cap) S.length (flatM T) ∧ w.grownBy wr (some g))
      (fun _ i _ => S.length - (intOf i).toNat)
    case atStart => exact ⟨0, S, Nat.zero_le _, rfl, rfl, by simp, ho, World.grownBy.refl _ _⟩
    case round =>
      obtain ⟨k, T, hk, hT, rfl, rfl, hown, hg⟩ := hrel
      by_cases hlt : k < S.length
      · obtain ⟨f0, f1, f2, f3, f4, ⟨u0, g0⟩, ⟨u1, g1⟩, ⟨u2, g2⟩, ⟨u3, g3⟩, ⟨u4, g4⟩⟩ := placeM hown hlt
        have HT : Hid _ := hT
        have HO : Hid _ := hown
        have HG : Hid _ := hg
        clear hown hg ho hT
        go_wp2
        go_roundw
        case rel => exact ⟨k + 1, _, by omega, by rw [List.length_set]; exact HT.out, by go_num, by go_num, storedM_n HO.out HT.out k hlt _ _ _ _ _, grown_trans HG.out (grownM wr g k _ _ _ _ _)⟩
        case measure => simp [intOf]; omega
      · go_wp2
        go_ret
        have : k = S.length := by omega
        subst this
        exact ⟨rfl, ⟨T, hT, hown⟩, hg⟩
end Go.Proofs.Ytlagaiekoahjnaa
