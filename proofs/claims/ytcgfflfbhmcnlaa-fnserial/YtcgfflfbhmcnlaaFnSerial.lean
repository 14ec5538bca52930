import Derived.Test.YtcgfflfbhmcnlaaSerialDraws
namespace Go.Proofs.Ytcgfflfbhmcnlaa
open Go.ChangeShapes Go.WideShapes Go.ChangeAt Go.RowKit
set_option linter.unusedVariables false

theorem distAs (x y d : Int) (x0 : 0 ≤ x) (x1 : x ≤ 4294967295) (y0 : 0 ≤ y) (y1 : y ≤ 4294967295) (h : sd x y = d) (w : World) :
    Calls Try.prog 9 #[.int .u32 x, .int .u32 y] w fun e w' => e = .returned (.int .i64 d) ∧ w' = w := by
  subst h
  exact implDistance x y x0 x1 y0 y1 w

theorem lessAs (x y d : Int) (b : Bool) (x0 : 0 ≤ x) (x1 : x ≤ 4294967295) (y0 : 0 ≤ y) (y1 : y ≤ 4294967295) (h : sd x y = d) (hb : decide (0 < d) = b) (w : World) :
    Calls Try.prog 13 #[.int .u32 x, .int .u32 y] w fun e w' => e = .returned (.bool b) ∧ w' = w := by
  subst h hb
  exact implLess x y x0 x1 y0 y1 w

/-- y = x + d round the circle. -/
def Ahead (x y d : Int) : Prop := y - x - d = 0 ∨ y - x - d = 4294967296 ∨ y - x - d = -4294967296

theorem four (x y : Int) (h0 : 0 ≤ x) (h1 : x ≤ 4294967295) (h2 : 0 ≤ y) (h3 : y ≤ 4294967295) : ∃ d e : Int, Hid (sd x y = d) ∧ Hid (sd y x = e) ∧ -2147483648 ≤ d ∧ d < 2147483648 ∧ Ahead x y d ∧
    ((x = y ∧ d = 0 ∧ e = 0) ∨ (d = -2147483648 ∧ e = -2147483648) ∨ (0 < d ∧ e < 0 ∧ ¬ x = y ∧ ¬ (x - y) % 4294967296 = 2147483648) ∨ (d < 0 ∧ -2147483648 < d ∧ 0 < e ∧ ¬ x = y ∧ ¬ (x - y) % 4294967296 = 2147483648)) := by
  refine ⟨sd x y, sd y x, rfl, rfl, ?_⟩
  unfold Ahead
  rcases sd_cases x y h0 h1 h2 h3 with ⟨c, s1, s2⟩ | ⟨c, s1, s2⟩ | ⟨c, s1, s2⟩ | ⟨c, s1, s2⟩ | ⟨c, c2, s1, s2⟩
  all_goals rw [s1, s2]; omega

theorem implLift_in' (n s d v : Int) (h0 : 0 ≤ n) (h1 : n ≤ 18446744073709551615) (d0 : -2147483648 ≤ d) (d1 : d < 2147483648) (hs : s = (n + d) % 4294967296) (a : 0 ≤ n + d) (b : n + d ≤ 18446744073709551615) (hv : v = n + d) (w : World) :
    Calls Try.prog 11 #[.int .u64 n, .int .u32 s] w fun e w' => e = .returned (.tuple #[.int .u64 v, .int .i64 0]) ∧ w' = w := by
  subst hv
  exact implLift_in n s d h0 h1 d0 d1 hs a b w

/-- What n + d is in 64 bits. -/
theorem sum64 (n d : Int) (n0 : 0 ≤ n) (n1 : n ≤ 18446744073709551615) (d0 : -2147483648 ≤ d) (d1 : d < 2147483648) :
    ∃ v : Int, IntKind.u64.wrap (n + d) = v ∧ IntKind.u64.wrap (n + IntKind.u64.wrap d) = v ∧ Hid (v % 4294967296 = (n + d) % 4294967296) ∧
      ((n + d < 0 ∧ n < v) ∨ (18446744073709551615 < n + d ∧ v < n) ∨ (0 ≤ n + d ∧ n + d ≤ 18446744073709551615 ∧ Hid (v = n + d) ∧ (0 ≤ d → n ≤ v) ∧ (d < 0 → v < n))) := by
  refine ⟨IntKind.u64.wrap (n + d), rfl, ?_, ?_, ?_⟩
  · simp only [IntKind.wrap_u64]; omega
  · unfold Hid; simp only [IntKind.wrap_u64]; omega
  · unfold Hid; simp only [IntKind.wrap_u64]; omega

set_option maxHeartbeats 2000000 in
theorem lawSerial (a : Option Addr) (zs : List Int) (cap : Nat) (a' : Option Addr) (ys : List Int) (cap' : Nat) (w : World) (hz : Ints .u8 w a zs) (hv : ∀ x ∈ zs, 0 ≤ x ∧ x ≤ 255) (hm : zs.length ≤ 9223372036854775807) (hy : Ints .u8 w a' ys) (hw : ∀ x ∈ ys, 0 ≤ x ∧ x ≤ 255) (hn : ys.length ≤ 9223372036854775807) :
    Calls Try.prog 7 #[.slice a zs.length cap, .slice a' ys.length cap'] w fun e w' => e = .returned (.bool true) ∧ Below w.heap.size w w' := by
  by_cases hl : zs.length ≤ 1048576
  · by_cases hl' : ys.length ≤ 1048576
    · go_enter Try.func7, Try.ntmps7
      go_wp2_with fail
      refine (drawDistance w a zs cap hz hv hl).mono ?_
      rintro e w1 ⟨x, y, rfl, x0, x1, y0, y1, hb⟩
      have hy1 := hy.moved hb
      obtain ⟨d, e, hd, he, d0, d1, had, hcase⟩ := four x y x0 x1 y0 y1
      unfold Ahead at had
      rcases hcase with ⟨c, c2, c3⟩ | ⟨c, c2⟩ | ⟨c, c2, c3, c4⟩ | ⟨c, c2, c3, c4, c5⟩
      · subst c c2 c3
        go_wp2_with (first
          | (go_at_call 9; refine (distAs _ _ 0 (by omega) (by omega) (by omega) (by omega) hd.out _).mono ?_; rintro e w2 ⟨rfl, rfl⟩)
          | (go_at_call 13; refine (lessAs _ _ 0 false (by omega) (by omega) (by omega) (by omega) hd.out rfl _).mono ?_; rintro e w2 ⟨rfl, rfl⟩))
        all_goals
          refine (drawLift _ a' ys cap' hy1 hw hl').mono ?_
          rintro e3 w3 ⟨n, m, rfl, n0, n1, hb3⟩
          have hbw := hb.trans (hb3.mono hb.size)
          clear had hd he hy1 hz hy hv hw hb hb3
          go_wp2_with (go_at_call 11; refine (implLift_in' n _ 0 n n0 n1 (by omega) (by omega) (by omega) (by omega) (by omega) (by omega) _).mono ?_; rintro e4 w4 ⟨rfl, rfl⟩)
          go_ret
          exact ⟨rfl, hbw⟩
      · subst c c2
        go_wp2_with (first
          | (go_at_call 9; refine (distAs _ _ _ (by omega) (by omega) (by omega) (by omega) hd.out _).mono ?_; rintro e w2 ⟨rfl, rfl⟩)
          | (go_at_call 13; refine (lessAs _ _ _ false (by omega) (by omega) (by omega) (by omega) hd.out rfl _).mono ?_; rintro e w2 ⟨rfl, rfl⟩)
          | (go_at_call 13; refine (lessAs _ _ _ false (by omega) (by omega) (by omega) (by omega) he.out rfl _).mono ?_; rintro e w2 ⟨rfl, rfl⟩))
        all_goals
          refine (drawLift _ a' ys cap' hy1 hw hl').mono ?_
          rintro e3 w3 ⟨n, m, rfl, n0, n1, hb3⟩
          have hbw := hb.trans (hb3.mono hb.size)
          clear had hd he hy1 hz hy hv hw hb hb3
          obtain ⟨v, r1, r2, hs, g⟩ := sum64 n (-2147483648) n0 n1 (by omega) (by omega)
          rcases g with ⟨g, g2⟩ | ⟨g, g2⟩ | ⟨g, g1, g2, g3, g4⟩
          · go_wp2_with (go_at_call 11; refine (implLift_out n _ (-2147483648) n0 n1 (by omega) (by omega) hs.out (.inl g) _).mono ?_; rintro e4 w4 ⟨rfl, rfl⟩)
            go_ret
            exact ⟨rfl, hbw⟩
          · exfalso
            omega
          · go_wp2_with (go_at_call 11; refine (implLift_in' n _ (-2147483648) v n0 n1 (by omega) (by omega) hs.out g g1 g2.out _).mono ?_; rintro e4 w4 ⟨rfl, rfl⟩)
            go_ret
            exact ⟨rfl, hbw⟩
      · go_wp2_with (first
          | (go_at_call 9; refine (distAs _ _ _ (by omega) (by omega) (by omega) (by omega) hd.out _).mono ?_; rintro e w2 ⟨rfl, rfl⟩)
          | (go_at_call 13; refine (lessAs _ _ _ true (by omega) (by omega) (by omega) (by omega) hd.out (by simp; omega) _).mono ?_; rintro e w2 ⟨rfl, rfl⟩)
          | (go_at_call 13; refine (lessAs _ _ _ false (by omega) (by omega) (by omega) (by omega) he.out (by simp; omega) _).mono ?_; rintro e w2 ⟨rfl, rfl⟩))
        all_goals
          refine (drawLift _ a' ys cap' hy1 hw hl').mono ?_
          rintro e3 w3 ⟨n, m, rfl, n0, n1, hb3⟩
          have hbw := hb.trans (hb3.mono hb.size)
          clear had hd he hy1 hz hy hv hw hb hb3
          obtain ⟨v, r1, r2, hs, g⟩ := sum64 n (d) n0 n1 (by omega) (by omega)
          rcases g with ⟨g, g2⟩ | ⟨g, g2⟩ | ⟨g, g1, g2, g3, g4⟩
          · exfalso
            omega
          · go_wp2_with (go_at_call 11; refine (implLift_out n _ (d) n0 n1 (by omega) (by omega) hs.out (.inr g) _).mono ?_; rintro e4 w4 ⟨rfl, rfl⟩)
            go_ret
            exact ⟨rfl, hbw⟩
          · go_wp2_with (go_at_call 11; refine (implLift_in' n _ (d) v n0 n1 (by omega) (by omega) hs.out g g1 g2.out _).mono ?_; rintro e4 w4 ⟨rfl, rfl⟩)
            go_ret
            exact ⟨rfl, hbw⟩
      · go_wp2_with (first
          | (go_at_call 9; refine (distAs _ _ _ (by omega) (by omega) (by omega) (by omega) hd.out _).mono ?_; rintro e w2 ⟨rfl, rfl⟩)
          | (go_at_call 13; refine (lessAs _ _ _ false (by omega) (by omega) (by omega) (by omega) hd.out (by simp; omega) _).mono ?_; rintro e w2 ⟨rfl, rfl⟩)
          | (go_at_call 13; refine (lessAs _ _ _ true (by omega) (by omega) (by omega) (by omega) he.out (by simp; omega) _).mono ?_; rintro e w2 ⟨rfl, rfl⟩))
        all_goals
          refine (drawLift _ a' ys cap' hy1 hw hl').mono ?_
          rintro e3 w3 ⟨n, m, rfl, n0, n1, hb3⟩
          have hbw := hb.trans (hb3.mono hb.size)
          clear had hd he hy1 hz hy hv hw hb hb3
          obtain ⟨v, r1, r2, hs, g⟩ := sum64 n (d) n0 n1 (by omega) (by omega)
          rcases g with ⟨g, g2⟩ | ⟨g, g2⟩ | ⟨g, g1, g2, g3, g4⟩
          · go_wp2_with (go_at_call 11; refine (implLift_out n _ (d) n0 n1 (by omega) (by omega) hs.out (.inl g) _).mono ?_; rintro e4 w4 ⟨rfl, rfl⟩)
            go_ret
            exact ⟨rfl, hbw⟩
          · exfalso
            omega
          · go_wp2_with (go_at_call 11; refine (implLift_in' n _ (d) v n0 n1 (by omega) (by omega) hs.out g g1 g2.out _).mono ?_; rintro e4 w4 ⟨rfl, rfl⟩)
            go_ret
            exact ⟨rfl, hbw⟩
    · go_enter Try.func7, Try.ntmps7
      go_wp2
      go_ret
      exact ⟨rfl, Below.refl _ _⟩
  · go_enter Try.func7, Try.ntmps7
    go_wp2
    go_ret
    exact ⟨rfl, Below.refl _ _⟩
end Go.Proofs.Ytcgfflfbhmcnlaa
