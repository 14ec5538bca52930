import Derived.Test.YtlagaiekoahjnaaPickSpec2
namespace Go.Proofs.Ytlagaiekoahjnaa
open Go.ChangeShapes Go.WideShapes Go.ChangeAt Go.RowKit
set_option linter.unusedVariables false

theorem shift_and (B i : Nat) (hB : B < 256) : bits .and .i64 ((B : Int) / 2 ^ i) 1 = ((B / 2 ^ i % 2 : Nat) : Int) := by
  have h1 : ((B : Int) / 2 ^ i) = ((B / 2 ^ i : Nat) : Int) := by simp
  have h2 : B / 2 ^ i < 256 := Nat.lt_of_le_of_lt (Nat.div_le_self _ _) hB
  rw [h1, show (1 : Int) = ((1 : Nat) : Int) from rfl, and_small _ 1 h2 (by omega), nat_mask1]

set_option maxHeartbeats 1000000 in
theorem eligible_is (a : Option Addr) (V : Vws) (cap B i : Nat) (r : Bool) (w : World) (hS : LieV w a V) (hf : FitsV V) (hl : V.length ≤ 8) (hB : B < 256) (hi : i < V.length) (hr : el V B i = r) :
    Calls Try.prog 78 #[.slice a V.length cap, .int .i64 (i : Int), .int .i64 (B : Int)] w fun e w' => e = .returned (.bool r) ∧ w' = w := by
  rcases hS with h | ⟨b, off, rfl, hc⟩
  · simp [h] at hi
  obtain ⟨c0, c1, c2, hn, hok, q0, q1, q2⟩ := LieV.at hf hc hi
  have hel := el_at (B := B) hi hn.out
  rw [hr] at hel
  have x1 : (i : Int) < (V.length : Int) := by omega
  have x2 : (i : Int) ≤ 64 := by omega
  have hand := shift_and B i hB
  have htb : B.testBit i = decide (B / 2 ^ i % 2 = 1) := Nat.testBit_eq_decide_div_mod_eq
  obtain ⟨d, hd⟩ : ∃ d : Nat, d = B / 2 ^ i % 2 := ⟨_, rfl⟩
  have hd2 : d < 2 := by rw [hd]; omega
  rw [← hd] at hand htb
  rw [htb] at hel
  clear hr hc hf hok hn htb hd
  by_cases g0 : c0 = 1
  · subst g0
    by_cases g2 : 0 < c2
    · by_cases hd0 : d = 0
      · subst hd0
        obtain rfl : r = true := by rw [hel]; simp [g2]
        clear hel
        go_enter Try.func78, Try.ntmps78
        go_wp2
        go_ret
        exact ⟨rfl, rfl⟩
      · obtain rfl : d = 1 := by omega
        obtain rfl : r = false := by rw [hel]; simp
        clear hel hd0
        go_enter Try.func78, Try.ntmps78
        go_wp2
        go_ret
        exact ⟨rfl, rfl⟩
    · obtain rfl : r = false := by rw [hel]; simp [g2]
      have g2' : c2 ≤ 0 := by omega
      clear hel g2
      go_enter Try.func78, Try.ntmps78
      go_wp2
      go_ret
      exact ⟨rfl, rfl⟩
  · obtain rfl : r = false := by rw [hel]; simp [g0]
    have g0' : (c0 == 1) = false := by simpa using g0
    clear hel
    go_enter Try.func78, Try.ntmps78
    go_wp2
    go_ret
    exact ⟨rfl, rfl⟩

/-- The function F ranks the paths by r. -/
def RankIs (F : Nat) (r : Nat → Int) (t k : Int) (V : Vws) (a : Option Addr) (cap B : Nat) : Prop :=
  ∀ (i : Nat) (w : World), i < V.length → LieV w a V → Calls Try.prog F #[.agg #[.int .i64 t, .int .i64 k, .slice a V.length cap, .int .i64 (B : Int)], .int .i64 (i : Int)] w fun e w' => e = .returned (.int .i64 (r i)) ∧ Below w.heap.size w w'

theorem rankRound (t k : Int) (V : Vws) (a : Option Addr) (cap B : Nat) (hl : V.length ≤ 8) (t0 : 0 ≤ t) (t1 : t < V.length) : RankIs 68 (rkRound t V.length) t k V a cap B := by
  intro i w hi hS
  have x1 : (i : Int) < (V.length : Int) := by omega
  have x2 : (V.length : Int) ≤ 8 := by omega
  clear hS
  go_enter Try.func68, Try.ntmps68
  go_wp2
  go_ret
  exact ⟨rfl, (Below.refl _ _).alloc (Nat.le_refl _) _⟩
theorem rankBack (t k : Int) (V : Vws) (a : Option Addr) (cap B : Nat) (hf : FitsV V) (hV : ValidV V) (hl : V.length ≤ 8) : RankIs 69 (rkBack V 8) t k V a cap B := by
  intro i w hi hS
  rcases hS with h | ⟨b, off, rfl, hc⟩
  · simp [h] at hi
  obtain ⟨c0, c1, c2, hn, hok, q0, q1, q2⟩ := LieV.at hf hc hi
  have hv := hV i hi hi
  rw [hn.out] at hv
  have v1 : 0 ≤ c1 := hv.2.1.1
  have v2 : c1 ≤ 16 := hv.2.1.2
  have x1 : (i : Int) < (V.length : Int) := by omega
  have x2 : (V.length : Int) ≤ 8 := by omega
  have hbk := rkBack_at (m := 8) hi hn.out
  have bl : b < w.heap.size := World.block_lt_of_cell? w _ q1
  have bl2 : ¬ b = w.heap.size := by omega
  rw [hbk]
  clear hbk hc hf hV hv hok hn q0 q2
  go_enter Try.func69, Try.ntmps69
  go_wp2
  go_ret
  exact ⟨rfl, (Below.refl _ _).alloc (Nat.le_refl _) _⟩
theorem rankAll (t k : Int) (V : Vws) (a : Option Addr) (cap B : Nat) : RankIs 70 (fun _ => 0) t k V a cap B := by
  intro i w hi hS
  clear hS
  go_enter Try.func70, Try.ntmps70
  go_wp2
  go_ret
  exact ⟨rfl, (Below.refl _ _).alloc (Nat.le_refl _) _⟩
theorem rankScript (t k : Int) (V : Vws) (a : Option Addr) (cap B : Nat) : RankIs 71 (rkPick k) t k V a cap B := by
  intro i w hi hS
  clear hS
  by_cases hk : (i : Int) = k
  · subst hk
    rw [show rkPick (i : Int) i = -1 by simp [rkPick]]
    go_enter Try.func71, Try.ntmps71
    go_wp2
    go_ret
    exact ⟨rfl, (Below.refl _ _).alloc (Nat.le_refl _) _⟩
  · have hk' : ((i : Int) == k) = false := by simpa using hk
    rw [show rkPick k i = i by simp [rkPick, hk]]
    go_enter Try.func71, Try.ntmps71
    go_wp2
    go_ret
    exact ⟨rfl, (Below.refl _ _).alloc (Nat.le_refl _) _⟩
end Go.Proofs.Ytlagaiekoahjnaa
