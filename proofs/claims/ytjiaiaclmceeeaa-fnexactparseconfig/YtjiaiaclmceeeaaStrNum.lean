import Derived.Test.YtjiaiaclmceeeaaStrBase
namespace Go.Proofs.Ytjiaiaclmceeeaa
open Go.ChangeShapes Go.WideShapes Go.ChangeAt Go.RowKit
set_option linter.unusedVariables false

/-- The number of the first k digits. -/
def dig (u : ByteArray) : Nat → Nat
  | 0 => 0
  | k + 1 => dig u k * 10 + (bt u k - 48)
def Digits (u : ByteArray) (k : Nat) : Prop := ∀ i, i < k → 48 ≤ bt u i ∧ bt u i ≤ 57
theorem Digits.next {u : ByteArray} {k : Nat} (h : Digits u k) (h1 : 48 ≤ bt u k) (h2 : bt u k ≤ 57) : Digits u (k + 1) := by
  intro i hi
  by_cases e : i = k
  · subst e; exact ⟨h1, h2⟩
  · exact h i (by omega)
theorem dig_lt {u : ByteArray} : ∀ k, Digits u k → dig u k < 10 ^ k := by
  intro k
  induction k with
  | zero => intro _; simp [dig]
  | succ k ih =>
    intro h
    have h1 := ih fun i hi => h i (by omega)
    have h2 := h k (by omega)
    rw [dig, Nat.pow_succ]
    omega
theorem dig_le {u : ByteArray} {k : Nat} (h : Digits u k) (hk : k ≤ 9) : dig u k < 1000000000 := by
  have h1 := dig_lt k h
  have h2 : 10 ^ k ≤ 10 ^ 9 := Nat.pow_le_pow_right (by omega) hk
  omega
theorem dig_top {u : ByteArray} {k : Nat} (h : Digits u k) (hk : k ≤ 10) : dig u k < 10000000000 := by
  have h1 := dig_lt k h
  have h2 : 10 ^ k ≤ 10 ^ 10 := Nat.pow_le_pow_right (by omega) hk
  omega
/-- A word that is a number of a config line. -/
def NumOK (u : ByteArray) : Prop := (1 ≤ u.size ∧ u.size ≤ 10) ∧ ¬ (bt u 0 = 48 ∧ 1 < u.size) ∧ Digits u u.size
def Num (fn : Nat) (u : ByteArray) (x : Int) (b : Bool) : Prop := ∀ w : World, Calls Try.prog fn #[.string u, .int .i64 10] w fun e w' => e = .returned (.tuple #[.int .i64 x, .bool b]) ∧ Below w.heap.size w w'

set_option maxRecDepth 100000 in
set_option maxHeartbeats 1000000 in
theorem num_s_walk (u : ByteArray) (h1 : 1 ≤ u.size) (h2 : u.size ≤ 10) (h0 : ¬ (bt u 0 = 48 ∧ 1 < u.size)) (x : Int) (b : Bool) (hx : (Digits u u.size ∧ x = (dig u u.size : Nat) ∧ b = true) ∨ (¬ Digits u u.size ∧ x = 0 ∧ b = false)) : Num 15 u x b := by
  intro w
  have HX : Hid _ := hx
  clear hx
  have hp : 0 < u.size := by omega
  have g0 : (0 : Int) < (u.size : Int) := by omega
  have g1 : ¬ (u.size : Int) < 1 := by omega
  have g2 : ¬ (10 : Int) < (u.size : Int) := by omega
  by_cases hz : bt u 0 = 48
  · have hz' : (u[0]'hp).toNat = 48 := (bt_at hp).trans hz
    have g3 : ¬ (1 : Int) < (u.size : Int) := by omega
    clear h0 hz
    go_enter Try.func15, Try.ntmps15
    go_wp2
    go_loop [6, 7] (fun v i => ∃ k : Nat, k ≤ u.size ∧ i = .int .i64 k ∧ v = .int .i64 (dig u k : Nat) ∧ Hid (Digits u k)) (fun _ i => u.size - (intOf i).toNat)
    case atStart => exact ⟨0, Nat.zero_le _, rfl, rfl, (fun i hi => by omega : Digits u 0)⟩
    case round =>
      obtain ⟨k, hk, rfl, rfl, HD⟩ := hrel
      by_cases hlt : k < u.size
      · have hki : (k : Int) < (u.size : Int) := by omega
        have hd := dig_le HD.out (by omega)
        obtain ⟨D, hD⟩ : ∃ D : Nat, D = dig u k := ⟨_, rfl⟩
        rw [← hD] at hd
        rw [← hD]
        have HDD : Hid _ := hD
        have hc := bt_at hlt
        have hcb := bt_lt u k
        by_cases q1 : bt u k < 48
        · have q1' : ((u[k]'hlt).toNat : Int) < 48 := by omega
          have HF : Hid (¬ Digits u u.size) := fun h => by have := h k hlt; omega
          clear hc hcb q1 HDD hD
          go_wp2
          go_ret2
          rcases HX.out with ⟨g, _⟩ | ⟨_, rfl, rfl⟩
          · exact absurd g HF.out
          · exact ⟨rfl, Below.refl _ _⟩
        · by_cases q2 : 57 < bt u k
          · have q1' : ¬ ((u[k]'hlt).toNat : Int) < 48 := by omega
            have q2' : (57 : Int) < ((u[k]'hlt).toNat : Int) := by omega
            have HF : Hid (¬ Digits u u.size) := fun h => by have := h k hlt; omega
            clear hc hcb q1 q2 HDD hD
            go_wp2
            go_ret2
            rcases HX.out with ⟨g, _⟩ | ⟨_, rfl, rfl⟩
            · exact absurd g HF.out
            · exact ⟨rfl, Below.refl _ _⟩
          · have q1' : ¬ ((u[k]'hlt).toNat : Int) < 48 := by omega
            have q2' : ¬ (57 : Int) < ((u[k]'hlt).toNat : Int) := by omega
            have q3 : (48 : Int) ≤ ((u[k]'hlt).toNat : Int) := by omega
            have q4 : ((u[k]'hlt).toNat : Int) ≤ 57 := by omega
            have HN : Hid (Digits u (k + 1)) := HD.out.next (by omega) (by omega)
            have HE : Hid (((dig u (k + 1) : Nat) : Int) = (D : Int) * 10 + (((u[k]'hlt).toNat : Int) - 48)) := by unfold Hid; rw [dig, HDD.out]; omega
            clear hc hcb q1 q2 HDD hD
            go_wp2
            go_round
            case rel => exact ⟨k + 1, by omega, by go_num, by rw [HE.out], HN⟩
            case measure => simp [intOf]; omega
      · obtain rfl : k = u.size := by omega
        go_wp2
        go_ret2
        rcases HX.out with ⟨_, rfl, rfl⟩ | ⟨g, _⟩
        · exact ⟨rfl, Below.refl _ _⟩
        · exact absurd HD.out g
  · have hz' : ¬ (u[0]'hp).toNat = 48 := fun e => hz ((bt_at hp).symm.trans e)
    clear h0 hz
    go_enter Try.func15, Try.ntmps15
    go_wp2
    go_loop [6, 7] (fun v i => ∃ k : Nat, k ≤ u.size ∧ i = .int .i64 k ∧ v = .int .i64 (dig u k : Nat) ∧ Hid (Digits u k)) (fun _ i => u.size - (intOf i).toNat)
    case atStart => exact ⟨0, Nat.zero_le _, rfl, rfl, (fun i hi => by omega : Digits u 0)⟩
    case round =>
      obtain ⟨k, hk, rfl, rfl, HD⟩ := hrel
      by_cases hlt : k < u.size
      · have hki : (k : Int) < (u.size : Int) := by omega
        have hd := dig_le HD.out (by omega)
        obtain ⟨D, hD⟩ : ∃ D : Nat, D = dig u k := ⟨_, rfl⟩
        rw [← hD] at hd
        rw [← hD]
        have HDD : Hid _ := hD
        have hc := bt_at hlt
        have hcb := bt_lt u k
        by_cases q1 : bt u k < 48
        · have q1' : ((u[k]'hlt).toNat : Int) < 48 := by omega
          have HF : Hid (¬ Digits u u.size) := fun h => by have := h k hlt; omega
          clear hc hcb q1 HDD hD
          go_wp2
          go_ret2
          rcases HX.out with ⟨g, _⟩ | ⟨_, rfl, rfl⟩
          · exact absurd g HF.out
          · exact ⟨rfl, Below.refl _ _⟩
        · by_cases q2 : 57 < bt u k
          · have q1' : ¬ ((u[k]'hlt).toNat : Int) < 48 := by omega
            have q2' : (57 : Int) < ((u[k]'hlt).toNat : Int) := by omega
            have HF : Hid (¬ Digits u u.size) := fun h => by have := h k hlt; omega
            clear hc hcb q1 q2 HDD hD
            go_wp2
            go_ret2
            rcases HX.out with ⟨g, _⟩ | ⟨_, rfl, rfl⟩
            · exact absurd g HF.out
            · exact ⟨rfl, Below.refl _ _⟩
          · have q1' : ¬ ((u[k]'hlt).toNat : Int) < 48 := by omega
            have q2' : ¬ (57 : Int) < ((u[k]'hlt).toNat : Int) := by omega
            have q3 : (48 : Int) ≤ ((u[k]'hlt).toNat : Int) := by omega
            have q4 : ((u[k]'hlt).toNat : Int) ≤ 57 := by omega
            have HN : Hid (Digits u (k + 1)) := HD.out.next (by omega) (by omega)
            have HE : Hid (((dig u (k + 1) : Nat) : Int) = (D : Int) * 10 + (((u[k]'hlt).toNat : Int) - 48)) := by unfold Hid; rw [dig, HDD.out]; omega
            clear hc hcb q1 q2 HDD hD
            go_wp2
            go_round
            case rel => exact ⟨k + 1, by omega, by go_num, by rw [HE.out], HN⟩
            case measure => simp [intOf]; omega
      · obtain rfl : k = u.size := by omega
        go_wp2
        go_ret2
        rcases HX.out with ⟨_, rfl, rfl⟩ | ⟨g, _⟩
        · exact ⟨rfl, Below.refl _ _⟩
        · exact absurd HD.out g

set_option maxRecDepth 100000 in
set_option maxHeartbeats 1000000 in
theorem num_s_long (u : ByteArray) (hb : u.size ≤ 9223372036854775807) (h : 10 < u.size) : Num 15 u 0 false := by
  intro w
  have g1 : ¬ (u.size : Int) < 1 := by omega
  have g2 : (10 : Int) < (u.size : Int) := by omega
  go_enter Try.func15, Try.ntmps15
  go_wp2
  go_ret2
  exact ⟨rfl, Below.refl _ _⟩

set_option maxRecDepth 100000 in
set_option maxHeartbeats 1000000 in
theorem num_s_zero (u : ByteArray) (h1 : 1 < u.size) (h2 : u.size ≤ 10) (h : bt u 0 = 48) : Num 15 u 0 false := by
  intro w
  have hp : 0 < u.size := by omega
  have g0 : (0 : Int) < (u.size : Int) := by omega
  have g1 : ¬ (u.size : Int) < 1 := by omega
  have g2 : ¬ (10 : Int) < (u.size : Int) := by omega
  have g3 : (1 : Int) < (u.size : Int) := by omega
  have hz' : (u[0]'hp).toNat = 48 := (bt_at hp).trans h
  go_enter Try.func15, Try.ntmps15
  go_wp2
  go_ret2
  exact ⟨rfl, Below.refl _ _⟩

set_option maxRecDepth 100000 in
set_option maxHeartbeats 1000000 in
theorem num_i_long (u : ByteArray) (hb : u.size ≤ 9223372036854775807) (h : 10 < u.size) : Num 17 u 0 false := by
  intro w
  have g1 : ¬ (u.size : Int) < 1 := by omega
  have g2 : (10 : Int) < (u.size : Int) := by omega
  go_enter Try.func17, Try.ntmps17
  go_wp2
  go_ret2
  exact ⟨rfl, Below.refl _ _⟩

set_option maxRecDepth 100000 in
set_option maxHeartbeats 1000000 in
theorem num_i_zero (u : ByteArray) (h1 : 1 < u.size) (h2 : u.size ≤ 10) (h : bt u 0 = 48) : Num 17 u 0 false := by
  intro w
  have hp : 0 < u.size := by omega
  have g0 : (0 : Int) < (u.size : Int) := by omega
  have g1 : ¬ (u.size : Int) < 1 := by omega
  have g2 : ¬ (10 : Int) < (u.size : Int) := by omega
  have g3 : (1 : Int) < (u.size : Int) := by omega
  have hz' : (u[0]'hp).toNat = 48 := (bt_at hp).trans h
  go_enter Try.func17, Try.ntmps17
  go_wp2
  go_ret2
  exact ⟨rfl, Below.refl _ _⟩

set_option maxRecDepth 100000 in
set_option maxHeartbeats 1000000 in
theorem num_s_none (u : ByteArray) (h : u.size = 0) : Num 15 u 0 false := by
  intro w
  have g1 : (u.size : Int) < 1 := by omega
  go_enter Try.func15, Try.ntmps15
  go_wp2
  go_ret2
  exact ⟨rfl, Below.refl _ _⟩

theorem iter_below (w : World) (u : ByteArray) (k : Nat) : Below w.heap.size w (w.iter u k) := (Below.refl _ _).alloc (Nat.le_refl _) _

set_option maxRecDepth 100000 in
set_option maxHeartbeats 1000000 in
theorem num_i_walk (u : ByteArray) (h1 : 1 ≤ u.size) (h2 : u.size ≤ 10) (h0 : ¬ (bt u 0 = 48 ∧ 1 < u.size)) (x : Int) (b : Bool) (hx : (Digits u u.size ∧ x = (dig u u.size : Nat) ∧ b = true) ∨ (¬ Digits u u.size ∧ x = 0 ∧ b = false)) : Num 17 u x b := by
  intro w
  have HX : Hid _ := hx
  clear hx
  have hp : 0 < u.size := by omega
  have g0 : (0 : Int) < (u.size : Int) := by omega
  have g1 : ¬ (u.size : Int) < 1 := by omega
  have g2 : ¬ (10 : Int) < (u.size : Int) := by omega
  by_cases hz : bt u 0 = 48
  · have hz' : (u[0]'hp).toNat = 48 := (bt_at hp).trans hz
    have g3 : ¬ (1 : Int) < (u.size : Int) := by omega
    clear h0 hz
    go_enter Try.func17, Try.ntmps17
    go_wp2
    go_loopw [6] (fun v wr => ∃ k : Nat, k ≤ u.size ∧ wr = w.iter u k ∧ v = .int .i64 (dig u k : Nat) ∧ Hid (Digits u k)) (fun _ wr => u.size - wr.iterPos w.heap.size)
    case atStart => exact ⟨0, Nat.zero_le _, rfl, rfl, (fun i hi => by omega : Digits u 0)⟩
    case round =>
      obtain ⟨k, hk, rfl, rfl, HD⟩ := hrel
      by_cases hlt : k < u.size
      · have hc := bt_at hlt
        have hcb := bt_lt u k
        have hd := dig_le HD.out (by omega)
        obtain ⟨D, hD⟩ : ∃ D : Nat, D = dig u k := ⟨_, rfl⟩
        rw [← hD] at hd
        rw [← hD]
        have HDD : Hid _ := hD
        by_cases ha : bt u k < 128
        · have hnx : ∀ ty, (Instr.next (.pointer (some ⟨w.heap.size, 0, none⟩)) true ty).run Try.prog (w.iter u k) = _ := fun ty => run_next_ascii w u k ty hlt (by omega)
          by_cases q1 : bt u k < 48
          · have q1' : ((u[k]'hlt).toNat : Int) < 48 := by omega
            have HF : Hid (¬ Digits u u.size) := fun h => by have := h k hlt; omega
            clear hc hcb q1 HDD hD ha
            go_wp2
            go_ret2
            rcases HX.out with ⟨g, _⟩ | ⟨_, rfl, rfl⟩
            · exact absurd g HF.out
            · exact ⟨rfl, iter_below _ _ _⟩
          · by_cases q2 : 57 < bt u k
            · have q1' : ¬ ((u[k]'hlt).toNat : Int) < 48 := by omega
              have q2' : (57 : Int) < ((u[k]'hlt).toNat : Int) := by omega
              have HF : Hid (¬ Digits u u.size) := fun h => by have := h k hlt; omega
              clear hc hcb q1 q2 HDD hD ha
              go_wp2
              go_ret2
              rcases HX.out with ⟨g, _⟩ | ⟨_, rfl, rfl⟩
              · exact absurd g HF.out
              · exact ⟨rfl, iter_below _ _ _⟩
            · have q1' : ¬ ((u[k]'hlt).toNat : Int) < 48 := by omega
              have q2' : ¬ (57 : Int) < ((u[k]'hlt).toNat : Int) := by omega
              have q3 : (48 : Int) ≤ ((u[k]'hlt).toNat : Int) := by omega
              have q4 : ((u[k]'hlt).toNat : Int) ≤ 57 := by omega
              have HN : Hid (Digits u (k + 1)) := HD.out.next (by omega) (by omega)
              have HE : Hid (((dig u (k + 1) : Nat) : Int) = 10 * (D : Int) + (((u[k]'hlt).toNat : Int) - 48)) := by unfold Hid; rw [dig, HDD.out]; omega
              clear hc hcb q1 q2 HDD hD ha
              go_wp2
              go_roundw
              case rel => exact ⟨k + 1, by omega, rfl, by rw [HE.out], HN⟩
              case measure => simp; omega
        · have hh := decode_high u k hlt (by omega)
          have hl := decode_le u k
          have hnx : ∀ ty, (Instr.next (.pointer (some ⟨w.heap.size, 0, none⟩)) true ty).run Try.prog (w.iter u k) = _ := fun ty => run_next_any w u k ty hlt
          obtain ⟨R, hR⟩ : ∃ R, R = (Utf8.decode u k).1 := ⟨_, rfl⟩
          rw [← hR] at hh hl hnx
          have q1' : ¬ (R : Int) < 48 := by omega
          have q2' : (57 : Int) < (R : Int) := by omega
          have HF : Hid (¬ Digits u u.size) := fun h => by have := h k hlt; omega
          clear hc hcb HDD hD ha hR hh hl
          go_wp2
          go_ret2
          rcases HX.out with ⟨g, _⟩ | ⟨_, rfl, rfl⟩
          · exact absurd g HF.out
          · exact ⟨rfl, iter_below _ _ _⟩
      · obtain rfl : k = u.size := by omega
        have hnx : ∀ ty, (Instr.next (.pointer (some ⟨w.heap.size, 0, none⟩)) true ty).run Try.prog (w.iter u u.size) = _ := fun ty => run_next_end w u u.size ty hlt
        go_wp2
        go_ret2
        rcases HX.out with ⟨_, rfl, rfl⟩ | ⟨g, _⟩
        · exact ⟨rfl, iter_below _ _ _⟩
        · exact absurd HD.out g
  · have hz' : ¬ (u[0]'hp).toNat = 48 := fun e => hz ((bt_at hp).symm.trans e)
    clear h0 hz
    go_enter Try.func17, Try.ntmps17
    go_wp2
    go_loopw [6] (fun v wr => ∃ k : Nat, k ≤ u.size ∧ wr = w.iter u k ∧ v = .int .i64 (dig u k : Nat) ∧ Hid (Digits u k)) (fun _ wr => u.size - wr.iterPos w.heap.size)
    case atStart => exact ⟨0, Nat.zero_le _, rfl, rfl, (fun i hi => by omega : Digits u 0)⟩
    case round =>
      obtain ⟨k, hk, rfl, rfl, HD⟩ := hrel
      by_cases hlt : k < u.size
      · have hc := bt_at hlt
        have hcb := bt_lt u k
        have hd := dig_le HD.out (by omega)
        obtain ⟨D, hD⟩ : ∃ D : Nat, D = dig u k := ⟨_, rfl⟩
        rw [← hD] at hd
        rw [← hD]
        have HDD : Hid _ := hD
        by_cases ha : bt u k < 128
        · have hnx : ∀ ty, (Instr.next (.pointer (some ⟨w.heap.size, 0, none⟩)) true ty).run Try.prog (w.iter u k) = _ := fun ty => run_next_ascii w u k ty hlt (by omega)
          by_cases q1 : bt u k < 48
          · have q1' : ((u[k]'hlt).toNat : Int) < 48 := by omega
            have HF : Hid (¬ Digits u u.size) := fun h => by have := h k hlt; omega
            clear hc hcb q1 HDD hD ha
            go_wp2
            go_ret2
            rcases HX.out with ⟨g, _⟩ | ⟨_, rfl, rfl⟩
            · exact absurd g HF.out
            · exact ⟨rfl, iter_below _ _ _⟩
          · by_cases q2 : 57 < bt u k
            · have q1' : ¬ ((u[k]'hlt).toNat : Int) < 48 := by omega
              have q2' : (57 : Int) < ((u[k]'hlt).toNat : Int) := by omega
              have HF : Hid (¬ Digits u u.size) := fun h => by have := h k hlt; omega
              clear hc hcb q1 q2 HDD hD ha
              go_wp2
              go_ret2
              rcases HX.out with ⟨g, _⟩ | ⟨_, rfl, rfl⟩
              · exact absurd g HF.out
              · exact ⟨rfl, iter_below _ _ _⟩
            · have q1' : ¬ ((u[k]'hlt).toNat : Int) < 48 := by omega
              have q2' : ¬ (57 : Int) < ((u[k]'hlt).toNat : Int) := by omega
              have q3 : (48 : Int) ≤ ((u[k]'hlt).toNat : Int) := by omega
              have q4 : ((u[k]'hlt).toNat : Int) ≤ 57 := by omega
              have HN : Hid (Digits u (k + 1)) := HD.out.next (by omega) (by omega)
              have HE : Hid (((dig u (k + 1) : Nat) : Int) = 10 * (D : Int) + (((u[k]'hlt).toNat : Int) - 48)) := by unfold Hid; rw [dig, HDD.out]; omega
              clear hc hcb q1 q2 HDD hD ha
              go_wp2
              go_roundw
              case rel => exact ⟨k + 1, by omega, rfl, by rw [HE.out], HN⟩
              case measure => simp; omega
        · have hh := decode_high u k hlt (by omega)
          have hl := decode_le u k
          have hnx : ∀ ty, (Instr.next (.pointer (some ⟨w.heap.size, 0, none⟩)) true ty).run Try.prog (w.iter u k) = _ := fun ty => run_next_any w u k ty hlt
          obtain ⟨R, hR⟩ : ∃ R, R = (Utf8.decode u k).1 := ⟨_, rfl⟩
          rw [← hR] at hh hl hnx
          have q1' : ¬ (R : Int) < 48 := by omega
          have q2' : (57 : Int) < (R : Int) := by omega
          have HF : Hid (¬ Digits u u.size) := fun h => by have := h k hlt; omega
          clear hc hcb HDD hD ha hR hh hl
          go_wp2
          go_ret2
          rcases HX.out with ⟨g, _⟩ | ⟨_, rfl, rfl⟩
          · exact absurd g HF.out
          · exact ⟨rfl, iter_below _ _ _⟩
      · obtain rfl : k = u.size := by omega
        have hnx : ∀ ty, (Instr.next (.pointer (some ⟨w.heap.size, 0, none⟩)) true ty).run Try.prog (w.iter u u.size) = _ := fun ty => run_next_end w u u.size ty hlt
        go_wp2
        go_ret2
        rcases HX.out with ⟨_, rfl, rfl⟩ | ⟨g, _⟩
        · exact ⟨rfl, iter_below _ _ _⟩
        · exact absurd HD.out g
end Go.Proofs.Ytjiaiaclmceeeaa
