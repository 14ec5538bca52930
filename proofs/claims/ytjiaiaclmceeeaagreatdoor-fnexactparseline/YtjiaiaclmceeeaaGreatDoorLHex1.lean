import Derived.Test.YtjiaiaclmceeeaaGreatDoorStrOf
import Derived.Test.YtjiaiaclmceeeaaGreatDoorStrMath
import Derived.Laws.StandIn
namespace Go.Proofs.YtjiaiaclmceeeaaGreatDoor
open Go.ChangeShapes Go.WideShapes Go.ChangeAt Go.RowKit
set_option linter.unusedVariables false

/-! ### Digits of sixteen -/
def hexD : ByteArray := ⟨#[48, 49, 50, 51, 52, 53, 54, 55, 56, 57, 97, 98, 99, 100, 101, 102]⟩
def hexI (c : Nat) : Int := if 48 ≤ c ∧ c ≤ 57 then (c : Int) - 48 else if 97 ≤ c ∧ c ≤ 102 then (c : Int) - 87 else -1
theorem hexI_le (c : Nat) : -1 ≤ hexI c ∧ hexI c ≤ 15 := by unfold hexI; split <;> (try split) <;> omega
theorem firstIdx_hex : ∀ c : Fin 256, firstIdx hexD (UInt8.ofNat c.val) = hexI c.val := by decide +kernel
theorem firstIdx_hexI (c : Nat) (h : c < 256) : firstIdx hexD ((c : Int).toNat.toUInt8) = hexI c := firstIdx_hex ⟨c, h⟩
set_option maxRecDepth 100000 in
theorem bytealgIndex_run (s : ByteArray) (c : Int) (w : World) : (callFunc 100 #[.string s, .int .u8 c]).run Tryz.prog w = .ok (.value (.int .i64 (firstIdx s c.toNat.toUInt8))) w := by
  have h := run_callFunc_indexByte (P := Tryz.prog) Tryz.func100 (by kernel_rfl) (by kernel_rfl) (by kernel_rfl) (by kernel_rfl) #[.string s, .int .u8 c] w
  rw [run_indexByte_string] at h
  exact h
theorem slIndex_any (s : ByteArray) (c : Int) (w : World) : Calls Tryz.prog 75 #[.string s, .int .u8 c] w fun e w' => e = .returned (.int .i64 (firstIdx s c.toNat.toUInt8)) ∧ w' = w := by
  have h := fun w => bytealgIndex_run s c w
  obtain ⟨r, hr⟩ : ∃ r, r = firstIdx s c.toNat.toUInt8 := ⟨_, rfl⟩
  rw [← hr] at h ⊢
  clear hr
  go_enter Tryz.func75, Tryz.ntmps75
  go_wp2
  go_ret
  exact ⟨rfl, rfl⟩
theorem index_any (s : ByteArray) (c : Int) (w : World) : Calls Tryz.prog 52 #[.string s, .int .u8 c] w fun e w' => e = .returned (.int .i64 (firstIdx s c.toNat.toUInt8)) ∧ w' = w := by
  have h := slIndex_any s c w
  obtain ⟨r, hr⟩ : ∃ r, r = firstIdx s c.toNat.toUInt8 := ⟨_, rfl⟩
  rw [← hr] at h ⊢
  clear hr
  go_enter Tryz.func52, Tryz.ntmps52
  go_wp2_with fail
  refine h.mono ?_
  rintro e w' ⟨rfl, rfl⟩
  go_wp2_with fail
  go_ret
  exact ⟨rfl, rfl⟩
/-- A digit of sixteen, as the specification reads it. -/
theorem digit_any (c : Nat) (hc : c < 256) (w : World) : Calls Tryz.prog 14 #[.int .u8 (c : Int)] w fun e w' => e = .returned (.tuple #[.int .u8 (if 0 ≤ hexI c then hexI c else 0), .bool (decide (0 ≤ hexI c))]) ∧ w' = w := by
  by_cases h1 : 48 ≤ c ∧ c ≤ 57
  · have a1 : decide ((48 : Int) ≤ (c : Int)) = true := decide_eq_true (by omega)
    have a2 : decide ((c : Int) ≤ 57) = true := decide_eq_true (by omega)
    have hv : hexI c = (c : Int) - 48 := by unfold hexI; rw [if_pos h1]
    have hw : IntKind.u8.wrap ((c : Int) - 48) = (c : Int) - 48 := by rw [IntKind.wrap_u8]; omega
    rw [hv, if_pos (by omega), decide_eq_true (by omega)]
    have H1 : Hid _ := h1
    clear h1 hv
    go_enter Tryz.func14, Tryz.ntmps14
    go_wp2_with fail
    go_ret2
    exact ⟨rfl, rfl⟩
  by_cases h2 : 97 ≤ c ∧ c ≤ 102
  · have a1 : decide ((c : Int) ≤ 57) = false := decide_eq_false (by omega)
    have a0 : decide ((48 : Int) ≤ (c : Int)) = true := decide_eq_true (by omega)
    have a2 : decide ((97 : Int) ≤ (c : Int)) = true := decide_eq_true (by omega)
    have a3 : decide ((c : Int) ≤ 102) = true := decide_eq_true (by omega)
    have hv : hexI c = (c : Int) - 87 := by unfold hexI; rw [if_neg h1, if_pos h2]
    have hw : IntKind.u8.wrap ((c : Int) - 97) = (c : Int) - 97 := by rw [IntKind.wrap_u8]; omega
    have hw2 : IntKind.u8.wrap ((c : Int) - 97 + 10) = (c : Int) - 87 := by rw [IntKind.wrap_u8]; omega
    rw [hv, if_pos (by omega), decide_eq_true (by omega)]
    have H1 : Hid _ := h1
    have H2 : Hid _ := h2
    clear h1 h2 hv
    go_enter Tryz.func14, Tryz.ntmps14
    go_wp2_with fail
    go_ret2
    exact ⟨rfl, rfl⟩
  have hv : hexI c = -1 := by unfold hexI; rw [if_neg h1, if_neg h2]
  rw [hv, if_neg (by omega), decide_eq_false (by omega)]
  by_cases b1 : 48 ≤ c
  all_goals by_cases b2 : 97 ≤ c
  all_goals
    have a1 : decide ((48 : Int) ≤ (c : Int)) = decide (48 ≤ c) := by simp; omega
    have a2 : decide ((97 : Int) ≤ (c : Int)) = decide (97 ≤ c) := by simp; omega
    first | (rw [decide_eq_true b1] at a1) | (rw [decide_eq_false b1] at a1)
    first | (rw [decide_eq_true b2] at a2) | (rw [decide_eq_false b2] at a2)
    have a3 : 48 ≤ c → decide ((c : Int) ≤ 57) = false := fun h => decide_eq_false (by omega)
    have a4 : 97 ≤ c → decide ((c : Int) ≤ 102) = false := fun h => decide_eq_false (by omega)
    first | replace a3 := a3 b1 | clear a3
    first | replace a4 := a4 b2 | clear a4
    clear h1 h2 hv b1 b2
    go_enter Tryz.func14, Tryz.ntmps14
    go_wp2_with fail
    go_ret2
    exact ⟨rfl, rfl⟩
end Go.Proofs.YtjiaiaclmceeeaaGreatDoor
