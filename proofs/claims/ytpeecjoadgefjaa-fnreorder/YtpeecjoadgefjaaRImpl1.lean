import Derived.Test.YtpeecjoadgefjaaRSlots
import Derived.LoopTactic
import Derived.BigQuiet
import Derived.Deep.Cut
import Derived.Deep.CutRange
namespace Go.Proofs.Ytpeecjoadgefjaa
open Go.ChangeShapes Go.WideShapes Go.ChangeAt Go.RowKit
set_option linter.unusedVariables false

theorem BufAt.drewN {w : World} {B base z g cap : Nat} {s : RB} {L : SlotL} (h : BufAt w B base z s g cap L) (m : Nat) : BufAt (w.drewN m) B base z s g cap L := ⟨h.blk, h.row, h.sl, h.z1, h.z2, h.r0, h.r1⟩

set_option maxHeartbeats 400000 in
theorem top_any (w : World) (B base z g cap : Nat) (s : RB) (L : SlotL) (h : BufAt w B base z s g cap L) :
    Calls Try.prog 91 #[.pointer (some ⟨B, 0, none⟩)] w fun e w' => e = .returned (.int .u64 (s.read + z)) ∧ ∃ m, w' = w.drewN m := by
  obtain ⟨⟨c0, c1, c2, c3⟩, cf⟩ := h.cells
  obtain ⟨r, hr⟩ : ∃ r, s.read = r := ⟨_, rfl⟩
  have h1 := h.r0
  have h2 := h.r1
  have h3 := h.z1
  have h4 := h.z2
  rw [hr] at c1 h1 h2 ⊢
  have e1 : IntKind.u64.wrap (z : Int) = (z : Int) := by rw [IntKind.wrap_u64]; omega
  have e2 : IntKind.u64.wrap (r + (z : Int)) = r + (z : Int) := by rw [IntKind.wrap_u64]; omega
  clear h hr cf
  go_enter Try.func91, Try.ntmps91
  go_wp2_with fail
  go_quiet (fail)
  go_wp2_with fail
  go_ret
  exact ⟨rfl, _, rfl⟩

set_option maxHeartbeats 400000 in
theorem slotOf_any (w : World) (B base z g cap : Nat) (s : RB) (L : SlotL) (h : BufAt w B base z s g cap L) (x : Int) (x0 : 0 ≤ x) (x1 : x ≤ 18446744073709551615) :
    Calls Try.prog 92 #[.pointer (some ⟨B, 0, none⟩), .int .u64 x] w fun e w' => e = .returned (.pointer (some ⟨g, (x % z).toNat * 2, none⟩)) ∧ ∃ m, w' = w.drewN m := by
  obtain ⟨⟨c0, c1, c2, c3⟩, cf⟩ := h.cells
  have h3 := h.z1
  have h4 := h.z2
  have e1 : IntKind.u64.wrap (z : Int) = (z : Int) := by rw [IntKind.wrap_u64]; omega
  have hmz := mod_lt (x := x) h3
  obtain ⟨J, hJ⟩ : ∃ J : Nat, x % (z : Int) = (J : Int) := ⟨(x % z).toNat, by have := Int.emod_nonneg x (show (z : Int) ≠ 0 by omega); omega⟩
  rw [hJ] at hmz ⊢
  simp only [Int.toNat_natCast] at hmz ⊢
  have hJi : (J : Int) < (z : Int) := by omega
  have hz0 : ¬ (z : Int) = 0 := by omega
  have hz0n : ¬ z = 0 := by omega
  clear h cf
  go_enter Try.func92, Try.ntmps92
  go_wp2_with fail
  go_quiet (fail)
  go_wp2_with fail
  go_ret
  exact ⟨rfl, _, rfl⟩

theorem slotV_held (o : Option Int) : (slotV o).1 = o.isSome := by cases o <;> rfl
set_option maxHeartbeats 1000000 in
theorem next_any (w : World) (B base z g cap : Nat) (s : RB) (L : SlotL) (h : BufAt w B base z s g cap L) :
    Calls Try.prog 77 #[.pointer (some ⟨B, 0, none⟩)] w fun e w' => e = .returned (.int .u64 (s.read + (runLen s.f z s.read : Nat))) ∧ ∃ m, w' = w.drewN m := by
  obtain ⟨⟨c0, c1, c2, c3⟩, cf⟩ := h.cells
  obtain ⟨r, hr⟩ : ∃ r, Hid (r = s.read) := ⟨_, rfl⟩
  have h1 := h.r0
  have h2 := h.r1
  have h3 := h.z1
  have h4 := h.z2
  rw [← hr.out] at c1 h1 h2 ⊢
  have HB : Hid (BufAt w B base z s g cap L) := h
  clear h
  go_enter Try.func77, Try.ntmps77
  go_wp2_with fail
  go_loopw [3] (fun v wr => ∃ (k m : Nat), v = .int .u64 (r + (k : Int)) ∧ k ≤ z ∧ wr = w.drewN m ∧ Hid (runLen s.f z r = k + runLen s.f (z - k) (r + k))) (fun v _ => z - ((intOf v) - r).toNat)
  case atStart => exact ⟨0, 0, by simp, Nat.zero_le _, rfl, by unfold Hid; simp⟩
  case round =>
  obtain ⟨k, m, rfl, hk, rfl, HR⟩ := hrel
  have ht := top_any (w.drewN m) B base z g cap s L (HB.out.drewN m)
  rw [← hr.out] at ht
  go_wp2_with fail
  refine ht.mono ?_
  rintro e w1 ⟨rfl, m1, rfl⟩
  by_cases hlt : k < z
  case pos =>
    have hd : decide (r + (k : Int) < r + (z : Int)) = true := by rw [decide_eq_true_iff]; omega
    have hs := slotOf_any (w.drewN (m + m1)) B base z g cap s L (HB.out.drewN (m + m1)) (r + k) (by omega) (by omega)
    obtain ⟨x0, x1⟩ := HB.out.slot (x := r + k) (by rw [hr.out]; omega) (by rw [hr.out]; omega)
    rw [slotV_held] at x0
    obtain ⟨J, hJ⟩ : ∃ J, J = ((r + (k : Int)) % (z : Int)).toNat * 2 := ⟨_, rfl⟩
    rw [← hJ] at hs x0
    obtain ⟨b, hb⟩ : ∃ b, (s.f (r + k)).isSome = b := ⟨_, rfl⟩
    rw [hb] at x0
    clear hJ x1
    go_wp2_with fail
    refine hs.mono ?_
    rintro e w2 ⟨rfl, m2, rfl⟩
    obtain ⟨R, hR⟩ : ∃ R, Hid (z - k = R + 1) := ⟨z - k - 1, by unfold Hid; omega⟩
    cases b
    case true =>
      have HE : Hid (runLen s.f z r = (k + 1) + runLen s.f (z - (k + 1)) (r + ((k + 1 : Nat) : Int))) := by
        unfold Hid
        rw [HR.out, hR.out, runLen, hb, if_pos rfl, show z - (k + 1) = R by have := hR.out; omega, show r + ((k + 1 : Nat) : Int) = r + k + 1 by omega]
        omega
      have hw1 : IntKind.u64.wrap (r + (k : Int) + 1) = r + (k : Int) + 1 := by rw [IntKind.wrap_u64]; omega
      go_wp2_with fail
      go_roundw
      case rel => exact ⟨k + 1, _, by congr 1; omega, by omega, rfl, HE⟩
      case measure => simp [intOf]; omega
    case false =>
      have HE : Hid (runLen s.f z r = k) := by unfold Hid; rw [HR.out, hR.out, runLen, hb]; simp
      go_wp2_with fail
      go_ret
      exact ⟨by rw [HE.out]; rfl, _, rfl⟩
  case neg =>
    obtain rfl : k = z := by omega
    have hd : decide (r + (k : Int) < r + (k : Int)) = false := by simp
    have HE : Hid (runLen s.f k r = k) := by unfold Hid; have := HR.out; rw [Nat.sub_self, runLen] at this; omega
    go_wp2_with fail
    go_ret
    exact ⟨by rw [HE.out]; rfl, _, rfl⟩

set_option maxHeartbeats 1000000 in
theorem holdsFrom_any (w : World) (B base z g cap : Nat) (s : RB) (L : SlotL) (h : BufAt w B base z s g cap L) (x : Int) (hx : s.read ≤ x) (x1 : x ≤ 18446744073709551615) :
    Calls Try.prog 93 #[.pointer (some ⟨B, 0, none⟩), .int .u64 x] w fun e w' => e = .returned (.bool (holdsB s.f (s.read + z - x).toNat x)) ∧ ∃ m, w' = w.drewN m := by
  obtain ⟨r, hr⟩ : ∃ r, Hid (r = s.read) := ⟨_, rfl⟩
  have h1 := h.r0
  have h2 := h.r1
  have h3 := h.z1
  have h4 := h.z2
  rw [← hr.out] at h1 h2 hx ⊢
  have HB : Hid (BufAt w B base z s g cap L) := h
  clear h
  obtain ⟨N, hN⟩ : ∃ N, Hid (N = (r + z - x).toNat) := ⟨_, rfl⟩
  rw [← hN.out]
  have hN1 : (N : Int) = r + z - x ∨ (N = 0 ∧ r + z < x) := by have := hN.out; omega
  go_enter Try.func93, Try.ntmps93
  go_wp2_with fail
  go_loopw [5] (fun v wr => ∃ (k m : Nat), v = .int .u64 (x + (k : Int)) ∧ k ≤ N ∧ wr = w.drewN m ∧ Hid (holdsB s.f N x = holdsB s.f (N - k) (x + k))) (fun v _ => N - ((intOf v) - x).toNat)
  case atStart => exact ⟨0, 0, by simp, Nat.zero_le _, rfl, by unfold Hid; simp⟩
  case round =>
  obtain ⟨k, m, rfl, hk, rfl, HR⟩ := hrel
  have ht := top_any (w.drewN m) B base z g cap s L (HB.out.drewN m)
  rw [← hr.out] at ht
  go_wp2_with fail
  refine ht.mono ?_
  rintro e w1 ⟨rfl, m1, rfl⟩
  by_cases hlt : k < N
  case pos =>
    have hd : decide (x + (k : Int) < r + (z : Int)) = true := by rw [decide_eq_true_iff]; omega
    have hs := slotOf_any (w.drewN (m + m1)) B base z g cap s L (HB.out.drewN (m + m1)) (x + k) (by omega) (by omega)
    obtain ⟨x0, x1'⟩ := HB.out.slot (x := x + k) (by rw [← hr.out]; omega) (by rw [← hr.out]; omega)
    rw [slotV_held] at x0
    obtain ⟨J, hJ⟩ : ∃ J, J = ((x + (k : Int)) % (z : Int)).toNat * 2 := ⟨_, rfl⟩
    rw [← hJ] at hs x0
    obtain ⟨b, hb⟩ : ∃ b, (s.f (x + k)).isSome = b := ⟨_, rfl⟩
    rw [hb] at x0
    clear hJ x1'
    go_wp2_with fail
    refine hs.mono ?_
    rintro e w2 ⟨rfl, m2, rfl⟩
    obtain ⟨R, hR⟩ : ∃ R, Hid (N - k = R + 1) := ⟨N - k - 1, by unfold Hid; omega⟩
    cases b
    case true =>
      have HE : Hid (holdsB s.f N x = true) := by unfold Hid; rw [HR.out, hR.out, holdsB, hb]; rfl
      go_wp2_with fail
      go_ret
      exact ⟨by rw [HE.out]; rfl, _, rfl⟩
    case false =>
      have HE : Hid (holdsB s.f N x = holdsB s.f (N - (k + 1)) (x + ((k + 1 : Nat) : Int))) := by
        unfold Hid
        rw [HR.out, hR.out, holdsB, hb, Bool.false_or, show N - (k + 1) = R by have := hR.out; omega, show x + ((k + 1 : Nat) : Int) = x + k + 1 by omega]
      have hw1 : IntKind.u64.wrap (x + (k : Int) + 1) = x + (k : Int) + 1 := by rw [IntKind.wrap_u64]; omega
      go_wp2_with fail
      go_roundw
      case rel => exact ⟨k + 1, _, by congr 1; omega, by omega, rfl, HE⟩
      case measure => simp [intOf]; omega
  case neg =>
    obtain rfl : k = N := by omega
    have hd : decide (x + (k : Int) < r + (z : Int)) = false := by rw [decide_eq_false_iff_not]; omega
    have HE : Hid (holdsB s.f k x = false) := by unfold Hid; rw [HR.out, Nat.sub_self, holdsB]
    go_wp2_with fail
    go_ret
    exact ⟨by rw [HE.out]; rfl, _, rfl⟩

/-! ### Slots that are filled and freed -/
theorem mod_inj {x y : Int} {z : Nat} (hz : 1 ≤ z) (h1 : x - y < z) (h2 : y - x < z) (h : (x % z).toNat = (y % z).toNat) : x = y := by
  have hz0 : (z : Int) ≠ 0 := by omega
  have a1 := Int.emod_nonneg x hz0
  have a2 := Int.emod_nonneg y hz0
  have e : x % z = y % z := by omega
  have d := Int.emod_emod_of_dvd
  have q1 := Int.emod_add_mul_ediv x z
  have q2 := Int.emod_add_mul_ediv y z
  have e3 : x - y = z * (x / z - y / z) := by rw [Int.mul_sub]; omega
  rcases (show x / z - y / z = 0 ∨ 1 ≤ x / z - y / z ∨ x / z - y / z ≤ -1 by omega) with h0 | h0 | h0
  · rw [h0] at e3; omega
  · have := Int.mul_le_mul_of_nonneg_left h0 (show (0 : Int) ≤ z by omega); omega
  · have := Int.mul_le_mul_of_nonneg_left h0 (show (0 : Int) ≤ z by omega); omega
theorem SlotsAt.put {z : Nat} {s : RB} {L : SlotL} (h : SlotsAt z s L) (hz : 1 ≤ z) {x : Int} (h1 : s.read ≤ x) (h2 : x < s.read + z) (v : Int) : SlotsAt z { s with f := upd s.f x v } (L.set (x % z).toNat (true, v)) := by
  refine ⟨by rw [List.length_set]; exact h.len, fun y y1 y2 => ?_⟩
  simp only at y1 y2 ⊢
  by_cases e : y = x
  · subst e
    rw [List.getElem?_set_self (by rw [h.len]; exact mod_lt hz)]
    simp [upd, slotV]
  · rw [List.getElem?_set_ne (fun e' => e (mod_inj hz (by omega) (by omega) e'.symm)), h.at_ y y1 y2]
    simp [upd, e]
end Go.Proofs.Ytpeecjoadgefjaa
