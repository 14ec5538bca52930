import Derived.Test.YtpeecjoadgefjaaRSpec0
namespace Go.Proofs.Ytpeecjoadgefjaa
open Go.ChangeShapes Go.WideShapes Go.ChangeAt Go.RowKit
set_option linter.unusedVariables false

set_option maxHeartbeats 400000 in
theorem l5At_any (w : World) (B base : Nat) (x : Int) (z : Nat) (s : RB) (v : Value) (got : List Int) (h : SpB w B base x z s v got) (i : Nat) (hi : i ≤ 100000000) :
    Calls Try.prog 84 #[.pointer (some ⟨B, 0, none⟩), .int .i64 (i : Int)] w fun e w' => e = .returned (.int .i64 (got.getD i (-1))) ∧ w' = w := by
  obtain ⟨⟨c0, c1, c2, c3, c4, c5⟩, cf⟩ := h.cells
  obtain ⟨a, cap, rfl, hin⟩ := h.shape
  have hl := h.got.len
  have h1 := h.got.hi
  have h2 := h.got.z2
  have hL : (got.length : Int) ≤ 30000000 := by omega
  obtain ⟨L, hLe⟩ : ∃ L, Hid (L = got.length) := ⟨_, rfl⟩
  rw [← hLe.out] at c2 hL
  clear hl h1 h2 c0 c1 c3 c4 c5 cf h
  by_cases hlt : (L : Int) ≤ (i : Int)
  · have e : Hid (got.getD i (-1) = -1) := by unfold Hid; rw [List.getD_eq_getElem?_getD, List.getElem?_eq_none (by have := hLe.out; omega)]; rfl
    have d : decide ((L : Int) ≤ (i : Int)) = true := by rw [decide_eq_true_iff]; exact hlt
    go_enter Try.func84, Try.ntmps84
    go_wp2_with fail
    go_ret
    rw [e.out]
    exact ⟨rfl, rfl⟩
  · have hil : i < got.length := by have := hLe.out; omega
    have d : decide ((L : Int) ≤ (i : Int)) = false := by rw [decide_eq_false_iff_not]; exact hlt
    rcases hin with h0 | ⟨b, off, rfl, hc⟩
    · rw [h0] at hil; simp at hil
    have hci := hc i hil
    obtain ⟨y, hy⟩ : ∃ y, Hid (got.getD i (-1) = y) := ⟨_, rfl⟩
    have hy2 : got.getD i 0 = y := by rw [← hy.out, List.getD_eq_getElem?_getD, List.getD_eq_getElem?_getD, List.getElem?_eq_getElem hil]; rfl
    rw [hy2] at hci
    have hiL : (i : Int) < (L : Int) := by omega
    clear hc hy2
    rw [hy.out]
    go_enter Try.func84, Try.ntmps84
    go_wp2_with fail
    go_ret
    exact ⟨rfl, rfl⟩

set_option maxHeartbeats 400000 in
theorem l5Read_any (w : World) (B base : Nat) (x : Int) (z : Nat) (s : RB) (v : Value) (got : List Int) (h : SpB w B base x z s v got) :
    Calls Try.prog 71 #[.pointer (some ⟨B, 0, none⟩)] w fun e w' => e = .returned (.int .u64 s.read) ∧ ∃ m, w' = w.drewN m := by
  obtain ⟨⟨c0, c1, c2, c3, c4, c5⟩, cf⟩ := h.cells
  have h1 := h.got.hi
  have h2 := h.got.lo
  have h3 := h.got.x0
  have h4 := h.got.x1
  have e1 : IntKind.u64.wrap (s.read - x) = s.read - x := by rw [IntKind.wrap_u64]; omega
  have e2 : IntKind.u64.wrap (x + (s.read - x)) = s.read := by rw [IntKind.wrap_u64]; omega
  clear c1 c2 c4 c5 cf h
  go_enter Try.func71, Try.ntmps71
  go_wp2_with fail
  go_quiet (fail)
  go_wp2_with fail
  go_ret
  exact ⟨rfl, _, rfl⟩

set_option maxHeartbeats 400000 in
theorem l5Next_any (w : World) (B base : Nat) (x : Int) (z : Nat) (s : RB) (v : Value) (got : List Int) (h : SpB w B base x z s v got) :
    Calls Try.prog 69 #[.pointer (some ⟨B, 0, none⟩)] w fun e w' => e = .returned (.int .i64 (s.read - x + (runLen s.f z s.read : Nat))) ∧ w' = w := by
  obtain ⟨⟨c0, c1, c2, c3, c4, c5⟩, cf⟩ := h.cells
  have h1 := h.got.hi
  have h2 := h.got.lo
  have h3 := h.got.x0
  have h4 := h.got.x1
  have h5 := h.got.z2
  have hrl := runLen_le s.f z s.read
  have HR : Hid (∀ k : Nat, k < runLen s.f z s.read → 0 ≤ got.getD (s.read + k - x).toNat (-1)) := h.got.runs
  have HS : Hid (got.getD (s.read + (runLen s.f z s.read : Nat) - x).toNat (-1) < 0) := h.got.stops
  obtain ⟨ℓ, hℓ⟩ : ∃ ℓ, Hid (ℓ = runLen s.f z s.read) := ⟨_, rfl⟩
  rw [← hℓ.out] at hrl HR HS ⊢
  obtain ⟨r, hr⟩ : ∃ r : Nat, Hid ((r : Int) = s.read - x) := ⟨(s.read - x).toNat, by unfold Hid; omega⟩
  rw [← hr.out] at c3 ⊢
  have hr7 : r ≤ 20000000 := by have := hr.out; omega
  have HB : Hid (SpB w B base x z s v got) := h
  clear c0 c1 c2 c4 c5 cf h h1 h2 h3 h4
  go_enter Try.func69, Try.ntmps69
  go_wp2_with fail
  go_loopw [3] (fun iv wr => ∃ (k : Nat), iv = .int .i64 ((r + k : Nat) : Int) ∧ k ≤ ℓ ∧ w = wr) (fun iv _ => r + ℓ - (intOf iv).toNat)
  case atStart => exact ⟨0, rfl, Nat.zero_le _, rfl⟩
  case round =>
  obtain ⟨k, rfl, hk, hwe⟩ := hrel
  subst hwe
  have hat := l5At_any w B base x z s v got HB.out (r + k) (by omega)
  have e1 : (s.read + k - x).toNat = r + k := by have := hr.out; omega
  by_cases hlt : k < ℓ
  · have hp := HR.out k hlt
    rw [e1] at hp
    obtain ⟨y, hy⟩ : ∃ y, Hid (y = got.getD (r + k) (-1)) := ⟨_, rfl⟩
    rw [← hy.out] at hp hat
    have d : decide (0 ≤ y) = true := by rw [decide_eq_true_iff]; exact hp
    go_wp2_with fail
    refine hat.mono ?_
    rintro e w1 ⟨rfl, hw⟩
    subst hw
    go_wp2_with fail
    go_roundw
    case rel => exact ⟨k + 1, by go_num, by omega, trivial⟩
    case measure => simp [intOf]; omega
  · obtain rfl : k = ℓ := by omega
    have hp := HS.out
    rw [e1] at hp
    obtain ⟨y, hy⟩ : ∃ y, Hid (y = got.getD (r + k) (-1)) := ⟨_, rfl⟩
    rw [← hy.out] at hp hat
    have d : decide (0 ≤ y) = false := by rw [decide_eq_false_iff_not]; omega
    go_wp2_with fail
    refine hat.mono ?_
    rintro e w1 ⟨rfl, hw⟩
    subst hw
    go_wp2_with fail
    go_ret
    exact ⟨by push_cast; rfl, rfl⟩
end Go.Proofs.Ytpeecjoadgefjaa
