import Derived.Test.YtpeecjoadgefjaaDrawsGr
import Derived.Test.YtpeecjoadgefjaaRMath1
namespace Go.Proofs.Ytpeecjoadgefjaa
open Go.ChangeShapes Go.WideShapes Go.ChangeAt Go.RowKit
set_option linter.unusedVariables false

theorem byteF_fits (i : Int) : 0 ≤ byteF i ∧ byteF i ≤ 255 := by unfold byteF; omega
theorem l5Byte_any (i : Int) (w : World) (i0 : 0 ≤ i) (i1 : i ≤ 1000000000) :
    Calls Try.prog 55 #[.int .i64 i] w fun e w' => e = .returned (.int .u8 (byteF i)) ∧ w' = w := by
  have e1 : i.tdiv 11 = i / 11 := Int.tdiv_eq_ediv_of_nonneg i0
  have hw1 : IntKind.i64.wrap (i * 7) = i * 7 := by rw [IntKind.wrap_i64]; omega
  have hw2 : IntKind.i64.wrap (i / 11) = i / 11 := by rw [IntKind.wrap_i64]; omega
  have hw3 : IntKind.i64.wrap (i * 7 + i / 11) = i * 7 + i / 11 := by rw [IntKind.wrap_i64]; omega
  have hw4 : IntKind.u8.wrap (i * 7 + i / 11) = byteF i := by rw [IntKind.wrap_u8]; rfl
  go_enter Try.func55, Try.ntmps55
  go_wp2_with fail
  go_ret
  exact ⟨rfl, rfl⟩
theorem streamByte_any (i : Int) (w : World) (i0 : 0 ≤ i) (i1 : i ≤ 1000000000) :
    Calls Try.prog 25 #[.int .i64 i] w fun e w' => e = .returned (.int .u8 (byteF i)) ∧ w' = w := by
  have hc := l5Byte_any i w i0 i1
  obtain ⟨y, hy⟩ : ∃ y, Hid (y = byteF i) := ⟨_, rfl⟩
  rw [← hy.out] at hc ⊢
  go_enter Try.func25, Try.ntmps25
  go_wp2_with fail
  refine hc.mono ?_
  rintro e w1 ⟨rfl, hw⟩
  subst hw
  go_wp2_with fail
  go_ret
  exact ⟨rfl, rfl⟩
/-- Where the stream begins. -/
def startFn (zs : List Int) (σ : Src) : Int × Src :=
  if (nextF zs σ 5).1 = 0 then (4611686018427387904 - (nextF zs (nextF zs σ 5).2 3).1, (nextF zs (nextF zs σ 5).2 3).2)
  else if (nextF zs σ 5).1 = 1 then (4294967296 - (nextF zs (nextF zs σ 5).2 60).1, (nextF zs (nextF zs σ 5).2 60).2)
  else if (nextF zs σ 5).1 = 2 then ((nextF zs (nextF zs σ 5).2 1000).1, (nextF zs (nextF zs σ 5).2 1000).2)
  else (0, (nextF zs σ 5).2)
set_option maxHeartbeats 1000000 in
theorem drawStart_at (w0 w : World) (b : Nat) (a : Option Addr) (zs : List Int) (cap : Nat) (σ : Src) (hd : DrawAt w0 w b a zs.length cap σ) (hz : Ints .u8 w0 a zs) (hv : ∀ x ∈ zs, 0 ≤ x ∧ x ≤ 255) (hl : zs.length ≤ 2000000) :
    Calls Try.prog 49 #[.pointer (some ⟨b, 0, none⟩)] w fun e w' => ∃ (r : Int) (σ' : Src), e = .returned (.int .u64 r) ∧ Hid (startFn zs σ = (r, σ')) ∧ 0 ≤ r ∧ r ≤ 4611686018427387904 ∧ DrawAt w0 w' b a zs.length cap σ' ∧ w.grownBy w' (some b) := by
  have h5 := next_at w0 w b a zs cap σ 5 hd hz hv hl (by omega) (by omega)
  have HNX : Hid (∀ (w1 : World) (σ1 : Src) (n : Int), DrawAt w0 w1 b a zs.length cap σ1 → 0 < n → n ≤ 1000 → Calls Try.prog 50 #[.pointer (some ⟨b, 0, none⟩), .int .i64 n] w1 fun e w' => ∃ (r : Int) (σ' : Src), e = .returned (.int .i64 r) ∧ Hid (nextF zs σ1 n = (r, σ')) ∧ 0 ≤ r ∧ r < n ∧ DrawAt w0 w' b a zs.length cap σ' ∧ w1.grownBy w' (some b)) := fun w1 σ1 n h1 h2 h3 => next_at w0 w1 b a zs cap σ1 n h1 hz hv hl h2 (by omega)
  clear hd hz hv
  go_enter Try.func49, Try.ntmps49
  go_wp2_with fail
  refine h5.mono ?_
  rintro e w1 ⟨k, σ1, rfl, H1, k0, k1, hd1, hg1⟩
  clear h5
  by_cases e0 : k = 0
  · subst e0
    have h3 := HNX.out w1 σ1 3 hd1 (by omega) (by omega)
    go_wp2_with fail
    refine h3.mono ?_
    rintro e w2 ⟨r, σ2, rfl, H2, r0, r1, hd2, hg2⟩
    have hw1 : IntKind.u64.wrap r = r := by rw [IntKind.wrap_u64]; omega
    have hw2 : IntKind.u64.wrap (4611686018427387904 - r) = 4611686018427387904 - r := by rw [IntKind.wrap_u64]; omega
    clear h3
    go_wp2_with fail
    go_ret
    exact ⟨_, σ2, rfl, by unfold Hid startFn; rw [H1.out, if_pos rfl, H2.out], by omega, by omega, hd2, grown_trans hg1 hg2⟩
  have b0 : (k == 0) = false := by simpa using e0
  by_cases e1 : k = 1
  · subst e1
    have h3 := HNX.out w1 σ1 60 hd1 (by omega) (by omega)
    go_wp2_with fail
    refine h3.mono ?_
    rintro e w2 ⟨r, σ2, rfl, H2, r0, r1, hd2, hg2⟩
    have hw1 : IntKind.u64.wrap r = r := by rw [IntKind.wrap_u64]; omega
    have hw2 : IntKind.u64.wrap (4294967296 - r) = 4294967296 - r := by rw [IntKind.wrap_u64]; omega
    clear h3
    go_wp2_with fail
    go_ret
    exact ⟨_, σ2, rfl, by unfold Hid startFn; rw [H1.out, if_neg (by simp), if_pos rfl, H2.out], by omega, by omega, hd2, grown_trans hg1 hg2⟩
  have b1 : (k == 1) = false := by simpa using e1
  by_cases e2 : k = 2
  · subst e2
    have h3 := HNX.out w1 σ1 1000 hd1 (by omega) (by omega)
    go_wp2_with fail
    refine h3.mono ?_
    rintro e w2 ⟨r, σ2, rfl, H2, r0, r1, hd2, hg2⟩
    have hw1 : IntKind.u64.wrap r = r := by rw [IntKind.wrap_u64]; omega
    clear h3
    go_wp2_with fail
    go_ret
    exact ⟨_, σ2, rfl, by unfold Hid startFn; rw [H1.out, if_neg (by simp), if_neg (by simp), if_pos rfl, H2.out], by omega, by omega, hd2, grown_trans hg1 hg2⟩
  have b2 : (k == 2) = false := by simpa using e2
  go_wp2_with fail
  go_ret
  exact ⟨0, σ1, rfl, by unfold Hid startFn; rw [H1.out, if_neg e0, if_neg e1, if_neg e2], by omega, by omega, hd1, hg1⟩
end Go.Proofs.Ytpeecjoadgefjaa
