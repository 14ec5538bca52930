import Derived.Test.YthgggmkljnghmaaDoorWireValid
namespace Go.Proofs.YthgggmkljnghmaaDoor
open Go.ChangeShapes Go.WideShapes Go.ChangeAt Go.RowKit
set_option linter.unusedVariables false
set_option linter.unusedSimpArgs false

theorem headOf (k p s o wd : Int) (a : Option Addr) (n cap : Nat) (w : World) (k0 : -9223372036854775808 ≤ k) (k1 : k ≤ 9223372036854775807) (pa : -9223372036854775808 ≤ p) (pb : p ≤ 9223372036854775807) (s0 : 0 ≤ s) (s1 : s ≤ 4294967295) (o0 : 0 ≤ o) (o1 : o ≤ 18446744073709551615) (wa : -9223372036854775808 ≤ wd) (wb : wd ≤ 9223372036854775807) (hn : n ≤ 1048576) :
    Calls Tryd.prog 43 #[.agg #[.int .i64 k, .int .i64 p, .int .u32 s, .int .u64 o, .int .i64 wd, .slice a n cap]] w fun e w' => e = .returned (.agg #[.int .i64 k, .int .i64 p, .int .u32 s, .int .u64 o, .int .i64 wd]) ∧ Below w.heap.size w w' := by
  go_enter Tryd.func43, Tryd.ntmps43
  go_wp2
  (try simp only [Exit.inBlock, Exit.then])
  exact bodyPost_ret (v := .agg #[.int .i64 k, .int .i64 p, .int .u32 s, .int .u64 o, .int .i64 wd]) (by simp [results, Tryd.results43, go_sem]) rfl ⟨rfl, ((Below.refl _ _).alloc (Nat.le_refl _) _).alloc (by simp) _⟩

theorem inRange (k p s o wd : Int) (w : World) (k0 : -9223372036854775808 ≤ k) (k1 : k ≤ 9223372036854775807) (pa : -9223372036854775808 ≤ p) (pb : p ≤ 9223372036854775807) (s0 : 0 ≤ s) (s1 : s ≤ 4294967295) (o0 : 0 ≤ o) (o1 : o ≤ 18446744073709551615) (wa : -9223372036854775808 ≤ wd) (wb : wd ≤ 9223372036854775807) :
    Calls Tryd.prog 44 #[.agg #[.int .i64 k, .int .i64 p, .int .u32 s, .int .u64 o, .int .i64 wd]] w (SaysB (1 ≤ k ∧ k ≤ 5 ∧ 0 ≤ p ∧ p < 8 ∧ 0 ≤ wd ∧ wd ≤ 65535) w) := by
  go_enter Tryd.func44, Tryd.ntmps44
  go_wp2
  all_goals (go_ret; refine SaysB.mk _ ?_ ((Below.refl _ _).alloc (Nat.le_refl _) _); (try simp only [bne_iff_ne, ne_eq, bne_eq_false_iff_eq, Bool.false_eq_true, false_iff, true_iff, beq_iff_eq, decide_eq_true_eq, not_true_eq_false, false_or, true_or, true_and] at *); (try omega))

/-- A head is answered, and when it is the given one. -/
def SaysH (k p s o wd : Int) (w : World) : Ending → World → Prop := fun e w' => ∃ s' o' wd', e = .returned (.agg #[.int .i64 k, .int .i64 p, .int .u32 s', .int .u64 o', .int .i64 wd']) ∧ ((wd' = wd ↔ (k = 2 ∨ wd = 0)) ∧ (o' = o ↔ ((k ≠ 4 ∧ k ≠ 5) ∨ o = 0)) ∧ (s' = s ↔ (k ≠ 4 ∨ s = 0))) ∧ Below w.heap.size w w'

theorem SaysH.mk {k p s o wd : Int} {w w' : World} (K S O W : Int) (hK : K = k) (h : (W = wd ↔ (k = 2 ∨ wd = 0)) ∧ (O = o ↔ ((k ≠ 4 ∧ k ≠ 5) ∨ o = 0)) ∧ (S = s ↔ (k ≠ 4 ∨ s = 0))) (m : Below w.heap.size w w') : SaysH k p s o wd w (.returned (.agg #[.int .i64 K, .int .i64 p, .int .u32 S, .int .u64 O, .int .i64 W])) w' := by
  subst hK; exact ⟨S, O, W, rfl, h, m⟩

theorem cleared (k p s o wd : Int) (w : World) (k0 : -9223372036854775808 ≤ k) (k1 : k ≤ 9223372036854775807) (pa : -9223372036854775808 ≤ p) (pb : p ≤ 9223372036854775807) (s0 : 0 ≤ s) (s1 : s ≤ 4294967295) (o0 : 0 ≤ o) (o1 : o ≤ 18446744073709551615) (wa : -9223372036854775808 ≤ wd) (wb : wd ≤ 9223372036854775807) :
    Calls Tryd.prog 45 #[.agg #[.int .i64 k, .int .i64 p, .int .u32 s, .int .u64 o, .int .i64 wd]] w (SaysH k p s o wd w) := by
  go_enter Tryd.func45, Tryd.ntmps45
  go_wp2
  all_goals (try simp only [Exit.inBlock, Exit.then])
  all_goals first
    | (refine bodyPost_ret (v := .agg #[.int .i64 k, .int .i64 p, .int .u32 s, .int .u64 o, .int .i64 wd]) ?_ rfl (SaysH.mk (k) (s) (o) (wd) ?_ ?_ (((Below.refl _ _).alloc (Nat.le_refl _) _).alloc (by simp) _)); case refine_1 => (simp [results, Tryd.results45, go_sem]; done))
    | (refine bodyPost_ret (v := .agg #[.int .i64 k, .int .i64 p, .int .u32 s, .int .u64 o, .int .i64 0]) ?_ rfl (SaysH.mk (k) (s) (o) (0) ?_ ?_ (((Below.refl _ _).alloc (Nat.le_refl _) _).alloc (by simp) _)); case refine_1 => (simp [results, Tryd.results45, go_sem]; done))
    | (refine bodyPost_ret (v := .agg #[.int .i64 k, .int .i64 p, .int .u32 s, .int .u64 0, .int .i64 wd]) ?_ rfl (SaysH.mk (k) (s) (0) (wd) ?_ ?_ (((Below.refl _ _).alloc (Nat.le_refl _) _).alloc (by simp) _)); case refine_1 => (simp [results, Tryd.results45, go_sem]; done))
    | (refine bodyPost_ret (v := .agg #[.int .i64 k, .int .i64 p, .int .u32 s, .int .u64 0, .int .i64 0]) ?_ rfl (SaysH.mk (k) (s) (0) (0) ?_ ?_ (((Below.refl _ _).alloc (Nat.le_refl _) _).alloc (by simp) _)); case refine_1 => (simp [results, Tryd.results45, go_sem]; done))
    | (refine bodyPost_ret (v := .agg #[.int .i64 k, .int .i64 p, .int .u32 0, .int .u64 o, .int .i64 wd]) ?_ rfl (SaysH.mk (k) (0) (o) (wd) ?_ ?_ (((Below.refl _ _).alloc (Nat.le_refl _) _).alloc (by simp) _)); case refine_1 => (simp [results, Tryd.results45, go_sem]; done))
    | (refine bodyPost_ret (v := .agg #[.int .i64 k, .int .i64 p, .int .u32 0, .int .u64 o, .int .i64 0]) ?_ rfl (SaysH.mk (k) (0) (o) (0) ?_ ?_ (((Below.refl _ _).alloc (Nat.le_refl _) _).alloc (by simp) _)); case refine_1 => (simp [results, Tryd.results45, go_sem]; done))
    | (refine bodyPost_ret (v := .agg #[.int .i64 k, .int .i64 p, .int .u32 0, .int .u64 0, .int .i64 wd]) ?_ rfl (SaysH.mk (k) (0) (0) (wd) ?_ ?_ (((Below.refl _ _).alloc (Nat.le_refl _) _).alloc (by simp) _)); case refine_1 => (simp [results, Tryd.results45, go_sem]; done))
    | (refine bodyPost_ret (v := .agg #[.int .i64 k, .int .i64 p, .int .u32 0, .int .u64 0, .int .i64 0]) ?_ rfl (SaysH.mk (k) (0) (0) (0) ?_ ?_ (((Below.refl _ _).alloc (Nat.le_refl _) _).alloc (by simp) _)); case refine_1 => (simp [results, Tryd.results45, go_sem]; done))
    | (refine bodyPost_ret (v := .agg #[.int .i64 4, .int .i64 p, .int .u32 s, .int .u64 o, .int .i64 wd]) ?_ rfl (SaysH.mk (4) (s) (o) (wd) ?_ ?_ (((Below.refl _ _).alloc (Nat.le_refl _) _).alloc (by simp) _)); case refine_1 => (simp [results, Tryd.results45, go_sem]; done))
    | (refine bodyPost_ret (v := .agg #[.int .i64 4, .int .i64 p, .int .u32 s, .int .u64 o, .int .i64 0]) ?_ rfl (SaysH.mk (4) (s) (o) (0) ?_ ?_ (((Below.refl _ _).alloc (Nat.le_refl _) _).alloc (by simp) _)); case refine_1 => (simp [results, Tryd.results45, go_sem]; done))
    | (refine bodyPost_ret (v := .agg #[.int .i64 4, .int .i64 p, .int .u32 s, .int .u64 0, .int .i64 wd]) ?_ rfl (SaysH.mk (4) (s) (0) (wd) ?_ ?_ (((Below.refl _ _).alloc (Nat.le_refl _) _).alloc (by simp) _)); case refine_1 => (simp [results, Tryd.results45, go_sem]; done))
    | (refine bodyPost_ret (v := .agg #[.int .i64 4, .int .i64 p, .int .u32 s, .int .u64 0, .int .i64 0]) ?_ rfl (SaysH.mk (4) (s) (0) (0) ?_ ?_ (((Below.refl _ _).alloc (Nat.le_refl _) _).alloc (by simp) _)); case refine_1 => (simp [results, Tryd.results45, go_sem]; done))
    | (refine bodyPost_ret (v := .agg #[.int .i64 4, .int .i64 p, .int .u32 0, .int .u64 o, .int .i64 wd]) ?_ rfl (SaysH.mk (4) (0) (o) (wd) ?_ ?_ (((Below.refl _ _).alloc (Nat.le_refl _) _).alloc (by simp) _)); case refine_1 => (simp [results, Tryd.results45, go_sem]; done))
    | (refine bodyPost_ret (v := .agg #[.int .i64 4, .int .i64 p, .int .u32 0, .int .u64 o, .int .i64 0]) ?_ rfl (SaysH.mk (4) (0) (o) (0) ?_ ?_ (((Below.refl _ _).alloc (Nat.le_refl _) _).alloc (by simp) _)); case refine_1 => (simp [results, Tryd.results45, go_sem]; done))
    | (refine bodyPost_ret (v := .agg #[.int .i64 4, .int .i64 p, .int .u32 0, .int .u64 0, .int .i64 wd]) ?_ rfl (SaysH.mk (4) (0) (0) (wd) ?_ ?_ (((Below.refl _ _).alloc (Nat.le_refl _) _).alloc (by simp) _)); case refine_1 => (simp [results, Tryd.results45, go_sem]; done))
    | (refine bodyPost_ret (v := .agg #[.int .i64 4, .int .i64 p, .int .u32 0, .int .u64 0, .int .i64 0]) ?_ rfl (SaysH.mk (4) (0) (0) (0) ?_ ?_ (((Below.refl _ _).alloc (Nat.le_refl _) _).alloc (by simp) _)); case refine_1 => (simp [results, Tryd.results45, go_sem]; done))
    | (refine bodyPost_ret (v := .agg #[.int .i64 5, .int .i64 p, .int .u32 s, .int .u64 o, .int .i64 wd]) ?_ rfl (SaysH.mk (5) (s) (o) (wd) ?_ ?_ (((Below.refl _ _).alloc (Nat.le_refl _) _).alloc (by simp) _)); case refine_1 => (simp [results, Tryd.results45, go_sem]; done))
    | (refine bodyPost_ret (v := .agg #[.int .i64 5, .int .i64 p, .int .u32 s, .int .u64 o, .int .i64 0]) ?_ rfl (SaysH.mk (5) (s) (o) (0) ?_ ?_ (((Below.refl _ _).alloc (Nat.le_refl _) _).alloc (by simp) _)); case refine_1 => (simp [results, Tryd.results45, go_sem]; done))
    | (refine bodyPost_ret (v := .agg #[.int .i64 5, .int .i64 p, .int .u32 s, .int .u64 0, .int .i64 wd]) ?_ rfl (SaysH.mk (5) (s) (0) (wd) ?_ ?_ (((Below.refl _ _).alloc (Nat.le_refl _) _).alloc (by simp) _)); case refine_1 => (simp [results, Tryd.results45, go_sem]; done))
    | (refine bodyPost_ret (v := .agg #[.int .i64 5, .int .i64 p, .int .u32 s, .int .u64 0, .int .i64 0]) ?_ rfl (SaysH.mk (5) (s) (0) (0) ?_ ?_ (((Below.refl _ _).alloc (Nat.le_refl _) _).alloc (by simp) _)); case refine_1 => (simp [results, Tryd.results45, go_sem]; done))
    | (refine bodyPost_ret (v := .agg #[.int .i64 5, .int .i64 p, .int .u32 0, .int .u64 o, .int .i64 wd]) ?_ rfl (SaysH.mk (5) (0) (o) (wd) ?_ ?_ (((Below.refl _ _).alloc (Nat.le_refl _) _).alloc (by simp) _)); case refine_1 => (simp [results, Tryd.results45, go_sem]; done))
    | (refine bodyPost_ret (v := .agg #[.int .i64 5, .int .i64 p, .int .u32 0, .int .u64 o, .int .i64 0]) ?_ rfl (SaysH.mk (5) (0) (o) (0) ?_ ?_ (((Below.refl _ _).alloc (Nat.le_refl _) _).alloc (by simp) _)); case refine_1 => (simp [results, Tryd.results45, go_sem]; done))
    | (refine bodyPost_ret (v := .agg #[.int .i64 5, .int .i64 p, .int .u32 0, .int .u64 0, .int .i64 wd]) ?_ rfl (SaysH.mk (5) (0) (0) (wd) ?_ ?_ (((Below.refl _ _).alloc (Nat.le_refl _) _).alloc (by simp) _)); case refine_1 => (simp [results, Tryd.results45, go_sem]; done))
    | (refine bodyPost_ret (v := .agg #[.int .i64 5, .int .i64 p, .int .u32 0, .int .u64 0, .int .i64 0]) ?_ rfl (SaysH.mk (5) (0) (0) (0) ?_ ?_ (((Below.refl _ _).alloc (Nat.le_refl _) _).alloc (by simp) _)); case refine_1 => (simp [results, Tryd.results45, go_sem]; done))
    | (refine bodyPost_ret (v := .agg #[.int .i64 2, .int .i64 p, .int .u32 s, .int .u64 o, .int .i64 wd]) ?_ rfl (SaysH.mk (2) (s) (o) (wd) ?_ ?_ (((Below.refl _ _).alloc (Nat.le_refl _) _).alloc (by simp) _)); case refine_1 => (simp [results, Tryd.results45, go_sem]; done))
    | (refine bodyPost_ret (v := .agg #[.int .i64 2, .int .i64 p, .int .u32 s, .int .u64 o, .int .i64 0]) ?_ rfl (SaysH.mk (2) (s) (o) (0) ?_ ?_ (((Below.refl _ _).alloc (Nat.le_refl _) _).alloc (by simp) _)); case refine_1 => (simp [results, Tryd.results45, go_sem]; done))
    | (refine bodyPost_ret (v := .agg #[.int .i64 2, .int .i64 p, .int .u32 s, .int .u64 0, .int .i64 wd]) ?_ rfl (SaysH.mk (2) (s) (0) (wd) ?_ ?_ (((Below.refl _ _).alloc (Nat.le_refl _) _).alloc (by simp) _)); case refine_1 => (simp [results, Tryd.results45, go_sem]; done))
    | (refine bodyPost_ret (v := .agg #[.int .i64 2, .int .i64 p, .int .u32 s, .int .u64 0, .int .i64 0]) ?_ rfl (SaysH.mk (2) (s) (0) (0) ?_ ?_ (((Below.refl _ _).alloc (Nat.le_refl _) _).alloc (by simp) _)); case refine_1 => (simp [results, Tryd.results45, go_sem]; done))
    | (refine bodyPost_ret (v := .agg #[.int .i64 2, .int .i64 p, .int .u32 0, .int .u64 o, .int .i64 wd]) ?_ rfl (SaysH.mk (2) (0) (o) (wd) ?_ ?_ (((Below.refl _ _).alloc (Nat.le_refl _) _).alloc (by simp) _)); case refine_1 => (simp [results, Tryd.results45, go_sem]; done))
    | (refine bodyPost_ret (v := .agg #[.int .i64 2, .int .i64 p, .int .u32 0, .int .u64 o, .int .i64 0]) ?_ rfl (SaysH.mk (2) (0) (o) (0) ?_ ?_ (((Below.refl _ _).alloc (Nat.le_refl _) _).alloc (by simp) _)); case refine_1 => (simp [results, Tryd.results45, go_sem]; done))
    | (refine bodyPost_ret (v := .agg #[.int .i64 2, .int .i64 p, .int .u32 0, .int .u64 0, .int .i64 wd]) ?_ rfl (SaysH.mk (2) (0) (0) (wd) ?_ ?_ (((Below.refl _ _).alloc (Nat.le_refl _) _).alloc (by simp) _)); case refine_1 => (simp [results, Tryd.results45, go_sem]; done))
    | (refine bodyPost_ret (v := .agg #[.int .i64 2, .int .i64 p, .int .u32 0, .int .u64 0, .int .i64 0]) ?_ rfl (SaysH.mk (2) (0) (0) (0) ?_ ?_ (((Below.refl _ _).alloc (Nat.le_refl _) _).alloc (by simp) _)); case refine_1 => (simp [results, Tryd.results45, go_sem]; done))
  all_goals (simp only [bne_iff_ne, ne_eq, bne_eq_false_iff_eq, beq_iff_eq, beq_eq_false_iff_ne, true_and, and_true, true_iff, iff_true, true_or, or_true] at *)
  all_goals first | omega | trivial

theorem payloadFits (k p s o wd : Int) (a : Option Addr) (n cap : Nat) (w : World) (k0 : -9223372036854775808 ≤ k) (k1 : k ≤ 9223372036854775807) (pa : -9223372036854775808 ≤ p) (pb : p ≤ 9223372036854775807) (s0 : 0 ≤ s) (s1 : s ≤ 4294967295) (o0 : 0 ≤ o) (o1 : o ≤ 18446744073709551615) (wa : -9223372036854775808 ≤ wd) (wb : wd ≤ 9223372036854775807) (hn : n ≤ 1048576) :
    Calls Tryd.prog 46 #[.agg #[.int .i64 k, .int .i64 p, .int .u32 s, .int .u64 o, .int .i64 wd, .slice a n cap]] w (SaysB ((k ≠ 1 ∨ (1 ≤ n ∧ n ≤ 32 ∧ o + n ≤ 18446744073709551615)) ∧ (k = 1 ∨ n = 0)) w) := by
  go_enter Tryd.func46, Tryd.ntmps46
  go_wp2
  all_goals (go_ret; refine SaysB.mk _ ?_ ((Below.refl _ _).alloc (Nat.le_refl _) _); (try simp only [bne_iff_ne, ne_eq, bne_eq_false_iff_eq, Bool.false_eq_true, false_iff, true_iff, beq_iff_eq, decide_eq_true_eq, not_true_eq_false, false_or, true_or, true_and] at *); (try omega))
end Go.Proofs.YthgggmkljnghmaaDoor
