import Derived.Test.YtjiaiaclmceeeaaGreatDoorLLine3
namespace Go.Proofs.YtjiaiaclmceeeaaGreatDoor
open Go.ChangeShapes Go.WideShapes Go.ChangeAt Go.RowKit
set_option linter.unusedVariables false
set_option linter.unusedSimpArgs false

/-! ### The specification's ParseLine -/
def BytesOK (s : ByteArray) (k : Nat) : Prop := ∀ i, i < k → 32 ≤ bt s i ∧ bt s i ≤ 126
theorem good_bytes {s : ByteArray} (h : Good s) : BytesOK s s.size := fun i hi => (h.1 i hi).1
set_option maxHeartbeats 1000000 in
set_option maxRecDepth 100000 in
theorem specLine_long (s : ByteArray) (h : 1000 < s.size) (w : World) : Calls Tryz.prog 4 #[.string s] w (ParseP s w) := by
  have d1 : decide ((1000 : Int) < (s.size : Int)) = true := decide_eq_true (by omega)
  go_enter Tryz.func4, Tryz.ntmps4
  go_wp2_with fail
  have hb : Below w.heap.size w (w.alloc (.cells noCmd.vals 23)) := (Below.refl _ _).alloc (Nat.le_refl _) _
  exact bodyPost_ret (v := .tuple #[.agg noCmd.vals, .int .i64 5]) (by simp [results, Tryz.results4, go_sem, noCmd, Cmd.vals]) rfl ⟨.inl ⟨h, rfl⟩, hb⟩
set_option maxHeartbeats 1000000 in
set_option maxRecDepth 100000 in
theorem specLine_bytes (s : ByteArray) (h : s.size ≤ 1000) (hno : ¬ BytesOK s s.size) (w : World) : Calls Tryz.prog 4 #[.string s] w (ParseP s w) := by
  have d1 : decide ((1000 : Int) < (s.size : Int)) = false := decide_eq_false (by omega)
  have HNO : Hid (¬ ∃ op ks, LineOK s op ks) := by
    rintro ⟨op, ks, hl⟩
    exact hno (good_bytes hl.good)
  obtain ⟨W, hW⟩ : ∃ W, W = w.alloc (.cells noCmd.vals 23) := ⟨_, rfl⟩
  obtain ⟨A2, hA2⟩ : ∃ A2, A2 = w.heap.size := ⟨_, rfl⟩
  have hbW : Below w.heap.size w W := by rw [hW]; exact (Below.refl _ _).alloc (Nat.le_refl _) _
  have h2 : W.heap[A2]? = some (.cells noCmd.vals 23 (0, 0)) := by rw [hW, hA2]; exact heap_alloc_new _ _
  have hA : w.heap.size ≤ A2 := by omega
  have HN0 : Hid _ := hno
  go_enter Tryz.func4, Tryz.ntmps4
  go_upto_region 1 with fail
  have hW' : w.alloc (.cells #[.int .i64 0, .int .i64 0, .int .i64 0, .int .i64 0, .int .i64 0, .string ⟨#[]⟩] 23) = W := by rw [hW]; rfl
  rw [hW', ← hA2]
  clear hW hW' hno hA2
  obtain ⟨⟨c0, c1, c2, c3, c4, c5⟩, cf⟩ := cells6s h2
  have g0 := cf 0
  have g1 := cf 1
  have g2 := cf 2
  have g3 := cf 3
  have g4 := cf 4
  have g5 := cf 5
  simp only [noCmd] at c0 c1 c2 c3 c4 c5
  clear cf
  go_wp2_with fail
  go_loopw [4] (fun iv wr => ∃ k : Nat, k ≤ s.size ∧ iv = .int .i64 (k : Int) ∧ Hid (BytesOK s k) ∧ wr = W) (fun iv _ => s.size - (intOf iv).toNat)
  case atStart => exact ⟨0, Nat.zero_le _, rfl, (fun i hi => by omega : BytesOK s 0), rfl⟩
  case round =>
  obtain ⟨k, hk, rfl, HB, rfl⟩ := hrel
  by_cases hlt : k < s.size
  case neg =>
    obtain rfl : k = s.size := by omega
    exact absurd HB.out HN0.out
  case pos =>
  have hki : (k : Int) < (s.size : Int) := by omega
  have hc := bt_at hlt
  have hcb := bt_lt s k
  by_cases q : 32 ≤ bt s k ∧ bt s k ≤ 126
  case pos =>
    have q1 : decide (((s[k]'hlt).toNat : Int) < 32) = false := decide_eq_false (by omega)
    have q2 : decide ((126 : Int) < ((s[k]'hlt).toNat : Int)) = false := decide_eq_false (by omega)
    have q1' : ¬ ((s[k]'hlt).toNat : Int) < 32 := by omega
    have q2' : ¬ (126 : Int) < ((s[k]'hlt).toNat : Int) := by omega
    have HB1 : Hid (BytesOK s (k + 1)) := fun i hi => by
      by_cases e : i < k
      · exact HB.out i e
      · rw [show i = k by omega]; exact q
    clear q hc hcb
    go_wp2_with fail
    go_roundw
    case rel => exact ⟨k + 1, by omega, by go_num, HB1, trivial⟩
    case measure => simp [intOf]; omega
  case neg =>
    by_cases q1 : bt s k < 32
    · have q1' : ((s[k]'hlt).toNat : Int) < 32 := by omega
      have q2 : decide (((s[k]'hlt).toNat : Int) < 32) = true := decide_eq_true q1'
      clear q q1 hc hcb
      go_wp2_with fail
      obtain ⟨X, hX⟩ : ∃ X, X = ((((((wr.setCell ⟨A2, 0, none⟩ (.int .i64 0)).setCell ⟨A2, 1, none⟩ (.int .i64 0)).setCell ⟨A2, 2, none⟩ (.int .i64 0)).setCell ⟨A2, 3, none⟩ (.int .i64 0)).setCell ⟨A2, 4, none⟩ (.int .i64 0)).setCell ⟨A2, 5, none⟩ (.string ⟨#[]⟩)) := ⟨_, rfl⟩
      rw [← hX]
      obtain ⟨x4, xb⟩ := put6 h2 _ _ _ _ _ _ X hX
      have hbX := xb hbW hA
      clear hX xb c0 c1 c2 c3 c4 c5
      have x4' : X.heap[A2]? = some (.cells noCmd.vals 23 (0, 0)) := x4
      obtain ⟨⟨c0, c1, c2, c3, c4, c5⟩, _⟩ := cells6s x4'
      simp only [noCmd] at c0 c1 c2 c3 c4 c5
      exact bodyPost_ret (v := .tuple #[.agg noCmd.vals, .int .i64 16]) (by simp [results, Tryz.results4, go_sem, Cmd.vals, noCmd, c0, c1, c2, c3, c4, c5]) rfl ⟨.inr (.inr ⟨h, HNO.out, rfl⟩), hbX⟩
    · have q1' : ¬ ((s[k]'hlt).toNat : Int) < 32 := by omega
      have q2 : decide (((s[k]'hlt).toNat : Int) < 32) = false := decide_eq_false q1'
      have q3' : (126 : Int) < ((s[k]'hlt).toNat : Int) := by omega
      have q3 : decide ((126 : Int) < ((s[k]'hlt).toNat : Int)) = true := decide_eq_true q3'
      clear q q1 hc hcb
      go_wp2_with fail
      obtain ⟨X, hX⟩ : ∃ X, X = ((((((wr.setCell ⟨A2, 0, none⟩ (.int .i64 0)).setCell ⟨A2, 1, none⟩ (.int .i64 0)).setCell ⟨A2, 2, none⟩ (.int .i64 0)).setCell ⟨A2, 3, none⟩ (.int .i64 0)).setCell ⟨A2, 4, none⟩ (.int .i64 0)).setCell ⟨A2, 5, none⟩ (.string ⟨#[]⟩)) := ⟨_, rfl⟩
      rw [← hX]
      obtain ⟨x4, xb⟩ := put6 h2 _ _ _ _ _ _ X hX
      have hbX := xb hbW hA
      clear hX xb c0 c1 c2 c3 c4 c5
      have x4' : X.heap[A2]? = some (.cells noCmd.vals 23 (0, 0)) := x4
      obtain ⟨⟨c0, c1, c2, c3, c4, c5⟩, _⟩ := cells6s x4'
      simp only [noCmd] at c0 c1 c2 c3 c4 c5
      exact bodyPost_ret (v := .tuple #[.agg noCmd.vals, .int .i64 16]) (by simp [results, Tryz.results4, go_sem, Cmd.vals, noCmd, c0, c1, c2, c3, c4, c5]) rfl ⟨.inr (.inr ⟨h, HNO.out, rfl⟩), hbX⟩
end Go.Proofs.YtjiaiaclmceeeaaGreatDoor
