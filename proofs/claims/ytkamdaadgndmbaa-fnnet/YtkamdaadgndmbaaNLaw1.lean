import Derived.Test.YtkamdaadgndmbaaNOuts
import Derived.Test.YtkamdaadgndmbaaByteLaw
namespace Go.Proofs.Ytkamdaadgndmbaa
open Go.ChangeShapes Go.WideShapes Go.ChangeAt Go.RowKit
set_option linter.unusedVariables false

/-! ### Events that came in -/
structure EvIn (w : World) (a : Option Addr) (G : Evs) : Prop where
  at_ : G = [] ∨ ∃ b off, a = some ⟨b, off, none⟩ ∧ ∀ i, ∀ h : i < G.length, w.cell? ⟨b, off + i * 5, none⟩ = some (.int .i64 (G[i]).1.kd) ∧ w.cell? ⟨b, off + i * 5 + 1, none⟩ = some (.int .i64 (G[i]).1.pa) ∧ w.cell? ⟨b, off + i * 5 + 2, none⟩ = some (.int .i64 (G[i]).1.di) ∧ w.cell? ⟨b, off + i * 5 + 3, none⟩ = some (.int .i64 (G[i]).1.ix) ∧ w.cell? ⟨b, off + i * 5 + 4, none⟩ = some (.slice (G[i]).2.1 (G[i]).1.dat.length (G[i]).2.2)
  dat : ∀ p ∈ G, Ints .u8 w p.2.1 p.1.dat
theorem EvIn.moved {w w' : World} {a : Option Addr} {G : Evs} (h : EvIn w a G) (hb : Below w.heap.size w w') : EvIn w' a G := by
  refine ⟨?_, fun p hp => (h.dat p hp).moved hb⟩
  rcases h.at_ with h0 | ⟨b, off, ha, hc⟩
  · exact .inl h0
  · refine .inr ⟨b, off, ha, fun i hi => ?_⟩
    obtain ⟨a1, a2, a3, a4, a5⟩ := hc i hi
    have hl := World.block_lt_of_cell? w _ a1
    exact ⟨(hb.cell (p := ⟨b, off + i * 5, none⟩) hl).trans a1, (hb.cell (p := ⟨b, off + i * 5 + 1, none⟩) hl).trans a2, (hb.cell (p := ⟨b, off + i * 5 + 2, none⟩) hl).trans a3, (hb.cell (p := ⟨b, off + i * 5 + 3, none⟩) hl).trans a4, (hb.cell (p := ⟨b, off + i * 5 + 4, none⟩) hl).trans a5⟩
def sumD (es : Evs) : Nat := (es.map fun p => p.1.dat.length).sum
theorem sumD_take (es : Evs) (k : Nat) (h : k < es.length) : sumD (es.take (k + 1)) = sumD (es.take k) + (es[k]).1.dat.length := by
  unfold sumD
  rw [List.take_succ_eq_append_getElem h, List.map_append, List.sum_append]
  simp
theorem sumD_le (es : Evs) (k : Nat) : sumD (es.take k) ≤ sumD es := by
  conv => rhs; rw [← List.take_append_drop k es]
  unfold sumD
  rw [List.map_append, List.sum_append]
  omega
theorem sumD_mem {es : Evs} {p : NEv × Option Addr × Nat} (h : p ∈ es) : p.1.dat.length ≤ sumD es := by
  induction es with
  | nil => simp at h
  | cons q r ih =>
    have e : sumD (q :: r) = q.1.dat.length + sumD r := by simp [sumD]
    rcases List.mem_cons.1 h with rfl | h
    · omega
    · have := ih h; omega

theorem szByteS_left (a : Option Addr) (n cap : Nat) (left : Int) (w : World) (hm : n ≤ 9223372036854775807) (l0 : 0 ≤ left) (l1 : left ≤ 1048576) :
    Calls Try.prog 44 #[.slice a n cap, .int .i64 left] w fun e w' => e = .returned (.int .i64 (if (n : Int) ≤ left then left - (n : Int) else -1)) ∧ w' = w := by
  by_cases h : (n : Int) ≤ left
  · rw [if_pos h]
    go_enter Try.func44, Try.ntmps44
    go_wp2
    go_ret
    exact ⟨rfl, rfl⟩
  · rw [if_neg h]
    go_enter Try.func44, Try.ntmps44
    go_wp2
    go_ret
    exact ⟨rfl, rfl⟩
theorem szNetEvent_any (kd pa di ix : Int) (a : Option Addr) (dl cap : Nat) (left : Int) (w : World) (hm : dl ≤ 9223372036854775807) (l0 : 0 ≤ left) (l1 : left ≤ 1048576) :
    Calls Try.prog 27 #[.agg #[.int .i64 kd, .int .i64 pa, .int .i64 di, .int .i64 ix, .slice a dl cap], .int .i64 left] w fun e w' => e = .returned (.int .i64 (if (dl : Int) ≤ left then left - (dl : Int) else -1)) ∧ Below w.heap.size w w' := by
  have hb0 : Below w.heap.size w (w.alloc (.cells #[.int .i64 kd, .int .i64 pa, .int .i64 di, .int .i64 ix, .slice a dl cap] 67)) := (Below.refl _ _).alloc (Nat.le_refl _) _
  have hs := fun w1 => szByteS_left a dl cap left w1 hm l0 l1
  by_cases h : (dl : Int) ≤ left
  · simp only [if_pos h] at hs ⊢
    go_enter Try.func27, Try.ntmps27
    go_wp2_with (go_at_call 44; refine (hs _).mono ?_; rintro e w1 ⟨rfl, hw⟩; subst hw)
    go_ret
    exact ⟨rfl, hb0⟩
  · simp only [if_neg h] at hs ⊢
    go_enter Try.func27, Try.ntmps27
    go_wp2_with (go_at_call 44; refine (hs _).mono ?_; rintro e w1 ⟨rfl, hw⟩; subst hw)
    go_ret
    exact ⟨rfl, hb0⟩
set_option maxHeartbeats 1000000 in
set_option maxRecDepth 100000 in
theorem szNetEventS_any (a : Option Addr) (es : Evs) (n cap : Nat) (w : World) (hn : es.length = n) (hm : n ≤ 9223372036854775807) (hd : ∀ p ∈ es, p.1.dat.length ≤ 9223372036854775807) (hz : EvIn w a es) (r : Int) (hr : (n + sumD es ≤ 1048576 ∧ r = 1048576 - (n : Int) - (sumD es : Int)) ∨ (1048576 < n + sumD es ∧ r = -1)) :
    Calls Try.prog 10 #[.slice a n cap, .int .i64 1048576] w fun e w' => e = .returned (.int .i64 r) ∧ Below w.heap.size w w' := by
  have HN : Hid _ := hn
  have HR : Hid _ := hr
  clear hn hr
  by_cases hnn : 1048576 < n
  · have e : r = -1 := by rcases HR.out with h | h <;> omega
    subst e
    have d1 : decide (1048576 - (n : Int) < 0) = true := by rw [decide_eq_true_iff]; omega
    go_enter Try.func10, Try.ntmps10
    go_wp2
    go_ret
    exact ⟨rfl, Below.refl _ _⟩
  · have d1 : decide (1048576 - (n : Int) < 0) = false := by rw [decide_eq_false_iff_not]; omega
    go_enter Try.func10, Try.ntmps10
    go_wp2
    go_loopw [1, 5] (fun lv iv wr => ∃ (k : Nat) (left : Int), k ≤ n ∧ iv = .int .i64 (k : Int) ∧ lv = .int .i64 left ∧ 0 ≤ left ∧ left ≤ 1048576 ∧ Hid (left = 1048576 - (n : Int) - (sumD (es.take k) : Int)) ∧ Below w.heap.size w wr) (fun _ iv _ => n - (intOf iv).toNat)
    case atStart => exact ⟨0, 1048576 - (n : Int), Nat.zero_le _, rfl, rfl, by omega, by omega, by unfold Hid; simp [sumD], Below.refl _ _⟩
    case round =>
    obtain ⟨k, left, hk, rfl, rfl, l0, l1, HL, hb⟩ := hrel
    by_cases hlt : k < n
    · have hkl : k < es.length := by have := HN.out; omega
      rcases hz.at_ with h | ⟨b, off, rfl, hc⟩
      · have := HN.out; simp [h] at this; omega
      obtain ⟨c1, c2, c3, c4, c5⟩ := hc k hkl
      have hmem := hd _ (List.getElem_mem hkl)
      have hst := sumD_take es k hkl
      have hle := sumD_le es (k + 1)
      obtain ⟨⟨⟨kd, pa, di, ix, dat⟩, da, dc⟩, he⟩ : ∃ p, es[k] = p := ⟨_, rfl⟩
      rw [he] at c1 c2 c3 c4 c5 hmem hst
      simp only at c1 c2 c3 c4 c5 hmem hst
      obtain ⟨dl, hdl⟩ : ∃ dl, Hid (dl = dat.length) := ⟨_, rfl⟩
      rw [← hdl.out] at c5 hmem hst
      have HST : Hid _ := hst
      have hlb := World.block_lt_of_cell? w _ c1
      have r1 := (hb.cell (p := ⟨b, off + k * 5, none⟩) hlb).trans c1
      have r2 := (hb.cell (p := ⟨b, off + k * 5 + 1, none⟩) hlb).trans c2
      have r3 := (hb.cell (p := ⟨b, off + k * 5 + 2, none⟩) hlb).trans c3
      have r4 := (hb.cell (p := ⟨b, off + k * 5 + 3, none⟩) hlb).trans c4
      have r5 := (hb.cell (p := ⟨b, off + k * 5 + 4, none⟩) hlb).trans c5
      have hcall := szNetEvent_any kd pa di ix da dl dc left wr hmem l0 l1
      clear c1 c2 c3 c4 c5 hc he hst
      by_cases hfit : (dl : Int) ≤ left
      · rw [if_pos hfit] at hcall
        have d2 : decide (left - (dl : Int) < 0) = false := by rw [decide_eq_false_iff_not]; omega
        go_wp2_with fail
        refine hcall.mono ?_
        rintro e w2 ⟨rfl, hb2⟩
        go_wp2
        go_roundw
        case rel => exact ⟨k + 1, left - (dl : Int), by omega, by go_num, rfl, by omega, by omega, by unfold Hid; rw [HST.out, HL.out]; omega, hb.trans (hb2.mono hb.size)⟩
        case measure => simp [intOf]; omega
      · rw [if_neg hfit] at hcall
        have e : r = -1 := by have h1 := HST.out; have h2 := HL.out; rcases HR.out with h | h <;> omega
        subst e
        go_wp2_with fail
        refine hcall.mono ?_
        rintro e w2 ⟨rfl, hb2⟩
        go_wp2
        go_ret
        exact ⟨rfl, hb.trans (hb2.mono hb.size)⟩
    · obtain rfl : k = n := by omega
      have e : left = r := by
        have h2 := HL.out
        rw [List.take_of_length_le (by have := HN.out; omega)] at h2
        rcases HR.out with h | h <;> omega
      subst e
      have hkk : ¬ (k : Int) < (k : Int) := by omega
      go_wp2
      go_ret
      exact ⟨rfl, hb⟩
end Go.Proofs.Ytkamdaadgndmbaa
