import Derived.Test.YtincfdhfoaimbaaSpSend
namespace Go.Proofs.Ytincfdhfoaimbaa
open Go.ChangeShapes Go.WideShapes Go.ChangeAt Go.RowKit
set_option linter.unusedVariables false

/-- Of the numbers looked at, just one can be the one that is asked for. -/
theorem far_hit (c : Cf) (s : St) (x : Int) (x0 : 0 ≤ x) (x1 : x ≤ 4294967295) (j : Nat) (hj : j ≤ 2000000) : (c.isn + ((s.done + j : Nat) : Int)) % 4294967296 = x ↔ j = farF c s x := by
  unfold farF seqOf
  constructor
  · intro h
    omega
  · intro h
    omega
/-- What the look for the number has found among the first j. -/
def foundF (c : Cf) (s : St) (x : Int) (j : Nat) : Int := if farF c s x < j then ((s.done + farF c s x : Nat) : Int) else -1
theorem foundF_succ_hit (c : Cf) (s : St) (x : Int) (j : Nat) (h : j = farF c s x) : foundF c s x (j + 1) = ((s.done + j : Nat) : Int) := by
  unfold foundF
  rw [if_pos (by omega), h]
theorem foundF_succ_miss (c : Cf) (s : St) (x : Int) (j : Nat) (h : j ≠ farF c s x) : foundF c s x (j + 1) = foundF c s x j := by
  unfold foundF
  by_cases h1 : farF c s x < j
  · rw [if_pos (by omega), if_pos h1]
  · rw [if_neg (by omega), if_neg h1]

set_option maxHeartbeats 1000000 in
set_option maxRecDepth 100000 in
theorem l4Ack_stale (B base : Nat) (c : Cf) (s : St) (v : Value) (all : List Int) (w : World) (h : SpAt w B base c s v all) (hl : all.length ≤ 1000000) (x : Int) (x0 : 0 ≤ x) (x1 : x ≤ 4294967295) (hf : s.tags.length < farF c s x) :
    Calls Try.prog 66 #[.pointer (some ⟨B, 0, none⟩), .int .u32 x] w (StepsToS w B base c v (hearF c s x)) := by
  have hQ : hearF c s x = (⟨11, [], [], 0, 0⟩, s) := by unfold hearF; rw [if_pos hf]
  rw [hQ]
  obtain ⟨⟨k0, k1, k2, k3, k4, k5, k6, k7, k8, k9, k10, k11, k12⟩, kf⟩ := cells13 h.blk
  obtain ⟨a, cap, hv, h1, h2, h3, hi⟩ := h.row.shape
  have hB := h.lt
  have hA : AtS w w.heap.size B base c s v all w := AtS.begin h (Nat.le_refl _)
  obtain ⟨L, hL⟩ : ∃ L, Hid (L = all.length) := ⟨_, rfl⟩
  obtain ⟨m, hm⟩ : ∃ m, Hid (m = s.tags.length) := ⟨_, rfl⟩
  have HLM : Hid (L = s.done + m) := by unfold Hid; rw [hL.out, hm.out]; exact h.len
  have hL5 : L ≤ 1000000 := by rw [hL.out]; exact hl
  rw [hv, ← hL.out] at k6
  rw [← hm.out] at hf
  have HFM : Hid (m < farF c s x) := hf
  clear kf hQ hv h1 hi hf
  have l2 : B < w.heap.size + 1 := by omega
  have n1 : ¬ B = w.heap.size := by omega
  have n4 : ¬ w.heap.size = B := by omega
  have hd5 : s.done ≤ 1000000 := by have := HLM.out; omega
  go_enter Try.func66, Try.ntmps66
  go_wp2
  go_loop [5, 6] (fun kk i => ∃ j : Nat, j ≤ m + 1 ∧ i = .int .i64 ((s.done + j : Nat) : Int) ∧ kk = .int .i64 (-1)) (fun _ i => L + 1 - (intOf i).toNat)
  case atStart => exact ⟨0, by omega, by simp, rfl⟩
  case round =>
    obtain ⟨j, hj, rfl, rfl⟩ := hrel
    by_cases hlt : j ≤ m
    · have hmiss : ¬ (c.isn + ((s.done + j : Nat) : Int)) % 4294967296 = x := fun e => by have := (far_hit c s x x0 x1 j (by have := HLM.out; omega)).1 e; have := HFM.out; omega
      obtain ⟨D, hD⟩ : ∃ D, D = s.done + j := ⟨_, rfl⟩
      have HDD : Hid (D = s.done + j) := hD
      have hDL : (D : Int) ≤ (L : Int) := by have := HLM.out; omega
      have hDb : D ≤ 1000000 := by omega
      rw [← hD] at hmiss ⊢
      have hmb : ((c.isn + (D : Int)) % 4294967296 == x) = false := by simpa using hmiss
      clear hD
      go_wp2
      go_round
      case rel => exact ⟨j + 1, by omega, by rw [HDD.out]; go_num, rfl⟩
      case measure => simp [intOf]; omega
    · have hge : ¬ ((s.done + j : Nat) : Int) ≤ (L : Int) := by have := HLM.out; omega
      obtain ⟨D, hD⟩ : ∃ D, D = s.done + j := ⟨_, rfl⟩
      rw [← hD] at hge ⊢
      clear hD
      go_wp2
      exact bodyPost_ret (v := .agg #[.int .i64 11, .slice none 0 0, .slice none 0 0, .int .i64 0, .int .i64 0]) (by simp [results, Try.results66, go_sem]) rfl ((hA.alloc _).plain rfl rfl rfl rfl)
end Go.Proofs.Ytincfdhfoaimbaa
