import Derived.Test.YtincfdhfoaimbaaSpSub
namespace Go.Proofs.Ytincfdhfoaimbaa
open Go.ChangeShapes Go.WideShapes Go.ChangeAt Go.RowKit
set_option linter.unusedVariables false

set_option maxHeartbeats 400000 in
theorem l4Clock_any (B base : Nat) (c : Cf) (s : St) (v : Value) (all : List Int) (w : World) (h : SpAt w B base c s v all) (hl : all.length ≤ 1000000) :
    Calls Try.prog 71 #[.pointer (some ⟨B, 0, none⟩)] w fun e w' => e = .returned (.tuple #[]) ∧ SpAt w' B base c (restartF c s) v all ∧ w'.heap.size = w.heap.size ∧ Mv w w' B none := by
  obtain ⟨⟨k0, k1, k2, k3, k4, k5, k6, k7, k8, k9, k10, k11, k12⟩, kf⟩ := cells13 h.blk
  have f8 := kf 8
  have f9 := kf 9
  have f10 := kf 10
  have hA : AtS w w.heap.size B base c s v all w := AtS.begin h (Nat.le_refl _)
  have hA3 := ((hA.rto c.rto).count 0).timer 0
  have hlo := l4Out_any B base c _ v all _ hA3.snd hl
  clear kf
  obtain ⟨N, hN⟩ : ∃ N, Hid (N = s.tags.length) := ⟨_, rfl⟩
  by_cases ht : s.tags = []
  · have hN0 : N = 0 := by rw [hN.out, ht]; rfl
    have hlo' : Calls Try.prog 53 #[.pointer (some ⟨B, 0, none⟩)] (((w.setCell ⟨B, 9, none⟩ (.int .i64 c.rto)).setCell ⟨B, 10, none⟩ (.int .i64 0)).setCell ⟨B, 8, none⟩ (.int .i64 0)) fun e w' => ∃ n, e = .returned (.int .i64 0) ∧ w' = (((w.setCell ⟨B, 9, none⟩ (.int .i64 c.rto)).setCell ⟨B, 10, none⟩ (.int .i64 0)).setCell ⟨B, 8, none⟩ (.int .i64 0)).drewN n := by
      refine hlo.mono ?_
      rintro e w' ⟨n, rfl, rfl⟩
      exact ⟨n, by simp [ht], rfl⟩
    go_enter Try.func71, Try.ntmps71
    go_wp2_with fail
    refine hlo'.mono ?_
    rintro e w2 ⟨n, rfl, rfl⟩
    go_wp2
    have hF := hA3.drewN n
    refine bodyPost_end (v := .tuple #[]) (by simp [results, Try.results71, go_sem]) rfl ⟨rfl, ?_, by simp, hF.mv⟩
    have e : restartF c s = { s with rto := c.rto, count := 0, timer := 0 } := by unfold restartF; rw [if_pos ht]
    rw [e]
    exact hF.snd
  · have hN1 : 0 < N := by rw [hN.out]; exact List.length_pos_iff.2 ht
    have hlo' : Calls Try.prog 53 #[.pointer (some ⟨B, 0, none⟩)] (((w.setCell ⟨B, 9, none⟩ (.int .i64 c.rto)).setCell ⟨B, 10, none⟩ (.int .i64 0)).setCell ⟨B, 8, none⟩ (.int .i64 0)) fun e w' => ∃ n, e = .returned (.int .i64 (N : Int)) ∧ w' = (((w.setCell ⟨B, 9, none⟩ (.int .i64 c.rto)).setCell ⟨B, 10, none⟩ (.int .i64 0)).setCell ⟨B, 8, none⟩ (.int .i64 0)).drewN n := by
      refine hlo.mono ?_
      rintro e w' ⟨n, rfl, rfl⟩
      exact ⟨n, by rw [hN.out], rfl⟩
    have hNi : (0 : Int) < (N : Int) := by omega
    go_enter Try.func71, Try.ntmps71
    go_wp2_with fail
    refine hlo'.mono ?_
    rintro e w2 ⟨n, rfl, rfl⟩
    go_wp2
    have hF := (hA3.drewN n).timer c.rto
    refine bodyPost_end (v := .tuple #[]) (by simp [results, Try.results71, go_sem]) rfl ⟨rfl, ?_, by simp, hF.mv⟩
    have e : restartF c s = { s with rto := c.rto, count := 0, timer := c.rto } := by unfold restartF; rw [if_neg ht]
    rw [e]
    exact hF.snd
end Go.Proofs.Ytincfdhfoaimbaa
