import Derived.Test.YtlagaiekoahjnaaPickTop
import Derived.Laws.EntriesVeiled
namespace Go.Proofs.Ytlagaiekoahjnaa
open Go.ChangeShapes Go.WideShapes Go.ChangeAt Go.RowKit
set_option linter.unusedVariables false

theorem policies_any (w : World) : Calls Try.prog 50 #[] w fun e w' => e = .returned (.slice (some ⟨w.heap.size, 0, none⟩) 4 4) ∧
    w'.cell? ⟨w.heap.size, 0, none⟩ = some (.int .i64 1) ∧ w'.cell? ⟨w.heap.size, 1, none⟩ = some (.func (.func 68) #[] #[]) ∧ w'.cell? ⟨w.heap.size, 2, none⟩ = some (.bool true) ∧
    w'.cell? ⟨w.heap.size, 3, none⟩ = some (.int .i64 2) ∧ w'.cell? ⟨w.heap.size, 4, none⟩ = some (.func (.func 69) #[] #[]) ∧ w'.cell? ⟨w.heap.size, 5, none⟩ = some (.bool false) ∧
    w'.cell? ⟨w.heap.size, 6, none⟩ = some (.int .i64 3) ∧ w'.cell? ⟨w.heap.size, 7, none⟩ = some (.func (.func 70) #[] #[]) ∧ w'.cell? ⟨w.heap.size, 8, none⟩ = some (.bool false) ∧
    w'.cell? ⟨w.heap.size, 9, none⟩ = some (.int .i64 4) ∧ w'.cell? ⟨w.heap.size, 10, none⟩ = some (.func (.func 71) #[] #[]) ∧ w'.cell? ⟨w.heap.size, 11, none⟩ = some (.bool false) ∧ Below w.heap.size w w' := by
  go_enter Try.func50, Try.ntmps50
  go_wp2
  go_ret
  exact ⟨rfl, by simp, by simp, by simp, by simp, by simp, by simp, by simp, by simp, by simp, by simp, by simp, by simp, (Below.refl _ _).alloc (Nat.le_refl _) _⟩

/-- What the method gives. -/
def PickAt (nm : Int) (F : Nat) (tr : Bool) (t k : Int) (V : Vws) (a : Option Addr) (cap : Nat) (B : Int) (T : List Int) (tn c : Int) : Prop :=
  ∀ (w : World), LieV w a V → Calls Try.prog 51 #[.agg #[.int .i64 nm, .func (.func F) #[] #[], .bool tr], .agg #[.int .i64 t, .int .i64 k, .slice a V.length cap, .int .i64 B]] w fun e w' => ∃ av cp, e = .returned (.tuple #[.slice av T.length cp, .int .i64 tn, .int .i64 c]) ∧
      w'.ownsRow w.heap.size 2 1 (.slice av T.length cp) T.length (T.map (.int .i64)) ∧ Below w.heap.size w w'

set_option maxRecDepth 100000 in
set_option maxHeartbeats 4000000 in
theorem implPick_1 (t k : Int) (V : Vws) (B : Int) (T : List Int) (tn c : Int) (h : ∀ a cap, PickAt 1 68 true t k V a cap B T tn c) : GivesP 20 1 t k V B T tn c := by
  intro a cap w hS hc hm hnone
  have H : Hid _ := h a cap
  clear h
  obtain ⟨W, hW⟩ : ∃ W, W = w.alloc (.cells #[.int .i64 t, .int .i64 k, .slice a V.length cap, .int .i64 B] 85) := ⟨_, rfl⟩
  have hbW : Below w.heap.size w W := by rw [hW]; exact (Below.refl _ _).alloc (Nat.le_refl _) _
  have z0 : W.cell? ⟨w.heap.size, 0, none⟩ = some (.int .i64 t) := by rw [hW]; simp
  have z1 : W.cell? ⟨w.heap.size, 1, none⟩ = some (.int .i64 k) := by rw [hW]; simp
  have z2 : W.cell? ⟨w.heap.size, 2, none⟩ = some (.slice a V.length cap) := by rw [hW]; simp
  have z3 : W.cell? ⟨w.heap.size, 3, none⟩ = some (.int .i64 B) := by rw [hW]; simp
  have sW := hbW.size
  have hSW := hS.moved hbW
  clear hS
  go_enter Try.func20, Try.ntmps20
  go_wp2_with fail
  rw [← hW]
  refine (policies_any _).mono ?_
  rintro e w1 ⟨rfl, p0, p1, p2, p3, p4, p5, p6, p7, p8, p9, p10, p11, hb1⟩
  have y0 := (hb1.cell (World.block_lt_of_cell? _ _ z0)).trans z0
  have y1 := (hb1.cell (World.block_lt_of_cell? _ _ z1)).trans z1
  have y2 := (hb1.cell (World.block_lt_of_cell? _ _ z2)).trans z2
  have y3 := (hb1.cell (World.block_lt_of_cell? _ _ z3)).trans z3
  have hS1 := hSW.moved hb1
  have hbw1 := hbW.trans (hb1.mono sW)
  clear hW z0 z1 z2 z3 hSW hb1
  go_wp2
  go_loopw [23] (fun i wr => ∃ q : Nat, q ≤ 0 ∧ i = .int .i64 q ∧ Below w1.heap.size w1 wr) (fun i _ => 5 - (intOf i).toNat)
  case atStart => exact ⟨0, Nat.zero_le _, rfl, Below.refl _ _⟩
  case round =>
    obtain ⟨q, hq, rfl, hb⟩ := hrel
    have sz := hb.size
    rcases (show q = 0 by omega) with rfl
    · have r0 := (hb.cell (World.block_lt_of_cell? _ _ p0)).trans p0
      have r1 := (hb.cell (World.block_lt_of_cell? _ _ p1)).trans p1
      have r2 := (hb.cell (World.block_lt_of_cell? _ _ p2)).trans p2
      have u0 := (hb.cell (World.block_lt_of_cell? _ _ y0)).trans y0
      have u1 := (hb.cell (World.block_lt_of_cell? _ _ y1)).trans y1
      have u2 := (hb.cell (World.block_lt_of_cell? _ _ y2)).trans y2
      have u3 := (hb.cell (World.block_lt_of_cell? _ _ y3)).trans y3
      have bl : w.heap.size < wr.heap.size := World.block_lt_of_cell? _ _ u0
      have bl2 : ¬ w.heap.size = wr.heap.size := by omega
      have bl3 : ¬ wr.heap.size = w.heap.size := by omega
      have hb2 : ∀ v, Below w.heap.size w (wr.alloc v) := fun v => hbw1.trans ((hb.alloc sz v).mono hbw1.size)
      have hS2 := hS1.moved (hb.alloc sz (.cells #[.int .i64 1, .func (.func 68) #[] #[], .bool true] 90))
      have s2 := (hb2 (.cells #[.int .i64 1, .func (.func 68) #[] #[], .bool true] 90)).size
      clear p0 p1 p2 p3 p4 p5 p6 p7 p8 p9 p10 p11 y0 y1 y2 y3 hS1 hbW
      go_wp2_with fail
      refine (H.out _ hS2).mono ?_
      rintro e w3 ⟨av, cp, rfl, ho, hb3⟩
      go_wp2
      go_ret3
      exact ⟨av, cp, rfl, owned_base ho s2, (hb2 _).trans (hb3.mono s2)⟩

set_option maxRecDepth 100000 in
set_option maxHeartbeats 4000000 in
theorem implPick_2 (t k : Int) (V : Vws) (B : Int) (T : List Int) (tn c : Int) (h : ∀ a cap, PickAt 2 69 false t k V a cap B T tn c) : GivesP 20 2 t k V B T tn c := by
  intro a cap w hS hc hm hnone
  have H : Hid _ := h a cap
  clear h
  obtain ⟨W, hW⟩ : ∃ W, W = w.alloc (.cells #[.int .i64 t, .int .i64 k, .slice a V.length cap, .int .i64 B] 85) := ⟨_, rfl⟩
  have hbW : Below w.heap.size w W := by rw [hW]; exact (Below.refl _ _).alloc (Nat.le_refl _) _
  have z0 : W.cell? ⟨w.heap.size, 0, none⟩ = some (.int .i64 t) := by rw [hW]; simp
  have z1 : W.cell? ⟨w.heap.size, 1, none⟩ = some (.int .i64 k) := by rw [hW]; simp
  have z2 : W.cell? ⟨w.heap.size, 2, none⟩ = some (.slice a V.length cap) := by rw [hW]; simp
  have z3 : W.cell? ⟨w.heap.size, 3, none⟩ = some (.int .i64 B) := by rw [hW]; simp
  have sW := hbW.size
  have hSW := hS.moved hbW
  clear hS
  go_enter Try.func20, Try.ntmps20
  go_wp2_with fail
  rw [← hW]
  refine (policies_any _).mono ?_
  rintro e w1 ⟨rfl, p0, p1, p2, p3, p4, p5, p6, p7, p8, p9, p10, p11, hb1⟩
  have y0 := (hb1.cell (World.block_lt_of_cell? _ _ z0)).trans z0
  have y1 := (hb1.cell (World.block_lt_of_cell? _ _ z1)).trans z1
  have y2 := (hb1.cell (World.block_lt_of_cell? _ _ z2)).trans z2
  have y3 := (hb1.cell (World.block_lt_of_cell? _ _ z3)).trans z3
  have hS1 := hSW.moved hb1
  have hbw1 := hbW.trans (hb1.mono sW)
  clear hW z0 z1 z2 z3 hSW hb1
  go_wp2
  go_loopw [23] (fun i wr => ∃ q : Nat, q ≤ 1 ∧ i = .int .i64 q ∧ Below w1.heap.size w1 wr) (fun i _ => 5 - (intOf i).toNat)
  case atStart => exact ⟨0, Nat.zero_le _, rfl, Below.refl _ _⟩
  case round =>
    obtain ⟨q, hq, rfl, hb⟩ := hrel
    have sz := hb.size
    rcases (show q = 0 ∨ q = 1 by omega) with rfl | rfl
    · have r0 := (hb.cell (World.block_lt_of_cell? _ _ p0)).trans p0
      have r1 := (hb.cell (World.block_lt_of_cell? _ _ p1)).trans p1
      have r2 := (hb.cell (World.block_lt_of_cell? _ _ p2)).trans p2
      clear p0 p1 p2 p3 p4 p5 p6 p7 p8 p9 p10 p11 y0 y1 y2 y3 hS1 hbw1 hbW
      go_wp2
      go_roundw
      case rel => exact ⟨1, by omega, by go_num, hb.alloc sz _⟩
      case measure => simp [intOf]
    · have r0 := (hb.cell (World.block_lt_of_cell? _ _ p3)).trans p3
      have r1 := (hb.cell (World.block_lt_of_cell? _ _ p4)).trans p4
      have r2 := (hb.cell (World.block_lt_of_cell? _ _ p5)).trans p5
      have u0 := (hb.cell (World.block_lt_of_cell? _ _ y0)).trans y0
      have u1 := (hb.cell (World.block_lt_of_cell? _ _ y1)).trans y1
      have u2 := (hb.cell (World.block_lt_of_cell? _ _ y2)).trans y2
      have u3 := (hb.cell (World.block_lt_of_cell? _ _ y3)).trans y3
      have bl : w.heap.size < wr.heap.size := World.block_lt_of_cell? _ _ u0
      have bl2 : ¬ w.heap.size = wr.heap.size := by omega
      have bl3 : ¬ wr.heap.size = w.heap.size := by omega
      have hb2 : ∀ v, Below w.heap.size w (wr.alloc v) := fun v => hbw1.trans ((hb.alloc sz v).mono hbw1.size)
      have hS2 := hS1.moved (hb.alloc sz (.cells #[.int .i64 2, .func (.func 69) #[] #[], .bool false] 90))
      have s2 := (hb2 (.cells #[.int .i64 2, .func (.func 69) #[] #[], .bool false] 90)).size
      clear p0 p1 p2 p3 p4 p5 p6 p7 p8 p9 p10 p11 y0 y1 y2 y3 hS1 hbW
      go_wp2_with fail
      refine (H.out _ hS2).mono ?_
      rintro e w3 ⟨av, cp, rfl, ho, hb3⟩
      go_wp2
      go_ret3
      exact ⟨av, cp, rfl, owned_base ho s2, (hb2 _).trans (hb3.mono s2)⟩

set_option maxRecDepth 100000 in
set_option maxHeartbeats 4000000 in
theorem implPick_3 (t k : Int) (V : Vws) (B : Int) (T : List Int) (tn c : Int) (h : ∀ a cap, PickAt 3 70 false t k V a cap B T tn c) : GivesP 20 3 t k V B T tn c := by
  intro a cap w hS hc hm hnone
  have H : Hid _ := h a cap
  clear h
  obtain ⟨W, hW⟩ : ∃ W, W = w.alloc (.cells #[.int .i64 t, .int .i64 k, .slice a V.length cap, .int .i64 B] 85) := ⟨_, rfl⟩
  have hbW : Below w.heap.size w W := by rw [hW]; exact (Below.refl _ _).alloc (Nat.le_refl _) _
  have z0 : W.cell? ⟨w.heap.size, 0, none⟩ = some (.int .i64 t) := by rw [hW]; simp
  have z1 : W.cell? ⟨w.heap.size, 1, none⟩ = some (.int .i64 k) := by rw [hW]; simp
  have z2 : W.cell? ⟨w.heap.size, 2, none⟩ = some (.slice a V.length cap) := by rw [hW]; simp
  have z3 : W.cell? ⟨w.heap.size, 3, none⟩ = some (.int .i64 B) := by rw [hW]; simp
  have sW := hbW.size
  have hSW := hS.moved hbW
  clear hS
  go_enter Try.func20, Try.ntmps20
  go_wp2_with fail
  rw [← hW]
  refine (policies_any _).mono ?_
  rintro e w1 ⟨rfl, p0, p1, p2, p3, p4, p5, p6, p7, p8, p9, p10, p11, hb1⟩
  have y0 := (hb1.cell (World.block_lt_of_cell? _ _ z0)).trans z0
  have y1 := (hb1.cell (World.block_lt_of_cell? _ _ z1)).trans z1
  have y2 := (hb1.cell (World.block_lt_of_cell? _ _ z2)).trans z2
  have y3 := (hb1.cell (World.block_lt_of_cell? _ _ z3)).trans z3
  have hS1 := hSW.moved hb1
  have hbw1 := hbW.trans (hb1.mono sW)
  clear hW z0 z1 z2 z3 hSW hb1
  go_wp2
  go_loopw [23] (fun i wr => ∃ q : Nat, q ≤ 2 ∧ i = .int .i64 q ∧ Below w1.heap.size w1 wr) (fun i _ => 5 - (intOf i).toNat)
  case atStart => exact ⟨0, Nat.zero_le _, rfl, Below.refl _ _⟩
  case round =>
    obtain ⟨q, hq, rfl, hb⟩ := hrel
    have sz := hb.size
    rcases (show q = 0 ∨ q = 1 ∨ q = 2 by omega) with rfl | rfl | rfl
    · have r0 := (hb.cell (World.block_lt_of_cell? _ _ p0)).trans p0
      have r1 := (hb.cell (World.block_lt_of_cell? _ _ p1)).trans p1
      have r2 := (hb.cell (World.block_lt_of_cell? _ _ p2)).trans p2
      clear p0 p1 p2 p3 p4 p5 p6 p7 p8 p9 p10 p11 y0 y1 y2 y3 hS1 hbw1 hbW
      go_wp2
      go_roundw
      case rel => exact ⟨1, by omega, by go_num, hb.alloc sz _⟩
      case measure => simp [intOf]
    · have r0 := (hb.cell (World.block_lt_of_cell? _ _ p3)).trans p3
      have r1 := (hb.cell (World.block_lt_of_cell? _ _ p4)).trans p4
      have r2 := (hb.cell (World.block_lt_of_cell? _ _ p5)).trans p5
      clear p0 p1 p2 p3 p4 p5 p6 p7 p8 p9 p10 p11 y0 y1 y2 y3 hS1 hbw1 hbW
      go_wp2
      go_roundw
      case rel => exact ⟨2, by omega, by go_num, hb.alloc sz _⟩
      case measure => simp [intOf]
    · have r0 := (hb.cell (World.block_lt_of_cell? _ _ p6)).trans p6
      have r1 := (hb.cell (World.block_lt_of_cell? _ _ p7)).trans p7
      have r2 := (hb.cell (World.block_lt_of_cell? _ _ p8)).trans p8
      have u0 := (hb.cell (World.block_lt_of_cell? _ _ y0)).trans y0
      have u1 := (hb.cell (World.block_lt_of_cell? _ _ y1)).trans y1
      have u2 := (hb.cell (World.block_lt_of_cell? _ _ y2)).trans y2
      have u3 := (hb.cell (World.block_lt_of_cell? _ _ y3)).trans y3
      have bl : w.heap.size < wr.heap.size := World.block_lt_of_cell? _ _ u0
      have bl2 : ¬ w.heap.size = wr.heap.size := by omega
      have bl3 : ¬ wr.heap.size = w.heap.size := by omega
      have hb2 : ∀ v, Below w.heap.size w (wr.alloc v) := fun v => hbw1.trans ((hb.alloc sz v).mono hbw1.size)
      have hS2 := hS1.moved (hb.alloc sz (.cells #[.int .i64 3, .func (.func 70) #[] #[], .bool false] 90))
      have s2 := (hb2 (.cells #[.int .i64 3, .func (.func 70) #[] #[], .bool false] 90)).size
      clear p0 p1 p2 p3 p4 p5 p6 p7 p8 p9 p10 p11 y0 y1 y2 y3 hS1 hbW
      go_wp2_with fail
      refine (H.out _ hS2).mono ?_
      rintro e w3 ⟨av, cp, rfl, ho, hb3⟩
      go_wp2
      go_ret3
      exact ⟨av, cp, rfl, owned_base ho s2, (hb2 _).trans (hb3.mono s2)⟩

set_option maxRecDepth 100000 in
set_option maxHeartbeats 4000000 in
theorem implPick_4 (t k : Int) (V : Vws) (B : Int) (T : List Int) (tn c : Int) (h : ∀ a cap, PickAt 4 71 false t k V a cap B T tn c) : GivesP 20 4 t k V B T tn c := by
  intro a cap w hS hc hm hnone
  have H : Hid _ := h a cap
  clear h
  obtain ⟨W, hW⟩ : ∃ W, W = w.alloc (.cells #[.int .i64 t, .int .i64 k, .slice a V.length cap, .int .i64 B] 85) := ⟨_, rfl⟩
  have hbW : Below w.heap.size w W := by rw [hW]; exact (Below.refl _ _).alloc (Nat.le_refl _) _
  have z0 : W.cell? ⟨w.heap.size, 0, none⟩ = some (.int .i64 t) := by rw [hW]; simp
  have z1 : W.cell? ⟨w.heap.size, 1, none⟩ = some (.int .i64 k) := by rw [hW]; simp
  have z2 : W.cell? ⟨w.heap.size, 2, none⟩ = some (.slice a V.length cap) := by rw [hW]; simp
  have z3 : W.cell? ⟨w.heap.size, 3, none⟩ = some (.int .i64 B) := by rw [hW]; simp
  have sW := hbW.size
  have hSW := hS.moved hbW
  clear hS
  go_enter Try.func20, Try.ntmps20
  go_wp2_with fail
  rw [← hW]
  refine (policies_any _).mono ?_
  rintro e w1 ⟨rfl, p0, p1, p2, p3, p4, p5, p6, p7, p8, p9, p10, p11, hb1⟩
  have y0 := (hb1.cell (World.block_lt_of_cell? _ _ z0)).trans z0
  have y1 := (hb1.cell (World.block_lt_of_cell? _ _ z1)).trans z1
  have y2 := (hb1.cell (World.block_lt_of_cell? _ _ z2)).trans z2
  have y3 := (hb1.cell (World.block_lt_of_cell? _ _ z3)).trans z3
  have hS1 := hSW.moved hb1
  have hbw1 := hbW.trans (hb1.mono sW)
  clear hW z0 z1 z2 z3 hSW hb1
  go_wp2
  go_loopw [23] (fun i wr => ∃ q : Nat, q ≤ 3 ∧ i = .int .i64 q ∧ Below w1.heap.size w1 wr) (fun i _ => 5 - (intOf i).toNat)
  case atStart => exact ⟨0, Nat.zero_le _, rfl, Below.refl _ _⟩
  case round =>
    obtain ⟨q, hq, rfl, hb⟩ := hrel
    have sz := hb.size
    rcases (show q = 0 ∨ q = 1 ∨ q = 2 ∨ q = 3 by omega) with rfl | rfl | rfl | rfl
    · have r0 := (hb.cell (World.block_lt_of_cell? _ _ p0)).trans p0
      have r1 := (hb.cell (World.block_lt_of_cell? _ _ p1)).trans p1
      have r2 := (hb.cell (World.block_lt_of_cell? _ _ p2)).trans p2
      clear p0 p1 p2 p3 p4 p5 p6 p7 p8 p9 p10 p11 y0 y1 y2 y3 hS1 hbw1 hbW
      go_wp2
      go_roundw
      case rel => exact ⟨1, by omega, by go_num, hb.alloc sz _⟩
      case measure => simp [intOf]
    · have r0 := (hb.cell (World.block_lt_of_cell? _ _ p3)).trans p3
      have r1 := (hb.cell (World.block_lt_of_cell? _ _ p4)).trans p4
      have r2 := (hb.cell (World.block_lt_of_cell? _ _ p5)).trans p5
      clear p0 p1 p2 p3 p4 p5 p6 p7 p8 p9 p10 p11 y0 y1 y2 y3 hS1 hbw1 hbW
      go_wp2
      go_roundw
      case rel => exact ⟨2, by omega, by go_num, hb.alloc sz _⟩
      case measure => simp [intOf]
    · have r0 := (hb.cell (World.block_lt_of_cell? _ _ p6)).trans p6
      have r1 := (hb.cell (World.block_lt_of_cell? _ _ p7)).trans p7
      have r2 := (hb.cell (World.block_lt_of_cell? _ _ p8)).trans p8
      clear p0 p1 p2 p3 p4 p5 p6 p7 p8 p9 p10 p11 y0 y1 y2 y3 hS1 hbw1 hbW
      go_wp2
      go_roundw
      case rel => exact ⟨3, by omega, by go_num, hb.alloc sz _⟩
      case measure => simp [intOf]
    · have r0 := (hb.cell (World.block_lt_of_cell? _ _ p9)).trans p9
      have r1 := (hb.cell (World.block_lt_of_cell? _ _ p10)).trans p10
      have r2 := (hb.cell (World.block_lt_of_cell? _ _ p11)).trans p11
      have u0 := (hb.cell (World.block_lt_of_cell? _ _ y0)).trans y0
      have u1 := (hb.cell (World.block_lt_of_cell? _ _ y1)).trans y1
      have u2 := (hb.cell (World.block_lt_of_cell? _ _ y2)).trans y2
      have u3 := (hb.cell (World.block_lt_of_cell? _ _ y3)).trans y3
      have bl : w.heap.size < wr.heap.size := World.block_lt_of_cell? _ _ u0
      have bl2 : ¬ w.heap.size = wr.heap.size := by omega
      have bl3 : ¬ wr.heap.size = w.heap.size := by omega
      have hb2 : ∀ v, Below w.heap.size w (wr.alloc v) := fun v => hbw1.trans ((hb.alloc sz v).mono hbw1.size)
      have hS2 := hS1.moved (hb.alloc sz (.cells #[.int .i64 4, .func (.func 71) #[] #[], .bool false] 90))
      have s2 := (hb2 (.cells #[.int .i64 4, .func (.func 71) #[] #[], .bool false] 90)).size
      clear p0 p1 p2 p3 p4 p5 p6 p7 p8 p9 p10 p11 y0 y1 y2 y3 hS1 hbW
      go_wp2_with fail
      refine (H.out _ hS2).mono ?_
      rintro e w3 ⟨av, cp, rfl, ho, hb3⟩
      go_wp2
      go_ret3
      exact ⟨av, cp, rfl, owned_base ho s2, (hb2 _).trans (hb3.mono s2)⟩

set_option maxRecDepth 100000 in
set_option maxHeartbeats 4000000 in
theorem implPick_cfg (p t k : Int) (V : Vws) (B : Int) (hp : ¬ (1 ≤ p ∧ p ≤ 4)) : GivesP 20 p t k V B [] 0 17 := by
  intro a cap w hS hc hm hnone
  obtain ⟨W, hW⟩ : ∃ W, W = w.alloc (.cells #[.int .i64 t, .int .i64 k, .slice a V.length cap, .int .i64 B] 85) := ⟨_, rfl⟩
  have hbW : Below w.heap.size w W := by rw [hW]; exact (Below.refl _ _).alloc (Nat.le_refl _) _
  have z0 : W.cell? ⟨w.heap.size, 0, none⟩ = some (.int .i64 t) := by rw [hW]; simp
  have z1 : W.cell? ⟨w.heap.size, 1, none⟩ = some (.int .i64 k) := by rw [hW]; simp
  have z2 : W.cell? ⟨w.heap.size, 2, none⟩ = some (.slice a V.length cap) := by rw [hW]; simp
  have z3 : W.cell? ⟨w.heap.size, 3, none⟩ = some (.int .i64 B) := by rw [hW]; simp
  have sW := hbW.size
  have hSW := hS.moved hbW
  clear hS
  go_enter Try.func20, Try.ntmps20
  go_wp2_with fail
  rw [← hW]
  refine (policies_any _).mono ?_
  rintro e w1 ⟨rfl, p0, p1, p2, p3, p4, p5, p6, p7, p8, p9, p10, p11, hb1⟩
  have y0 := (hb1.cell (World.block_lt_of_cell? _ _ z0)).trans z0
  have y1 := (hb1.cell (World.block_lt_of_cell? _ _ z1)).trans z1
  have y2 := (hb1.cell (World.block_lt_of_cell? _ _ z2)).trans z2
  have y3 := (hb1.cell (World.block_lt_of_cell? _ _ z3)).trans z3
  have hS1 := hSW.moved hb1
  have hbw1 := hbW.trans (hb1.mono sW)
  clear hW z0 z1 z2 z3 hSW hb1
  go_wp2
  go_loopw [23] (fun i wr => ∃ q : Nat, q ≤ 4 ∧ i = .int .i64 q ∧ Below w1.heap.size w1 wr) (fun i _ => 5 - (intOf i).toNat)
  case atStart => exact ⟨0, Nat.zero_le _, rfl, Below.refl _ _⟩
  case round =>
    obtain ⟨q, hq, rfl, hb⟩ := hrel
    have sz := hb.size
    rcases (show q = 0 ∨ q = 1 ∨ q = 2 ∨ q = 3 ∨ q = 4 by omega) with rfl | rfl | rfl | rfl | rfl
    · have r0 := (hb.cell (World.block_lt_of_cell? _ _ p0)).trans p0
      have r1 := (hb.cell (World.block_lt_of_cell? _ _ p1)).trans p1
      have r2 := (hb.cell (World.block_lt_of_cell? _ _ p2)).trans p2
      have ne : ¬ (1 : Int) = p := by omega
      have ne2 : ((1 : Int) == p) = false := by simpa using ne
      clear p0 p1 p2 p3 p4 p5 p6 p7 p8 p9 p10 p11 y0 y1 y2 y3 hS1 hbw1 hbW
      go_wp2
      go_roundw
      case rel => exact ⟨1, by omega, by go_num, hb.alloc sz _⟩
      case measure => simp [intOf]
    · have r0 := (hb.cell (World.block_lt_of_cell? _ _ p3)).trans p3
      have r1 := (hb.cell (World.block_lt_of_cell? _ _ p4)).trans p4
      have r2 := (hb.cell (World.block_lt_of_cell? _ _ p5)).trans p5
      have ne : ¬ (2 : Int) = p := by omega
      have ne2 : ((2 : Int) == p) = false := by simpa using ne
      clear p0 p1 p2 p3 p4 p5 p6 p7 p8 p9 p10 p11 y0 y1 y2 y3 hS1 hbw1 hbW
      go_wp2
      go_roundw
      case rel => exact ⟨2, by omega, by go_num, hb.alloc sz _⟩
      case measure => simp [intOf]
    · have r0 := (hb.cell (World.block_lt_of_cell? _ _ p6)).trans p6
      have r1 := (hb.cell (World.block_lt_of_cell? _ _ p7)).trans p7
      have r2 := (hb.cell (World.block_lt_of_cell? _ _ p8)).trans p8
      have ne : ¬ (3 : Int) = p := by omega
      have ne2 : ((3 : Int) == p) = false := by simpa using ne
      clear p0 p1 p2 p3 p4 p5 p6 p7 p8 p9 p10 p11 y0 y1 y2 y3 hS1 hbw1 hbW
      go_wp2
      go_roundw
      case rel => exact ⟨3, by omega, by go_num, hb.alloc sz _⟩
      case measure => simp [intOf]
    · have r0 := (hb.cell (World.block_lt_of_cell? _ _ p9)).trans p9
      have r1 := (hb.cell (World.block_lt_of_cell? _ _ p10)).trans p10
      have r2 := (hb.cell (World.block_lt_of_cell? _ _ p11)).trans p11
      have ne : ¬ (4 : Int) = p := by omega
      have ne2 : ((4 : Int) == p) = false := by simpa using ne
      clear p0 p1 p2 p3 p4 p5 p6 p7 p8 p9 p10 p11 y0 y1 y2 y3 hS1 hbw1 hbW
      go_wp2
      go_roundw
      case rel => exact ⟨4, by omega, by go_num, hb.alloc sz _⟩
      case measure => simp [intOf]
    · go_wp2
      go_ret3
      exact ⟨none, 0, rfl, World.ownsRow_nil _ _ _ _, hbw1.trans (hb.mono hbw1.size)⟩
end Go.Proofs.Ytlagaiekoahjnaa
