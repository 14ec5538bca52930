import Derived.Test.YtlagaiekoahjnaaPickChoose
import Derived.Test.YtlagaiekoahjnaaMapQueue
namespace Go.Proofs.Ytlagaiekoahjnaa
open Go.ChangeShapes Go.WideShapes Go.ChangeAt Go.RowKit
set_option linter.unusedVariables false

/-- The turn that comes of a choice. -/
def turnOf (tr : Bool) (t : Int) (n : Nat) (ch : List Nat) : Int := if tr = true ∧ ch ≠ [] then ((ch.headD 0 : Int) + 1) % n else t

set_option maxRecDepth 100000 in
set_option maxHeartbeats 2000000 in
theorem pick_path (nm : Int) (F : Nat) (tr : Bool) (t k : Int) (V : Vws) (a : Option Addr) (cap : Nat) (B : Int) (w : World) (hS : LieV w a V) (hf : FitsV V) (hm : V.length ≤ 9223372036854775807) (h : ¬ ((1 ≤ V.length ∧ V.length ≤ 8) ∧ ValidV V)) :
    Calls Try.prog 51 #[.agg #[.int .i64 nm, .func (.func F) #[] #[], .bool tr], .agg #[.int .i64 t, .int .i64 k, .slice a V.length cap, .int .i64 B]] w fun e w' => e = .returned (.tuple #[.slice none 0 0, .int .i64 0, .int .i64 6]) ∧ Below w.heap.size w w' := by
  have hbW : Below w.heap.size w ((w.alloc (.cells #[.int .i64 nm, .func (.func F) #[] #[], .bool tr] 90)).alloc (.cells #[.int .i64 t, .int .i64 k, .slice a V.length cap, .int .i64 B] 85)) := ((Below.refl _ _).alloc (Nat.le_refl _) _).alloc (by simp) _
  have hSW := hS.moved hbW
  have sW := hbW.size
  go_enter Try.func51, Try.ntmps51
  go_wp2_with fail
  refine (implPathsOK a V cap _ hSW hf hm).mono ?_
  rintro e w1 ⟨b, rfl, hiff, hb1⟩
  obtain rfl : b = false := by cases b; rfl; exact absurd (hiff.1 rfl) h
  clear hiff h hf hS hSW
  go_wp2
  go_ret3
  exact ⟨rfl, hbW.trans (hb1.mono sW)⟩

set_option maxRecDepth 100000 in
set_option maxHeartbeats 2000000 in
theorem pick_range (nm : Int) (F : Nat) (tr : Bool) (t k : Int) (V : Vws) (a : Option Addr) (cap : Nat) (B : Int) (w : World) (hS : LieV w a V) (hf : FitsV V) (hv : (1 ≤ V.length ∧ V.length ≤ 8) ∧ ValidV V) (h : ¬ ((0 ≤ t ∧ t < V.length) ∧ 0 ≤ B ∧ B ≤ 255)) :
    Calls Try.prog 51 #[.agg #[.int .i64 nm, .func (.func F) #[] #[], .bool tr], .agg #[.int .i64 t, .int .i64 k, .slice a V.length cap, .int .i64 B]] w fun e w' => e = .returned (.tuple #[.slice none 0 0, .int .i64 0, .int .i64 4]) ∧ Below w.heap.size w w' := by
  obtain ⟨W, hW⟩ : ∃ W, W = (w.alloc (.cells #[.int .i64 nm, .func (.func F) #[] #[], .bool tr] 90)).alloc (.cells #[.int .i64 t, .int .i64 k, .slice a V.length cap, .int .i64 B] 85) := ⟨_, rfl⟩
  have hbW : Below w.heap.size w W := by rw [hW]; exact ((Below.refl _ _).alloc (Nat.le_refl _) _).alloc (by simp) _
  have z0 : W.cell? ⟨w.heap.size + 1, 0, none⟩ = some (.int .i64 t) := by rw [hW]; simp
  have z2 : W.cell? ⟨w.heap.size + 1, 2, none⟩ = some (.slice a V.length cap) := by rw [hW]; simp
  have z3 : W.cell? ⟨w.heap.size + 1, 3, none⟩ = some (.int .i64 B) := by rw [hW]; simp
  have hSW := hS.moved hbW
  have sW := hbW.size
  have l8 : (V.length : Int) ≤ 8 := by omega
  have l1 : 1 ≤ (V.length : Int) := by omega
  go_enter Try.func51, Try.ntmps51
  go_wp2_with fail
  rw [← hW]
  refine (implPathsOK a V cap _ hSW hf (by omega)).mono ?_
  rintro e w1 ⟨b, rfl, hiff, hb1⟩
  obtain rfl : b = true := hiff.2 hv
  have z0' := (hb1.cell (World.block_lt_of_cell? _ _ z0)).trans z0
  have z2' := (hb1.cell (World.block_lt_of_cell? _ _ z2)).trans z2
  have z3' := (hb1.cell (World.block_lt_of_cell? _ _ z3)).trans z3
  clear hiff hv hf hS hSW hW z0 z2 z3
  by_cases ht : 0 ≤ t ∧ t ≤ (V.length : Int) - 1
  · have hB : ¬ (0 ≤ B ∧ B ≤ 255) := fun hB => h ⟨⟨ht.1, by omega⟩, hB⟩
    clear h
    go_wp2_with fail
    refine (within_yes _ _ _ _ ht.1 ht.2).mono ?_
    rintro e w3 ⟨rfl, rfl⟩
    go_wp2_with fail
    refine (pathSet_no B _ hB).mono ?_
    rintro e w4 ⟨rfl, rfl⟩
    go_wp2
    go_ret3
    exact ⟨rfl, hbW.trans (hb1.mono sW)⟩
  · clear h
    go_wp2_with (go_at_call 65; refine (within_no _ _ _ _ ht).mono ?_; rintro e w3 ⟨rfl, hw3⟩; obtain rfl := hw3)
    go_ret3
    exact ⟨rfl, hbW.trans (hb1.mono sW)⟩

set_option maxRecDepth 100000 in
set_option maxHeartbeats 4000000 in
theorem pick_ok (nm : Int) (F : Nat) (tr : Bool) (r : Nat → Int) (t k : Int) (V : Vws) (a : Option Addr) (cap B : Nat) (w : World) (hS : LieV w a V) (hf : FitsV V) (hv : (1 ≤ V.length ∧ V.length ≤ 8) ∧ ValidV V) (ht : 0 ≤ t ∧ t < V.length) (hB : B < 256) (hC : Chooses F r t k V a cap B) :
    Calls Try.prog 51 #[.agg #[.int .i64 nm, .func (.func F) #[] #[], .bool tr], .agg #[.int .i64 t, .int .i64 k, .slice a V.length cap, .int .i64 (B : Int)]] w fun e w' => ∃ av cp ch x, e = .returned (.tuple #[.slice av ch.length cp, .int .i64 (turnOf tr t V.length ch), .int .i64 0]) ∧ Best r (elig V B V.length) ch x ∧
      w'.ownsRow w.heap.size 2 1 (.slice av ch.length cp) ch.length ((nums ch).map (.int .i64)) ∧ Below w.heap.size w w' := by
  obtain ⟨W, hW⟩ : ∃ W, W = (w.alloc (.cells #[.int .i64 nm, .func (.func F) #[] #[], .bool tr] 90)).alloc (.cells #[.int .i64 t, .int .i64 k, .slice a V.length cap, .int .i64 (B : Int)] 85) := ⟨_, rfl⟩
  have hbW : Below w.heap.size w W := by rw [hW]; exact ((Below.refl _ _).alloc (Nat.le_refl _) _).alloc (by simp) _
  have y0 : W.cell? ⟨w.heap.size, 0, none⟩ = some (.int .i64 nm) := by rw [hW]; simp
  have y1 : W.cell? ⟨w.heap.size, 1, none⟩ = some (.func (.func F) #[] #[]) := by rw [hW]; simp
  have y2 : W.cell? ⟨w.heap.size, 2, none⟩ = some (.bool tr) := by rw [hW]; simp
  have z0 : W.cell? ⟨w.heap.size + 1, 0, none⟩ = some (.int .i64 t) := by rw [hW]; simp
  have z1 : W.cell? ⟨w.heap.size + 1, 1, none⟩ = some (.int .i64 k) := by rw [hW]; simp
  have z2 : W.cell? ⟨w.heap.size + 1, 2, none⟩ = some (.slice a V.length cap) := by rw [hW]; simp
  have z3 : W.cell? ⟨w.heap.size + 1, 3, none⟩ = some (.int .i64 (B : Int)) := by rw [hW]; simp
  have hSW := hS.moved hbW
  have sW := hbW.size
  have l8 : (V.length : Int) ≤ 8 := by omega
  have l1 : 1 ≤ (V.length : Int) := by omega
  have HC : Hid _ := hC
  clear hC
  go_enter Try.func51, Try.ntmps51
  go_wp2_with fail
  rw [← hW]
  refine (implPathsOK a V cap _ hSW hf (by omega)).mono ?_
  rintro e w1 ⟨b, rfl, hiff, hb1⟩
  obtain rfl : b = true := hiff.2 hv
  have y0' := (hb1.cell (World.block_lt_of_cell? _ _ y0)).trans y0
  have y1' := (hb1.cell (World.block_lt_of_cell? _ _ y1)).trans y1
  have y2' := (hb1.cell (World.block_lt_of_cell? _ _ y2)).trans y2
  have z0' := (hb1.cell (World.block_lt_of_cell? _ _ z0)).trans z0
  have z1' := (hb1.cell (World.block_lt_of_cell? _ _ z1)).trans z1
  have z2' := (hb1.cell (World.block_lt_of_cell? _ _ z2)).trans z2
  have z3' := (hb1.cell (World.block_lt_of_cell? _ _ z3)).trans z3
  have hS1 := hSW.moved hb1
  have hbw1 := hbW.trans (hb1.mono sW)
  clear hiff hf hS hSW hW y0 y1 y2 z0 z1 z2 z3 hb1
  have ht' : 0 ≤ t ∧ t ≤ (V.length : Int) - 1 := by omega
  have hB' : 0 ≤ (B : Int) ∧ (B : Int) ≤ 255 := by omega
  go_wp2_with fail
  refine (within_yes _ _ _ _ ht'.1 ht'.2).mono ?_
  rintro e w3 ⟨rfl, rfl⟩
  go_wp2_with fail
  refine (pathSet_yes (B : Int) _ hB').mono ?_
  rintro e w5 ⟨rfl, rfl⟩
  go_wp2_with fail
  refine (HC.out nm tr _ hS1).mono ?_
  rintro e w4 ⟨av, cp, ch, x, rfl, hbest, ho, hb4⟩
  have y2'' := (hb4.cell (World.block_lt_of_cell? _ _ y2')).trans y2'
  have z0'' := (hb4.cell (World.block_lt_of_cell? _ _ z0')).trans z0'
  have z2'' := (hb4.cell (World.block_lt_of_cell? _ _ z2')).trans z2'
  have hbw4 := hbw1.trans (hb4.mono hbw1.size)
  have ho4 := owned_base ho hbw1.size
  have hcl := hbest.length
  have hel8 := elig_length V B V.length
  have HBEST : Hid _ := hbest
  clear HC y0' y1' y2' z0' z1' z2' z3' hS1 hb4 ho hbest
  cases tr with
  | false =>
    have htn : Hid (turnOf false t V.length ch = t) := by unfold Hid turnOf; simp
    go_wp2
    go_quiet (fail)
    go_wp2
    go_ret3
    exact ⟨av, cp, ch, x, by rw [htn.out]; rfl, HBEST.out, owned_drewN ho4 _, drewsN hbw4 _⟩
  | true =>
    by_cases hch : ch = []
    · have htn : Hid (turnOf true t V.length ch = t) := by unfold Hid turnOf; simp [hch]
      subst hch
      simp only [List.length_nil]
      go_wp2
      go_quiet (fail)
      go_wp2
      go_ret3
      exact ⟨av, cp, [], x, by rw [htn.out]; rfl, HBEST.out, owned_drewN ho4 _, drewsN hbw4 _⟩
    · have hcl0 : 0 < ch.length := List.length_pos_iff.2 hch
      have hcl1 : (0 : Int) < (ch.length : Int) := by omega
      have hcl2 : (ch.length : Int) ≤ 8 := by omega
      obtain ⟨f0, rest, rfl⟩ : ∃ f0 rest, ch = f0 :: rest := by
        cases ch with
        | nil => exact absurd rfl hch
        | cons f0 rest => exact ⟨f0, rest, rfl⟩
      have htn : Hid (turnOf true t V.length (f0 :: rest) = ((f0 : Int) + 1) % V.length) := by unfold Hid turnOf; simp
      have hf0 := elig_lt (HBEST.out.sub (i := f0) (by simp))
      have hf0i : (f0 : Int) < (V.length : Int) := by omega
      rcases Ints.ofRow ho4 with h | ⟨bE, oE, rfl, hcE⟩
      · simp [nums] at h
      have e0 := hcE 0 (by simp [nums])
      simp only [Nat.add_zero, nums, List.map_cons, List.getD_cons_zero] at e0
      obtain ⟨m, hm⟩ : ∃ m, m = (f0 :: rest).length := ⟨_, rfl⟩
      rw [← hm] at hcl1 hcl2 ho4 ⊢
      clear hcE hch hcl0 hcl hel8
      go_wp2
      go_quiet (fail)
      go_wp2
      go_ret3
      exact ⟨_, cp, f0 :: rest, x, by rw [htn.out]; rfl, HBEST.out, by first | exact owned_drewN ho4 _ | (rw [← hm]; exact owned_drewN ho4 _), drewsN hbw4 _⟩
end Go.Proofs.Ytlagaiekoahjnaa
