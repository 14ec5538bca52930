import Derived.Test.YtincfdhfoaimbaaSpSub2
namespace Go.Proofs.Ytincfdhfoaimbaa
open Go.ChangeShapes Go.WideShapes Go.ChangeAt Go.RowKit
set_option linter.unusedVariables false

set_option maxHeartbeats 400000 in
theorem l4Tick_probing (B base : Nat) (c : Cf) (s : St) (v : Value) (all : List Int) (w : World) (h : SpAt w B base c s v all) (hd : s.dead = 1) (hp : 1 < s.probe) (hp2 : s.probe ≤ 50) :
    Calls Try.prog 67 #[.pointer (some ⟨B, 0, none⟩)] w (StepsToS w B base c v (tickF c s)) := by
  have hQ : tickF c s = (⟨0, [], [], 0, 0⟩, { s with probe := s.probe - 1 }) := by unfold tickF; rw [if_pos hd, if_pos (by omega)]
  rw [hQ]
  obtain ⟨⟨k0, k1, k2, k3, k4, k5, k6, k7, k8, k9, k10, k11, k12⟩, kf⟩ := cells13 h.blk
  have f11 := kf 11
  have hB := h.lt
  have k12' : w.cell? ⟨B, 12, none⟩ = some (.bool true) := by rw [k12]; simp [hd]
  have hA : AtS w w.heap.size B base c s v all w := AtS.begin h (Nat.le_refl _)
  have hp0 : (s.probe - 1 == 0) = false := by simp; omega
  clear kf k12 hd hQ
  go_enter Try.func67, Try.ntmps67
  go_wp2
  exact bodyPost_ret (v := .agg #[.int .i64 0, .slice none 0 0, .slice none 0 0, .int .i64 0, .int .i64 0]) (by simp [results, Try.results67, go_sem]) rfl ((((hA.probe (s.probe - 1)).alloc zeroOut).alloc zeroOut).plain rfl rfl rfl rfl)

set_option maxHeartbeats 400000 in
theorem l4Tick_probe (B base : Nat) (c : Cf) (s : St) (v : Value) (all : List Int) (w : World) (h : SpAt w B base c s v all) (hi0 : 0 ≤ c.isn ∧ c.isn ≤ 4294967295) (hl : all.length ≤ 1000000) (hd : s.dead = 1) (hp : s.probe = 1) :
    Calls Try.prog 67 #[.pointer (some ⟨B, 0, none⟩)] w (StepsToS w B base c v (tickF c s)) := by
  have hQ : tickF c s = (⟨0, [(3, seqOf c s.done, 0)], [], 0, 0⟩, { s with probe := c.pe }) := by unfold tickF; rw [if_pos hd, if_neg (by omega)]
  rw [hQ]
  obtain ⟨⟨k0, k1, k2, k3, k4, k5, k6, k7, k8, k9, k10, k11, k12⟩, kf⟩ := cells13 h.blk
  have f11 := kf 11
  have hB := h.lt
  have k12' : w.cell? ⟨B, 12, none⟩ = some (.bool true) := by rw [k12]; simp [hd]
  rw [hp] at k11
  have hA : AtS w w.heap.size B base c s v all w := AtS.begin h (Nat.le_refl _)
  obtain ⟨q, hq⟩ : ∃ q, Hid (q = seqOf c s.done) := ⟨_, rfl⟩
  rw [← hq.out]
  have hdn : s.done ≤ 1000000 := by have := h.len; omega
  have hw1 : IntKind.u32.wrap (s.done : Int) = (s.done : Int) := by rw [IntKind.wrap_u32]; omega
  have hw2 : IntKind.u32.wrap (c.isn + (s.done : Int)) = q := by rw [IntKind.wrap_u32, hq.out]; rfl
  have hw3 : (c.isn + (s.done : Int)) % 4294967296 = q := by rw [hq.out]; rfl
  have l2 : B < w.heap.size + 1 := by omega
  have l3 : B < w.heap.size + 1 + 1 := by omega
  have l4 : B < w.heap.size + 1 + 1 + 1 := by omega
  have n1 : ¬ B = w.heap.size := by omega
  have n2 : ¬ B = w.heap.size + 1 := by omega
  have n3 : ¬ B = w.heap.size + 1 + 1 := by omega
  have n4 : ¬ w.heap.size = B := by omega
  have n5 : ¬ w.heap.size + 1 = B := by omega
  have n6 : ¬ w.heap.size + 1 + 1 = B := by omega
  clear kf k12 hd hQ hp
  go_enter Try.func67, Try.ntmps67
  go_wp2
  go_region
  all_goals
    go_wp2
    have hF := (((((hA.probe 0).probe c.pe).alloc (.cells #[.int .i64 0, .slice (some ⟨w.heap.size + 1 + 1, 0, none⟩) 1 1, .slice none 0 0, .int .i64 0, .int .i64 0] 47)).alloc (.cells #[.int .i64 0, .slice (some ⟨w.heap.size + 1 + 1, 0, none⟩) 1 1, .slice none 0 0, .int .i64 0, .int .i64 0] 47)).alloc (.cells #[.int .i64 3, .int .u32 q, .int .i64 0] 49)).drew
    exact bodyPost_ret (v := .agg #[.int .i64 0, .slice (some ⟨w.heap.size + 1 + 1, 0, none⟩) 1 1, .slice none 0 0, .int .i64 0, .int .i64 0]) (by simp [results, Try.results67, go_sem]) rfl
      ⟨_, _, v, all, rfl, hF.snd, .inl rfl, own_drew (frame1 _ _ _ (by simp) (by omega) _ _ _), Tags.nil _ _, (fun k hk => by cases hk), mv_none hF.mv⟩

set_option maxHeartbeats 400000 in
theorem l4Tick_idle (B base : Nat) (c : Cf) (s : St) (v : Value) (all : List Int) (w : World) (h : SpAt w B base c s v all) (hd : s.dead = 0) (ht : s.timer = 0) :
    Calls Try.prog 67 #[.pointer (some ⟨B, 0, none⟩)] w (StepsToS w B base c v (tickF c s)) := by
  have hQ : tickF c s = (⟨0, [], [], 0, 0⟩, s) := by unfold tickF; rw [if_neg (by omega), if_pos ht]
  rw [hQ]
  obtain ⟨⟨k0, k1, k2, k3, k4, k5, k6, k7, k8, k9, k10, k11, k12⟩, kf⟩ := cells13 h.blk
  have f8 := kf 8
  have f9 := kf 9
  have f10 := kf 10
  have f11 := kf 11
  have f12 := kf 12
  have hB := h.lt
  have k12' : w.cell? ⟨B, 12, none⟩ = some (.bool false) := by rw [k12]; simp [hd]
  have hA : AtS w w.heap.size B base c s v all w := AtS.begin h (Nat.le_refl _)
  have l2 : B < w.heap.size + 1 := by omega
  have l3 : B < w.heap.size + 1 + 1 := by omega
  have n1 : ¬ B = w.heap.size := by omega
  have n2 : ¬ B = w.heap.size + 1 := by omega
  have n4 : ¬ w.heap.size = B := by omega
  have n5 : ¬ w.heap.size + 1 = B := by omega
  rw [ht] at k8
  clear kf k12 hd hQ ht
  go_enter Try.func67, Try.ntmps67
  go_wp2
  exact bodyPost_ret (v := .agg #[.int .i64 0, .slice none 0 0, .slice none 0 0, .int .i64 0, .int .i64 0]) (by simp [results, Try.results67, go_sem]) rfl (((hA.alloc zeroOut).alloc zeroOut).plain rfl rfl rfl rfl)

set_option maxHeartbeats 400000 in
theorem l4Tick_wait (B base : Nat) (c : Cf) (s : St) (v : Value) (all : List Int) (w : World) (h : SpAt w B base c s v all) (hd : s.dead = 0) (ht : 1 < s.timer) (ht2 : s.timer ≤ 400) :
    Calls Try.prog 67 #[.pointer (some ⟨B, 0, none⟩)] w (StepsToS w B base c v (tickF c s)) := by
  have hQ : tickF c s = (⟨0, [], [], 0, 0⟩, { s with timer := s.timer - 1 }) := by unfold tickF; rw [if_neg (by omega), if_neg (by omega), if_pos (by omega)]
  rw [hQ]
  obtain ⟨⟨k0, k1, k2, k3, k4, k5, k6, k7, k8, k9, k10, k11, k12⟩, kf⟩ := cells13 h.blk
  have f8 := kf 8
  have f9 := kf 9
  have f10 := kf 10
  have f11 := kf 11
  have f12 := kf 12
  have hB := h.lt
  have k12' : w.cell? ⟨B, 12, none⟩ = some (.bool false) := by rw [k12]; simp [hd]
  have hA : AtS w w.heap.size B base c s v all w := AtS.begin h (Nat.le_refl _)
  have l2 : B < w.heap.size + 1 := by omega
  have l3 : B < w.heap.size + 1 + 1 := by omega
  have n1 : ¬ B = w.heap.size := by omega
  have n2 : ¬ B = w.heap.size + 1 := by omega
  have n4 : ¬ w.heap.size = B := by omega
  have n5 : ¬ w.heap.size + 1 = B := by omega
  have ht0 : (s.timer == 0) = false := by simp; omega
  clear kf k12 hd hQ
  go_enter Try.func67, Try.ntmps67
  go_wp2
  exact bodyPost_ret (v := .agg #[.int .i64 0, .slice none 0 0, .slice none 0 0, .int .i64 0, .int .i64 0]) (by simp [results, Try.results67, go_sem]) rfl ((((hA.timer (s.timer - 1)).alloc zeroOut).alloc zeroOut).plain rfl rfl rfl rfl)

set_option maxHeartbeats 400000 in
theorem l4Tick_dies (B base : Nat) (c : Cf) (hc : c.Ok) (s : St) (v : Value) (all : List Int) (w : World) (h : SpAt w B base c s v all) (hd : s.dead = 0) (ht : s.timer = 1) (c0 : 0 ≤ s.count) (hda : c.da = s.count + 1) :
    Calls Try.prog 67 #[.pointer (some ⟨B, 0, none⟩)] w (StepsToS w B base c v (tickF c s)) := by
  have hQ : tickF c s = (⟨0, [], [], 1, 0⟩, { s with timer := 0, count := s.count + 1, dead := 1, probe := c.pe }) := by unfold tickF; rw [if_neg (by omega), if_neg (by omega), if_neg (by omega), if_pos (by omega)]
  rw [hQ]
  obtain ⟨⟨k0, k1, k2, k3, k4, k5, k6, k7, k8, k9, k10, k11, k12⟩, kf⟩ := cells13 h.blk
  have f8 := kf 8
  have f9 := kf 9
  have f10 := kf 10
  have f11 := kf 11
  have f12 := kf 12
  have hB := h.lt
  have k12' : w.cell? ⟨B, 12, none⟩ = some (.bool false) := by rw [k12]; simp [hd]
  have hA : AtS w w.heap.size B base c s v all w := AtS.begin h (Nat.le_refl _)
  have l2 : B < w.heap.size + 1 := by omega
  have l3 : B < w.heap.size + 1 + 1 := by omega
  have n1 : ¬ B = w.heap.size := by omega
  have n2 : ¬ B = w.heap.size + 1 := by omega
  have n4 : ¬ w.heap.size = B := by omega
  have n5 : ¬ w.heap.size + 1 = B := by omega
  rw [ht] at k8
  rw [hda] at k4
  have hc8 : s.count ≤ 8 := by unfold Cf.Ok at hc; omega
  clear kf k12 hd hQ ht hda
  go_enter Try.func67, Try.ntmps67
  go_wp2
  go_quiet (fail)
  go_wp2
  have hv0 : v.ownBlock ≠ some w.heap.size := fun e => by have := (h.row.lt e).2; omega
  have hv1 : v.ownBlock ≠ some (w.heap.size + 1) := fun e => by have := (h.row.lt e).2; omega
  have hF := ((((((((((((hA.timer 0).count (s.count + 1)).alloc zeroOut).alloc zeroOut).drewN nq).dies).probe c.pe).far (w.heap.size + 1) 3 (.int .i64 1) (by omega) hv1).far w.heap.size 0 (.int .i64 0) (by omega) hv0).far w.heap.size 1 (.slice none 0 0) (by omega) hv0).far w.heap.size 2 (.slice none 0 0) (by omega) hv0).far w.heap.size 3 (.int .i64 1) (by omega) hv0).far w.heap.size 4 (.int .i64 0) (by omega) hv0
  exact bodyPost_ret (v := .agg #[.int .i64 0, .slice none 0 0, .slice none 0 0, .int .i64 1, .int .i64 0]) (by simp [results, Try.results67, go_sem]) rfl (hF.plain rfl rfl rfl rfl)


/-- Two answers' boxes, one behind the other. -/
structure Bx (w : World) (R : Nat) : Prop where
  r : w.heap[R]? = some zeroOut
  o : w.heap[R + 1]? = some zeroOut
theorem Bx.start (W : World) (R : Nat) (hR : R = W.heap.size) : Bx ((W.alloc zeroOut).alloc zeroOut) R := by
  subst hR
  exact ⟨(Below.heap_alloc _ _ _ (by simp)).trans (box_new _ _ _ rfl), box_new _ _ _ (by simp)⟩
theorem Bx.drewN {w : World} {R : Nat} (h : Bx w R) (n : Nat) : Bx (w.drewN n) R := ⟨h.r, h.o⟩
theorem Bx.set {w : World} {R B i : Nat} {x : Value} (h : Bx w R) (h1 : B ≠ R) (h2 : B ≠ R + 1) : Bx (w.setCell ⟨B, i, none⟩ x) R := ⟨(heap_setCell_other _ _ _ _ (fun e => h1 e.symm)).trans h.r, (heap_setCell_other _ _ _ _ (fun e => h2 e.symm)).trans h.o⟩
theorem Bx.below {w w' : World} {R : Nat} (h : Bx w R) (hb : Below w.heap.size w w') : Bx w' R := ⟨(hb.block _ (Array.getElem?_eq_some_iff.1 h.r).1).trans h.r, (hb.block _ (Array.getElem?_eq_some_iff.1 h.o).1).trans h.o⟩

set_option maxHeartbeats 2000000 in
theorem l4Tick_again (B base : Nat) (c : Cf) (hc : c.Ok) (s : St) (v : Value) (all : List Int) (w : World) (h : SpAt w B base c s v all) (hi0 : 0 ≤ c.isn ∧ c.isn ≤ 4294967295) (hl : all.length ≤ 1000000) (hd : s.dead = 0) (ht : s.timer = 1) (r0 : 1 ≤ s.rto) (r1 : s.rto ≤ 400) (c0 : 0 ≤ s.count) (hda : s.count + 1 < c.da) :
    Calls Try.prog 67 #[.pointer (some ⟨B, 0, none⟩)] w (StepsToS w B base c v (tickF c s)) := by
  have hQ : tickF c s = (⟨0, againF c s.done s.tags, [], 0, 0⟩, { s with count := s.count + 1, rto := min (2 * s.rto) c.mrto, timer := min (2 * s.rto) c.mrto }) := by unfold tickF; rw [if_neg (by omega), if_neg (by omega), if_neg (by omega), if_neg (by omega)]
  rw [hQ]
  obtain ⟨⟨k0, k1, k2, k3, k4, k5, k6, k7, k8, k9, k10, k11, k12⟩, kf⟩ := cells13 h.blk
  have f8 := kf 8
  have f9 := kf 9
  have f10 := kf 10
  have f11 := kf 11
  have f12 := kf 12
  have hB := h.lt
  have k12' : w.cell? ⟨B, 12, none⟩ = some (.bool false) := by rw [k12]; simp [hd]
  have hA : AtS w w.heap.size B base c s v all w := AtS.begin h (Nat.le_refl _)
  have l2 : B < w.heap.size + 1 := by omega
  have l3 : B < w.heap.size + 1 + 1 := by omega
  have n1 : ¬ B = w.heap.size := by omega
  have n2 : ¬ B = w.heap.size + 1 := by omega
  have n4 : ¬ w.heap.size = B := by omega
  have n5 : ¬ w.heap.size + 1 = B := by omega
  rw [ht] at k8
  have hc8 : s.count ≤ 8 := by unfold Cf.Ok at hc; omega
  have hdb : (s.count + 1 == c.da) = false := by simp; omega
  have hv0 : v.ownBlock ≠ some w.heap.size := fun e => by have := (h.row.lt e).2; omega
  have hv1 : v.ownBlock ≠ some (w.heap.size + 1) := fun e => by have := (h.row.lt e).2; omega
  clear kf k12 hd hQ ht
  by_cases hle : 2 * s.rto ≤ c.mrto
  · rw [Int.min_eq_left hle]
    go_enter Try.func67, Try.ntmps67
    go_wp2
    go_quiet (fail)
    have hA2 := ((((hA.timer 0).count (s.count + 1)).alloc zeroOut).alloc zeroOut).drewN nq
    have hX2 := (Bx.start ((w.setCell ⟨B, 8, none⟩ (.int .i64 0)).setCell ⟨B, 10, none⟩ (.int .i64 (s.count + 1))) w.heap.size (by simp)).drewN nq
    go_wp2_with fail
    go_quiet (fail)
    have hA4 := ((hA2.rto (2 * s.rto)).drewN nq).timer (2 * s.rto)
    have hX4 := ((hX2.set (i := 9) (x := .int .i64 (2 * s.rto)) n1 n2).drewN nq).set (i := 8) (x := .int .i64 (2 * s.rto)) n1 n2
    go_wp2_with fail
    refine (l4Again_any B base c _ v all _ hA4.snd hl hi0).mono ?_
    rintro e w5 ⟨av, cp, rfl, ho5, hb5⟩
    have hA5 := hA4.below hb5
    have hX5 := hX4.below hb5
    have hz5 : w.heap.size + 1 < w5.heap.size := (Array.getElem?_eq_some_iff.1 hX5.o).1
    have hz4 := (Array.getElem?_eq_some_iff.1 hX4.o).1
    obtain ⟨⟨o0, o1, o2, o3, o4⟩, p0, p1, p2, p3, p4⟩ := cells5 hX5.o
    obtain ⟨⟨r0, r1, r2, r3, r4⟩, q0, q1, q2, q3, q4⟩ := cells5 hX5.r
    obtain ⟨N, hN⟩ : ∃ N, Hid (N = s.tags.length) := ⟨_, rfl⟩
    have ho7 : w5.ownsRow (w.heap.size + 2) 49 3 (.slice av N cp) N (flat3 .i64 .u32 .i64 (againF c s.done s.tags)) := by rw [hN.out]; exact own_base ho5 hz4
    dsimp only
    rw [← hN.out]
    have hF := ((((((hA5.far (w.heap.size + 1) 1 (.slice av N cp) (by omega) hv1).far w.heap.size 0 (.int .i64 0) (by omega) hv0).far w.heap.size 1 (.slice av N cp) (by omega) hv0).far w.heap.size 2 (.slice none 0 0) (by omega) hv0).far w.heap.size 3 (.int .i64 0) (by omega) hv0).far w.heap.size 4 (.int .i64 0) (by omega) hv0)
    have hvf : (Value.slice av N cp).ownBlock ≠ some (w.heap.size + 1) := fun e => by have := (ho7.lt _ e).1; omega
    have m1 : ¬ w.heap.size + 1 = w.heap.size := by omega
    have m2 : ¬ w.heap.size = w.heap.size + 1 := by omega
    go_wp2
    exact bodyPost_ret (v := .agg #[.int .i64 0, .slice av N cp, .slice none 0 0, .int .i64 0, .int .i64 0]) (by simp [results, Try.results67, go_sem, r0, r1, r2, r3, r4]) rfl
      ⟨_, _, v, all, rfl, hF.snd, .inl rfl, own_base (own_box (own_put (by rw [againF_length, ← hN.out]; exact ho7) hvf) (by omega) _ _ _ _ _) (by omega), Tags.nil _ _, (fun k hk => by cases hk), mv_none hF.mv⟩
  · rw [Int.min_eq_right (by omega)]
    have hgt : c.mrto < 2 * s.rto := by omega
    clear hle
    go_enter Try.func67, Try.ntmps67
    go_wp2
    go_quiet (fail)
    have hA2 := ((((hA.timer 0).count (s.count + 1)).alloc zeroOut).alloc zeroOut).drewN nq
    have hX2 := (Bx.start ((w.setCell ⟨B, 8, none⟩ (.int .i64 0)).setCell ⟨B, 10, none⟩ (.int .i64 (s.count + 1))) w.heap.size (by simp)).drewN nq
    go_wp2_with fail
    go_quiet (fail)
    have hA3 := (hA2.rto (2 * s.rto)).drewN nq
    have hX3 := (hX2.set (i := 9) (x := .int .i64 (2 * s.rto)) n1 n2).drewN nq
    obtain ⟨W3, hW3, hA3', hX3'⟩ : ∃ W, W = _ ∧ AtS w w.heap.size B base c { s with timer := 0, count := s.count + 1, rto := 2 * s.rto } v all W ∧ Bx W w.heap.size := ⟨_, rfl, hA3, hX3⟩
    rw [← hW3]
    clear hW3 hA3 hX3 hA2 hX2 k0 k1 k2 k3 k4 k5 k6 k7 k8 k9 k10 k11 k12' f8 f9 f10 f11 f12
    obtain ⟨⟨k0, k1, k2, k3, k4, k5, k6, k7, k8, k9, k10, k11, k12⟩, kf⟩ := cells13 hA3'.snd.blk
    have f8 := kf 8
    have f9 := kf 9
    clear kf
    have hA4 := (hA3'.rto c.mrto).timer c.mrto
    have hX4 := (hX3'.set (i := 9) (x := .int .i64 c.mrto) n1 n2).set (i := 8) (x := .int .i64 c.mrto) n1 n2
    go_wp2_with fail
    refine (l4Again_any B base c _ v all _ hA4.snd hl hi0).mono ?_
    rintro e w5 ⟨av, cp, rfl, ho5, hb5⟩
    have hA5 := hA4.below hb5
    have hX5 := hX4.below hb5
    have hz5 : w.heap.size + 1 < w5.heap.size := (Array.getElem?_eq_some_iff.1 hX5.o).1
    have hz4 := (Array.getElem?_eq_some_iff.1 hX4.o).1
    obtain ⟨⟨o0, o1, o2, o3, o4⟩, p0, p1, p2, p3, p4⟩ := cells5 hX5.o
    obtain ⟨⟨r0, r1, r2, r3, r4⟩, q0, q1, q2, q3, q4⟩ := cells5 hX5.r
    obtain ⟨N, hN⟩ : ∃ N, Hid (N = s.tags.length) := ⟨_, rfl⟩
    have ho7 : w5.ownsRow (w.heap.size + 2) 49 3 (.slice av N cp) N (flat3 .i64 .u32 .i64 (againF c s.done s.tags)) := by rw [hN.out]; exact own_base ho5 hz4
    dsimp only
    rw [← hN.out]
    have hF := ((((((hA5.far (w.heap.size + 1) 1 (.slice av N cp) (by omega) hv1).far w.heap.size 0 (.int .i64 0) (by omega) hv0).far w.heap.size 1 (.slice av N cp) (by omega) hv0).far w.heap.size 2 (.slice none 0 0) (by omega) hv0).far w.heap.size 3 (.int .i64 0) (by omega) hv0).far w.heap.size 4 (.int .i64 0) (by omega) hv0)
    have hvf : (Value.slice av N cp).ownBlock ≠ some (w.heap.size + 1) := fun e => by have := (ho7.lt _ e).1; omega
    have m1 : ¬ w.heap.size + 1 = w.heap.size := by omega
    have m2 : ¬ w.heap.size = w.heap.size + 1 := by omega
    go_wp2
    exact bodyPost_ret (v := .agg #[.int .i64 0, .slice av N cp, .slice none 0 0, .int .i64 0, .int .i64 0]) (by simp [results, Try.results67, go_sem, r0, r1, r2, r3, r4]) rfl
      ⟨_, _, v, all, rfl, hF.snd, .inl rfl, own_base (own_box (own_put (by rw [againF_length, ← hN.out]; exact ho7) hvf) (by omega) _ _ _ _ _) (by omega), Tags.nil _ _, (fun k hk => by cases hk), mv_none hF.mv⟩

theorem l4Tick_any (B base : Nat) (c : Cf) (hc : c.Ok) (s : St) (v : Value) (all : List Int) (w : World) (k : Nat) (hg : Good c s k) (hk : k ≤ 900000) (hi0 : 0 ≤ c.isn ∧ c.isn ≤ 4294967295) (h : SpAt w B base c s v all) :
    Calls Try.prog 67 #[.pointer (some ⟨B, 0, none⟩)] w (StepsToS w B base c v (tickF c s)) := by
  have a1 := hg.all
  have hl : all.length ≤ 1000000 := by have := h.len; omega
  have a3 := hg.t0
  have lv := hg.live
  rcases hg.d with hd | hd
  · by_cases ht : s.timer = 0
    · exact l4Tick_idle B base c s v all w h hd ht
    by_cases ht1 : 1 < s.timer
    · exact l4Tick_wait B base c s v all w h hd ht1 hg.t1
    have ht2 : s.timer = 1 := by omega
    have hlv := lv hd
    by_cases hda : c.da = s.count + 1
    · exact l4Tick_dies B base c hc s v all w h hd ht2 hg.c0 hda
    · exact l4Tick_again B base c hc s v all w h hi0 hl hd ht2 hg.r0 hg.r1 hg.c0 (by omega)
  · have hgn := hg.gone hd
    by_cases hp : 1 < s.probe
    · exact l4Tick_probing B base c s v all w h hd hp hg.p1
    · exact l4Tick_probe B base c s v all w h hi0 hl hd (by omega)
end Go.Proofs.Ytincfdhfoaimbaa
