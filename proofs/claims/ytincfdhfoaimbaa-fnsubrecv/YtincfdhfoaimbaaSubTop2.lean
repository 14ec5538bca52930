import Derived.Test.YtincfdhfoaimbaaSubTop
import Derived.Deep.RegionHeld3
namespace Go.Proofs.Ytincfdhfoaimbaa
open Go.ChangeShapes Go.WideShapes Go.ChangeAt Go.RowKit
set_option linter.unusedVariables false

theorem runAll_limit (B : Nat) (a : Option Addr) (n cap : Nat) (w : World) (hl : 4000 < n) :
    Calls Try.prog 58 #[.slice a n cap, .func (.func 59) #[] #[.pointer (some ⟨B, 0, none⟩)]] w fun e w' => e = .returned (.tuple #[.slice none 0 0, .int .i64 5]) ∧ Below w.heap.size w w' := by
  have hd : decide ((4000 : Int) < (n : Int)) = true := by simp; omega
  go_enter Try.func58, Try.ntmps58
  go_wp2
  go_ret2
  exact ⟨rfl, Below.refl _ _⟩

set_option maxHeartbeats 2000000 in
set_option maxRecDepth 100000 in
theorem runSub_limit (c : Cf) (hc : c.Ok) (hi : 0 ≤ c.isn ∧ c.isn ≤ 4294967295) (a : Option Addr) (n cap : Nat) (w : World) (hl : 4000 < n) :
    Calls Try.prog 41 #[cfV c, .slice a n cap] w fun e w' => e = .returned (.tuple #[.agg #[.int .u32 c.isn, .int .i64 c.win, .int .i64 c.rto, .int .i64 c.mrto, .int .i64 c.da, .int .i64 c.pe, .int .u32 c.isn, .slice none 0 0, .int .i64 0, .int .i64 c.rto, .int .i64 0, .int .i64 0, .int .i64 0], .slice none 0 0, .int .i64 5]) ∧ Below w.heap.size w w' := by
  have hc' : OkL c.win c.rto c.mrto c.da c.pe := (ok_l c).1 hc
  have hb0 : Below w.heap.size w ((w.alloc (.cells #[.int .u32 c.isn, .int .i64 c.win, .int .i64 c.rto, .int .i64 c.mrto, .int .i64 c.da, .int .i64 c.pe] 35)).alloc (.cells #[.int .u32 0, .int .i64 0, .int .i64 0, .int .i64 0, .int .i64 0, .int .i64 0, .int .u32 0, .slice none 0 0, .int .i64 0, .int .i64 0, .int .i64 0, .int .i64 0, .int .i64 0] 89)) := ((Below.refl _ _).alloc (Nat.le_refl _) _).alloc (by simp) _
  have hR0 : ((w.alloc (.cells #[.int .u32 c.isn, .int .i64 c.win, .int .i64 c.rto, .int .i64 c.mrto, .int .i64 c.da, .int .i64 c.pe] 35)).alloc (.cells #[.int .u32 0, .int .i64 0, .int .i64 0, .int .i64 0, .int .i64 0, .int .i64 0, .int .u32 0, .slice none 0 0, .int .i64 0, .int .i64 0, .int .i64 0, .int .i64 0, .int .i64 0] 89)).heap[w.heap.size + 1]? = some (.cells #[.int .u32 0, .int .i64 0, .int .i64 0, .int .i64 0, .int .i64 0, .int .i64 0, .int .u32 0, .slice none 0 0, .int .i64 0, .int .i64 0, .int .i64 0, .int .i64 0, .int .i64 0] 89) := box_new _ _ _ (by simp)
  have hC0 : ((w.alloc (.cells #[.int .u32 c.isn, .int .i64 c.win, .int .i64 c.rto, .int .i64 c.mrto, .int .i64 c.da, .int .i64 c.pe] 35)).alloc (.cells #[.int .u32 0, .int .i64 0, .int .i64 0, .int .i64 0, .int .i64 0, .int .i64 0, .int .u32 0, .slice none 0 0, .int .i64 0, .int .i64 0, .int .i64 0, .int .i64 0, .int .i64 0] 89)).heap[w.heap.size]? = some (.cells #[.int .u32 c.isn, .int .i64 c.win, .int .i64 c.rto, .int .i64 c.mrto, .int .i64 c.da, .int .i64 c.pe] 35) := (Below.heap_alloc _ _ _ (by simp)).trans (box_new _ _ _ rfl)
  have hz0 : w.heap.size + 1 < ((w.alloc (.cells #[.int .u32 c.isn, .int .i64 c.win, .int .i64 c.rto, .int .i64 c.mrto, .int .i64 c.da, .int .i64 c.pe] 35)).alloc (.cells #[.int .u32 0, .int .i64 0, .int .i64 0, .int .i64 0, .int .i64 0, .int .i64 0, .int .u32 0, .slice none 0 0, .int .i64 0, .int .i64 0, .int .i64 0, .int .i64 0, .int .i64 0] 89)).heap.size := by simp
  go_enter Try.func41, Try.ntmps41
  go_wp2_with fail
  refine (i4_yes c.isn c.win c.rto c.mrto c.da c.pe _ hc').mono ?_
  rintro e w1 ⟨rfl, hb1⟩
  have hR1 := (hb1.block _ hz0).trans hR0
  have hC1 := (hb1.block _ (by omega)).trans hC0
  have hbw := hb0.trans (hb1.mono hb0.size)
  have c0 : w1.cell? ⟨w.heap.size, 0, none⟩ = some (.int .u32 c.isn) := Go.Joins.cell_of_block hC1 0
  have c1 : w1.cell? ⟨w.heap.size, 1, none⟩ = some (.int .i64 c.win) := Go.Joins.cell_of_block hC1 1
  have c2 : w1.cell? ⟨w.heap.size, 2, none⟩ = some (.int .i64 c.rto) := Go.Joins.cell_of_block hC1 2
  have c3 : w1.cell? ⟨w.heap.size, 3, none⟩ = some (.int .i64 c.mrto) := Go.Joins.cell_of_block hC1 3
  have c4 : w1.cell? ⟨w.heap.size, 4, none⟩ = some (.int .i64 c.da) := Go.Joins.cell_of_block hC1 4
  have c5 : w1.cell? ⟨w.heap.size, 5, none⟩ = some (.int .i64 c.pe) := Go.Joins.cell_of_block hC1 5
  go_wp2_with fail
  refine (newSender_any c w1).mono ?_
  rintro e w2 ⟨rfl, hb2⟩
  have s1 : w.heap.size + 1 < w1.heap.size := Nat.lt_of_lt_of_le hz0 hb1.size
  have hR2 := (hb2.block _ s1).trans hR1
  have hbw2 := hbw.trans (hb2.mono hbw.size)
  have s2 := hb2.size
  clear c0 c1 c2 c3 c4 c5 hC1 hC0
  obtain ⟨W3, hW3⟩ : ∃ W, W = w2.alloc (.cells #[.int .u32 c.isn, .int .i64 c.win, .int .i64 c.rto, .int .i64 c.mrto, .int .i64 c.da, .int .i64 c.pe, .int .u32 c.isn, .slice none 0 0, .int .i64 0, .int .i64 c.rto, .int .i64 0, .int .i64 0, .int .i64 0] 89) := ⟨_, rfl⟩
  have hb3 : Below w2.heap.size w2 W3 := by rw [hW3]; exact (Below.refl _ _).alloc (Nat.le_refl _) _
  have hB3 : W3.heap[w2.heap.size]? = some (.cells #[.int .u32 c.isn, .int .i64 c.win, .int .i64 c.rto, .int .i64 c.mrto, .int .i64 c.da, .int .i64 c.pe, .int .u32 c.isn, .slice none 0 0, .int .i64 0, .int .i64 c.rto, .int .i64 0, .int .i64 0, .int .i64 0] 89) := by rw [hW3]; exact box_new _ _ _ rfl
  have s3 : w2.heap.size < W3.heap.size := by rw [hW3]; simp
  have hsq : seqOf c 0 = c.isn := by unfold seqOf; omega
  have hbw3 := hbw2.trans (hb3.mono hbw2.size)
  have sw := hbw2.size
  have hall := runAll_limit w2.heap.size a n cap W3 hl
  go_wp2_with fail
  rw [← hW3]
  clear hW3
  refine hall.mono ?_
  rintro e w4 ⟨rfl, hb4⟩
  clear hall
  have hR4 := (hb4.block _ (by omega)).trans ((hb3.block _ (by omega)).trans hR2)
  have hB4 := (hb4.block _ s3).trans hB3
  have hbw4 := hbw3.trans (hb4.mono hbw3.size)
  obtain ⟨⟨k0, k1, k2, k3, k4, k5, k6, k7, k8, k9, k10, k11, k12⟩, _⟩ := cells13 hB4
  obtain ⟨⟨r0, r1, r2, r3, r4, r5, r6, r7, r8, r9, r10, r11, r12⟩, kf⟩ := cells13 hR4
  have f0 := kf 0
  have f1 := kf 1
  have f2 := kf 2
  have f3 := kf 3
  have f4 := kf 4
  have f5 := kf 5
  have f6 := kf 6
  have f7 := kf 7
  have f8 := kf 8
  have f9 := kf 9
  have f10 := kf 10
  have f11 := kf 11
  have f12 := kf 12
  clear kf
  have hZ := put13_block hR4 (.int .u32 c.isn) (.int .i64 c.win) (.int .i64 c.rto) (.int .i64 c.mrto) (.int .i64 c.da) (.int .i64 c.pe) (.int .u32 c.isn) (.slice none 0 0) (.int .i64 0) (.int .i64 c.rto) (.int .i64 0) (.int .i64 0) (.int .i64 0)
  have hbZ := put13_below hbw4 (w.heap.size + 1) (by omega) (.int .u32 c.isn) (.int .i64 c.win) (.int .i64 c.rto) (.int .i64 c.mrto) (.int .i64 c.da) (.int .i64 c.pe) (.int .u32 c.isn) (.slice none 0 0) (.int .i64 0) (.int .i64 c.rto) (.int .i64 0) (.int .i64 0) (.int .i64 0)
  have m1 : ¬ w2.heap.size = w.heap.size + 1 := by omega
  have m2 : ¬ w.heap.size + 1 = w2.heap.size := by omega
  go_wp2
  obtain ⟨⟨z0, z1, z2, z3, z4, z5, z6, z7, z8, z9, z10, z11, z12⟩, _⟩ := cells13 hZ
  exact bodyPost_ret (v := .tuple #[.agg #[.int .u32 c.isn, .int .i64 c.win, .int .i64 c.rto, .int .i64 c.mrto, .int .i64 c.da, .int .i64 c.pe, .int .u32 c.isn, .slice none 0 0, .int .i64 0, .int .i64 c.rto, .int .i64 0, .int .i64 0, .int .i64 0], .slice none 0 0, .int .i64 5]) (by simp [results, Try.results41, go_sem, z0, z1, z2, z3, z4, z5, z6, z7, z8, z9, z10, z11, z12]) rfl ⟨rfl, hbZ⟩

theorem cells8 {w : World} {B : Nat} {t : TypeId} {x0 x1 x2 x3 x4 x5 x6 x7 : Value} (h : w.heap[B]? = some (.cells #[x0, x1, x2, x3, x4, x5, x6, x7] t (0, 0))) :
    (w.cell? ⟨B, 0, none⟩ = some x0 ∧ w.cell? ⟨B, 1, none⟩ = some x1 ∧ w.cell? ⟨B, 2, none⟩ = some x2 ∧ w.cell? ⟨B, 3, none⟩ = some x3 ∧ w.cell? ⟨B, 4, none⟩ = some x4 ∧ w.cell? ⟨B, 5, none⟩ = some x5 ∧ w.cell? ⟨B, 6, none⟩ = some x6 ∧ w.cell? ⟨B, 7, none⟩ = some x7) ∧ w.frozen? ⟨B, 0, none⟩ = false ∧ w.frozen? ⟨B, 1, none⟩ = false ∧ w.frozen? ⟨B, 2, none⟩ = false ∧ w.frozen? ⟨B, 3, none⟩ = false ∧ w.frozen? ⟨B, 4, none⟩ = false ∧ w.frozen? ⟨B, 5, none⟩ = false ∧ w.frozen? ⟨B, 6, none⟩ = false ∧ w.frozen? ⟨B, 7, none⟩ = false :=
  ⟨⟨Go.Joins.cell_of_block h 0, Go.Joins.cell_of_block h 1, Go.Joins.cell_of_block h 2, Go.Joins.cell_of_block h 3, Go.Joins.cell_of_block h 4, Go.Joins.cell_of_block h 5, Go.Joins.cell_of_block h 6, Go.Joins.cell_of_block h 7⟩, Go.Joins.unfrozen_of_block h _, Go.Joins.unfrozen_of_block h _, Go.Joins.unfrozen_of_block h _, Go.Joins.unfrozen_of_block h _, Go.Joins.unfrozen_of_block h _, Go.Joins.unfrozen_of_block h _, Go.Joins.unfrozen_of_block h _, Go.Joins.unfrozen_of_block h _⟩
abbrev put8 (w : World) (R : Nat) (x0 x1 x2 x3 x4 x5 x6 x7 : Value) : World := ((((((((w.setCell ⟨R, 0, none⟩ x0).setCell ⟨R, 1, none⟩ x1).setCell ⟨R, 2, none⟩ x2).setCell ⟨R, 3, none⟩ x3).setCell ⟨R, 4, none⟩ x4).setCell ⟨R, 5, none⟩ x5).setCell ⟨R, 6, none⟩ x6).setCell ⟨R, 7, none⟩ x7)
theorem put8_block {w : World} {R : Nat} {t : TypeId} {y0 y1 y2 y3 y4 y5 y6 y7 : Value} (h : w.heap[R]? = some (.cells #[y0, y1, y2, y3, y4, y5, y6, y7] t (0, 0))) (x0 x1 x2 x3 x4 x5 x6 x7 : Value) : (put8 w R x0 x1 x2 x3 x4 x5 x6 x7).heap[R]? = some (.cells #[x0, x1, x2, x3, x4, x5, x6, x7] t (0, 0)) := by
  have h0 : (w.setCell ⟨R, 0, none⟩ x0).heap[R]? = some (.cells #[x0, y1, y2, y3, y4, y5, y6, y7] t (0, 0)) := by rw [Go.Joins.block_setCell h _]; rfl
  have h1 : ((w.setCell ⟨R, 0, none⟩ x0).setCell ⟨R, 1, none⟩ x1).heap[R]? = some (.cells #[x0, x1, y2, y3, y4, y5, y6, y7] t (0, 0)) := by rw [Go.Joins.block_setCell h0 _]; rfl
  have h2 : (((w.setCell ⟨R, 0, none⟩ x0).setCell ⟨R, 1, none⟩ x1).setCell ⟨R, 2, none⟩ x2).heap[R]? = some (.cells #[x0, x1, x2, y3, y4, y5, y6, y7] t (0, 0)) := by rw [Go.Joins.block_setCell h1 _]; rfl
  have h3 : ((((w.setCell ⟨R, 0, none⟩ x0).setCell ⟨R, 1, none⟩ x1).setCell ⟨R, 2, none⟩ x2).setCell ⟨R, 3, none⟩ x3).heap[R]? = some (.cells #[x0, x1, x2, x3, y4, y5, y6, y7] t (0, 0)) := by rw [Go.Joins.block_setCell h2 _]; rfl
  have h4 : (((((w.setCell ⟨R, 0, none⟩ x0).setCell ⟨R, 1, none⟩ x1).setCell ⟨R, 2, none⟩ x2).setCell ⟨R, 3, none⟩ x3).setCell ⟨R, 4, none⟩ x4).heap[R]? = some (.cells #[x0, x1, x2, x3, x4, y5, y6, y7] t (0, 0)) := by rw [Go.Joins.block_setCell h3 _]; rfl
  have h5 : ((((((w.setCell ⟨R, 0, none⟩ x0).setCell ⟨R, 1, none⟩ x1).setCell ⟨R, 2, none⟩ x2).setCell ⟨R, 3, none⟩ x3).setCell ⟨R, 4, none⟩ x4).setCell ⟨R, 5, none⟩ x5).heap[R]? = some (.cells #[x0, x1, x2, x3, x4, x5, y6, y7] t (0, 0)) := by rw [Go.Joins.block_setCell h4 _]; rfl
  have h6 : (((((((w.setCell ⟨R, 0, none⟩ x0).setCell ⟨R, 1, none⟩ x1).setCell ⟨R, 2, none⟩ x2).setCell ⟨R, 3, none⟩ x3).setCell ⟨R, 4, none⟩ x4).setCell ⟨R, 5, none⟩ x5).setCell ⟨R, 6, none⟩ x6).heap[R]? = some (.cells #[x0, x1, x2, x3, x4, x5, x6, y7] t (0, 0)) := by rw [Go.Joins.block_setCell h5 _]; rfl
  have h7 : ((((((((w.setCell ⟨R, 0, none⟩ x0).setCell ⟨R, 1, none⟩ x1).setCell ⟨R, 2, none⟩ x2).setCell ⟨R, 3, none⟩ x3).setCell ⟨R, 4, none⟩ x4).setCell ⟨R, 5, none⟩ x5).setCell ⟨R, 6, none⟩ x6).setCell ⟨R, 7, none⟩ x7).heap[R]? = some (.cells #[x0, x1, x2, x3, x4, x5, x6, x7] t (0, 0)) := by rw [Go.Joins.block_setCell h6 _]; rfl
  exact h7
theorem put8_other (w : World) (R : Nat) (x0 x1 x2 x3 x4 x5 x6 x7 : Value) : ∀ k, k ≠ R → (put8 w R x0 x1 x2 x3 x4 x5 x6 x7).heap[k]? = w.heap[k]? := other2 (other2 (other2 (other2 (other2 (other2 (other2 (other2 (fun _ _ => rfl) 0 x0) 1 x1) 2 x2) 3 x3) 4 x4) 5 x5) 6 x6) 7 x7
theorem put8_below {w0 w : World} {B : Nat} (h : Below B w0 w) (R : Nat) (hR : B ≤ R) (x0 x1 x2 x3 x4 x5 x6 x7 : Value) : Below B w0 (put8 w R x0 x1 x2 x3 x4 x5 x6 x7) := by
  unfold put8
  iterate 8 refine Below.setCell ?_ hR _
  exact h
theorem below_undrew {a w : World} (h : Below a.drew.heap.size a.drew w) : Below a.heap.size a w := ⟨h.os, h.tape, h.output, h.size, h.block⟩
/-- A view's cells. -/
abbrev viewV (c : Cf) (s : St) (tv : Value) : Value := .agg #[.int .u32 (seqOf c s.done), .int .u32 (seqOf c (s.done + s.tags.length)), tv, .int .i64 s.timer, .int .i64 s.rto, .int .i64 s.count, .int .i64 s.probe, .int .i64 s.dead]
abbrev zeroView : Value := .agg #[.int .u32 0, .int .u32 0, .slice none 0 0, .int .i64 0, .int .i64 0, .int .i64 0, .int .i64 0, .int .i64 0]

set_option maxHeartbeats 1000000 in
set_option maxRecDepth 100000 in
theorem view_any (B base : Nat) (c : Cf) (s : St) (v : Value) (w : World) (h : SndAt w B base c s v) (hl : s.tags.length ≤ 5000) :
    Calls Try.prog 42 #[.pointer (some ⟨B, 0, none⟩)] w fun e w' => ∃ av cp, e = .returned (viewV c s (.slice av s.tags.length cp)) ∧ w'.ownsRow w.heap.size 2 1 (.slice av s.tags.length cp) s.tags.length (s.tags.map (.int .i64)) ∧ Below w.heap.size w w' := by
  have hB := h.lt
  have nB : ¬ B = w.heap.size := by omega
  have nB2 : ¬ w.heap.size = B := by omega
  obtain ⟨W1, hW1⟩ : ∃ W, W = w.alloc (.cells #[.int .u32 0, .int .u32 0, .slice none 0 0, .int .i64 0, .int .i64 0, .int .i64 0, .int .i64 0, .int .i64 0] 54) := ⟨_, rfl⟩
  have hb1 : Below w.heap.size w W1 := by rw [hW1]; exact (Below.refl _ _).alloc (Nat.le_refl _) _
  have hR1 : W1.heap[w.heap.size]? = some (.cells #[.int .u32 0, .int .u32 0, .slice none 0 0, .int .i64 0, .int .i64 0, .int .i64 0, .int .i64 0, .int .i64 0] 54) := by rw [hW1]; exact box_new _ _ _ rfl
  have hS1 := h.moved hb1
  have L1 := next_any B base c s v W1.drew (hS1.moved (Below.refl _ _).drew) hl
  obtain ⟨ta, tc, hv, t1, t2, t3, t4⟩ := hS1.row.shape
  obtain ⟨q0, hq0⟩ : ∃ q, Hid (q = seqOf c s.done) := ⟨_, rfl⟩
  obtain ⟨q1, hq1⟩ : ∃ q, Hid (q = seqOf c (s.done + s.tags.length)) := ⟨_, rfl⟩
  obtain ⟨N, hN⟩ : ∃ N, Hid (N = s.tags.length) := ⟨_, rfl⟩
  have hblk := hS1.blk
  rw [hv] at hblk
  unfold viewV
  rw [← hq1.out] at L1 ⊢
  rw [← hN.out] at hblk t1 ⊢
  rw [← hq0.out]
  have HSS : Hid (∀ W : World, Below W1.heap.size W1 W → (fun w' => w'.cell? ⟨B, 6, none⟩ = some (.int .u32 q0) ∧ w'.cell? ⟨B, 7, none⟩ = some (.slice ta N tc) ∧ w'.cell? ⟨B, 8, none⟩ = some (.int .i64 s.timer) ∧ w'.cell? ⟨B, 9, none⟩ = some (.int .i64 s.rto) ∧ w'.cell? ⟨B, 10, none⟩ = some (.int .i64 s.count) ∧ w'.cell? ⟨B, 11, none⟩ = some (.int .i64 s.probe) ∧ w'.cell? ⟨B, 12, none⟩ = some (.int .i64 s.dead)) W) := fun W hW => by
    obtain ⟨⟨k0, k1, k2, k3, k4, k5, k6, k7, k8, k9, k10, k11, k12⟩, _⟩ := cells13 ((hW.block B (Nat.lt_of_lt_of_le hB hb1.size)).trans hblk)
    exact ⟨by rw [hq0.out]; exact k6, k7, k8, k9, k10, k11, k12⟩
  obtain ⟨k6, k7, k8, k9, k10, k11, k12⟩ := HSS.out W1 (Below.refl _ _)
  have L2 := fun (W : World) (hW : Below W1.heap.size W1 W) => copyInts ta s.tags N tc hN.out.symm W (t4.moved hW) (by have := hN.out; omega) t3
  have hsz1 : w.heap.size < W1.heap.size := by rw [hW1]; simp
  clear hblk hS1 hv t4
  go_enter Try.func42, Try.ntmps42
  go_wp2_with fail
  rw [← hW1]
  clear hW1
  go_region_held3 (fun w' => w'.cell? ⟨B, 6, none⟩ = some (.int .u32 q0) ∧ w'.cell? ⟨B, 7, none⟩ = some (.slice ta N tc) ∧ w'.cell? ⟨B, 8, none⟩ = some (.int .i64 s.timer) ∧ w'.cell? ⟨B, 9, none⟩ = some (.int .i64 s.rto) ∧ w'.cell? ⟨B, 10, none⟩ = some (.int .i64 s.count) ∧ w'.cell? ⟨B, 11, none⟩ = some (.int .i64 s.probe) ∧ w'.cell? ⟨B, 12, none⟩ = some (.int .i64 s.dead))
    (first | (go_keep; done) | exact ⟨by assumption, by assumption, by assumption, by assumption, by assumption, by assumption, by assumption⟩)
    (first
      | (go_at_call 62; with_reducible (refine Calls.mono L1 ?_); rintro e w5 ⟨rfl, hb5⟩; have hb5' := below_undrew hb5; obtain ⟨j6, j7, j8, j9, j10, j11, j12⟩ := HSS.out w5 hb5'; have L3 := L2 w5 hb5')
      | (go_at_call 63; with_reducible (refine Calls.mono L3 ?_); rintro e w6 ⟨av, cp, rfl, ho6, hb6⟩; have hb6' := hb5'.trans (hb6.mono hb5'.size); obtain ⟨i6, i7, i8, i9, i10, i11, i12⟩ := HSS.out w6 hb6'; have hR6 := (hb6'.block _ hsz1).trans hR1; obtain ⟨⟨y0, y1, y2, y3, y4, y5, y6, y7⟩, g0, g1, g2, g3, g4, g5, g6, g7⟩ := cells8 hR6))
  all_goals
    have hZ := put8_block hR6 (.int .u32 q0) (.int .u32 q1) (.slice av N cp) (.int .i64 s.timer) (.int .i64 s.rto) (.int .i64 s.count) (.int .i64 s.probe) (.int .i64 s.dead)
    have hO := put8_other w6 w.heap.size (.int .u32 q0) (.int .u32 q1) (.slice av N cp) (.int .i64 s.timer) (.int .i64 s.rto) (.int .i64 s.count) (.int .i64 s.probe) (.int .i64 s.dead)
    have hbw6 := hb1.trans (hb6'.mono hb1.size)
    have hbZ := put8_below hbw6 w.heap.size (Nat.le_refl _) (.int .u32 q0) (.int .u32 q1) (.slice av N cp) (.int .i64 s.timer) (.int .i64 s.rto) (.int .i64 s.count) (.int .i64 s.probe) (.int .i64 s.dead)
    have ho7 := row_same ho6 hO (by have := hb5'.size; omega)
    obtain ⟨⟨z0, z1, z2, z3, z4, z5, z6, z7⟩, _⟩ := cells8 hZ
    go_wp2
    exact bodyPost_ret (v := .agg #[.int .u32 q0, .int .u32 q1, .slice av N cp, .int .i64 s.timer, .int .i64 s.rto, .int .i64 s.count, .int .i64 s.probe, .int .i64 s.dead]) (by simp [results, Try.results42, go_sem, z0, z1, z2, z3, z4, z5, z6, z7]) rfl ⟨av, cp, rfl, own_base ho7 (by have := hb5'.size; omega), hbZ⟩

/-- What SubState answers. -/
def StateIs (c : Cf) (es : Triples) (w : World) (e : Ending) (w' : World) : Prop :=
  (c.Ok ∧ es.length ≤ 4000 ∧ ∃ av cp, e = .returned (.tuple #[viewV c (stAt c es) (.slice av (stAt c es).tags.length cp), .int .i64 0]) ∧ w'.ownsRow w.heap.size 2 1 (.slice av (stAt c es).tags.length cp) (stAt c es).tags.length ((stAt c es).tags.map (.int .i64)) ∧ Below w.heap.size w w') ∨
  (¬ c.Ok ∧ e = .returned (.tuple #[zeroView, .int .i64 17]) ∧ Below w.heap.size w w') ∨
  (c.Ok ∧ 4000 < es.length ∧ e = .returned (.tuple #[zeroView, .int .i64 5]) ∧ Below w.heap.size w w')

end Go.Proofs.Ytincfdhfoaimbaa
