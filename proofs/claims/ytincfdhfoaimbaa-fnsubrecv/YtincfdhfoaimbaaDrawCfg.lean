import Derived.Test.YtincfdhfoaimbaaSubTop3
import Derived.Test.YtincfdhfoaimbaaDrawsS
namespace Go.Proofs.Ytincfdhfoaimbaa
open Go.ChangeShapes Go.WideShapes Go.ChangeAt Go.RowKit
set_option linter.unusedVariables false

theorem wrap_fit (x : Int) (h0 : -9223372036854775808 ≤ x) (h1 : x ≤ 9223372036854775807) : IntKind.i64.wrap x = x := by
  exact Go.IntWalk.i64_in x ⟨h0, h1⟩
theorem Drawing.lt {w0 w : World} {b : Nat} {a : Option Addr} {n cap : Nat} (h : Drawing w0 w b a n cap) : b < w.heap.size := by
  obtain ⟨pos, st, hh, _⟩ := h.src
  exact (Array.getElem?_eq_some_iff.1 hh).1
theorem Drawing.grown {w0 w w' : World} {b : Nat} {a : Option Addr} {n cap : Nat} {row : Option Nat} (h : Drawing w0 w b a n cap) (hg : w.grownBy w' row) (hr : ∀ k, row = some k → w0.heap.size ≤ k ∧ k ≠ b) : Drawing w0 w' b a n cap := by
  obtain ⟨pos, st, hh, rest⟩ := h.src
  exact ⟨h.bel.grown hg h.bel.size (fun k hk => (hr k hk).1), h.new, pos, st, (hg.block b h.lt (fun e => (hr b e.symm).2 rfl)).trans hh, rest⟩
theorem Drawing.alloc {w0 w : World} {b : Nat} {a : Option Addr} {n cap : Nat} (h : Drawing w0 w b a n cap) (o : Obj) : Drawing w0 (w.alloc o) b a n cap := h.grown (World.grownBy_alloc w o none) (by simp)
theorem Drawing.drew {w0 w : World} {b : Nat} {a : Option Addr} {n cap : Nat} (h : Drawing w0 w b a n cap) : Drawing w0 w.drew b a n cap := ⟨h.bel.drew, h.new, h.src⟩
theorem Drawing.put {w0 w : World} {b : Nat} {a : Option Addr} {n cap : Nat} (h : Drawing w0 w b a n cap) (k j : Nat) (x : Value) (hk : w0.heap.size ≤ k) (hb : k ≠ b) : Drawing w0 (w.setCell ⟨k, j, none⟩ x) b a n cap := h.grown (grown_set w k j x) (fun i hi => by obtain rfl := Option.some.inj hi; exact ⟨hk, hb⟩)
theorem cells6 {w : World} {B : Nat} {t : TypeId} {x0 x1 x2 x3 x4 x5 : Value} (h : w.heap[B]? = some (.cells #[x0, x1, x2, x3, x4, x5] t (0, 0))) :
    (w.cell? ⟨B, 0, none⟩ = some x0 ∧ w.cell? ⟨B, 1, none⟩ = some x1 ∧ w.cell? ⟨B, 2, none⟩ = some x2 ∧ w.cell? ⟨B, 3, none⟩ = some x3 ∧ w.cell? ⟨B, 4, none⟩ = some x4 ∧ w.cell? ⟨B, 5, none⟩ = some x5) ∧ ∀ i, w.frozen? ⟨B, i, none⟩ = false :=
  ⟨⟨Go.Joins.cell_of_block h 0, Go.Joins.cell_of_block h 1, Go.Joins.cell_of_block h 2, Go.Joins.cell_of_block h 3, Go.Joins.cell_of_block h 4, Go.Joins.cell_of_block h 5⟩, fun i => Go.Joins.unfrozen_of_block h i⟩
abbrev put6 (w : World) (R : Nat) (x0 x1 x2 x3 x4 x5 : Value) : World := (((((w.setCell ⟨R, 0, none⟩ x0).setCell ⟨R, 1, none⟩ x1).setCell ⟨R, 2, none⟩ x2).setCell ⟨R, 3, none⟩ x3).setCell ⟨R, 4, none⟩ x4).setCell ⟨R, 5, none⟩ x5
theorem put6_block {w : World} {R : Nat} {t : TypeId} {y0 y1 y2 y3 y4 y5 : Value} (h : w.heap[R]? = some (.cells #[y0, y1, y2, y3, y4, y5] t (0, 0))) (x0 x1 x2 x3 x4 x5 : Value) : (put6 w R x0 x1 x2 x3 x4 x5).heap[R]? = some (.cells #[x0, x1, x2, x3, x4, x5] t (0, 0)) := by
  have h0 := heap_setCell_same w R 0 _ _ x0 h
  have h1 := heap_setCell_same _ R 1 _ _ x1 h0
  have h2 := heap_setCell_same _ R 2 _ _ x2 h1
  have h3 := heap_setCell_same _ R 3 _ _ x3 h2
  have h4 := heap_setCell_same _ R 4 _ _ x4 h3
  have h5 := heap_setCell_same _ R 5 _ _ x5 h4
  exact h5
theorem put6_grown (w : World) (R : Nat) (x0 x1 x2 x3 x4 x5 : Value) : w.grownBy (put6 w R x0 x1 x2 x3 x4 x5) (some R) := grown_trans (grown_trans (grown_trans (grown_trans (grown_trans (grown_set w R 0 x0) (grown_set _ R 1 x1)) (grown_set _ R 2 x2)) (grown_set _ R 3 x3)) (grown_set _ R 4 x4)) (grown_set _ R 5 x5)
theorem put6_drawing {w0 w : World} {b : Nat} {a : Option Addr} {n cap : Nat} (h : Drawing w0 w b a n cap) (R : Nat) (hR : w0.heap.size ≤ R) (hb : R ≠ b) (x0 x1 x2 x3 x4 x5 : Value) : Drawing w0 (put6 w R x0 x1 x2 x3 x4 x5) b a n cap := h.grown (put6_grown w R x0 x1 x2 x3 x4 x5) (fun i hi => by obtain rfl := Option.some.inj hi; exact ⟨hR, hb⟩)
/-- What has grown, but for one block. -/
structure Gr (w w' : World) (b : Nat) : Prop where
  os : w'.os = w.os
  tape : w'.tape = w.tape
  output : w'.output = w.output
  size : w.heap.size ≤ w'.heap.size
  block : ∀ k, k < w.heap.size → k ≠ b → w'.heap[k]? = w.heap[k]?
theorem Gr.refl (w : World) (b : Nat) : Gr w w b := ⟨rfl, rfl, rfl, Nat.le_refl _, fun _ _ _ => rfl⟩
theorem Gr.grown {w w1 w2 : World} {b : Nat} {row : Option Nat} (h : Gr w w1 b) (hg : w1.grownBy w2 row) (hr : ∀ k, row = some k → k = b ∨ w.heap.size ≤ k) : Gr w w2 b :=
  ⟨hg.os.trans h.os, hg.tape.trans h.tape, hg.output.trans h.output, Nat.le_trans h.size hg.size, fun k h1 h2 => (hg.block k (Nat.lt_of_lt_of_le h1 h.size) (fun e => by rcases hr k e.symm with h | h <;> omega)).trans (h.block k h1 h2)⟩
theorem Gr.alloc {w w1 : World} {b : Nat} (h : Gr w w1 b) (o : Obj) : Gr w (w1.alloc o) b := h.grown (World.grownBy_alloc w1 o none) (by simp)
theorem Gr.drew {w w1 : World} {b : Nat} (h : Gr w w1 b) : Gr w w1.drew b := ⟨h.os, h.tape, h.output, h.size, h.block⟩
theorem Gr.next {w w1 w2 : World} {b : Nat} (h : Gr w w1 b) (hg : w1.grownBy w2 (some b)) : Gr w w2 b := h.grown hg (fun k hk => .inl (Option.some.inj hk).symm)
theorem Gr.put {w w1 : World} {b : Nat} (h : Gr w w1 b) (k j : Nat) (x : Value) (hk : w.heap.size ≤ k) : Gr w (w1.setCell ⟨k, j, none⟩ x) b := h.grown (grown_set w1 k j x) (fun i hi => .inr (by obtain rfl := Option.some.inj hi; exact hk))
theorem Gr.below {w w1 w2 : World} {b B : Nat} (h : Gr w w1 b) (hb : Below B w1 w2) (hB : w.heap.size ≤ B) : Gr w w2 b := ⟨hb.os.trans h.os, hb.tape.trans h.tape, hb.output.trans h.output, Nat.le_trans h.size hb.size, fun k h1 h2 => (hb.block k (Nat.lt_of_lt_of_le h1 hB)).trans (h.block k h1 h2)⟩
theorem Gr.toBelow {w0 w w' : World} {b : Nat} (hb : Below w0.heap.size w0 w) (h : Gr w w' b) (hn : w0.heap.size ≤ b) : Below w0.heap.size w0 w' := ⟨h.os.trans hb.os, h.tape.trans hb.tape, h.output.trans hb.output, Nat.le_trans hb.size h.size, fun k hk => (h.block k (Nat.lt_of_lt_of_le hk hb.size) (by omega)).trans (hb.block k hk)⟩

set_option maxHeartbeats 2000000 in
set_option maxRecDepth 100000 in
theorem drawConfig_any (w0 w : World) (b : Nat) (a : Option Addr) (zs : List Int) (cap : Nat) (hd : Drawing w0 w b a zs.length cap) (hz : Ints .u8 w0 a zs) (hv : ∀ x ∈ zs, 0 ≤ x ∧ x ≤ 255) (hl : zs.length ≤ 1048576) :
    Calls Try.prog 37 #[.pointer (some ⟨b, 0, none⟩)] w fun e w' => ∃ c : Cf, e = .returned (cfV c) ∧ c.Ok ∧ (0 ≤ c.isn ∧ c.isn ≤ 4294967295) ∧ Drawing w0 w' b a zs.length cap ∧ Gr w w' b := by
  have hbw := hd.lt
  have hs0 := hd.bel.size
  have hdA := hd.alloc (.cells #[.int .u32 0, .int .i64 0, .int .i64 0, .int .i64 0, .int .i64 0, .int .i64 0] 35)
  have G0 : Gr w (w.alloc (.cells #[.int .u32 0, .int .i64 0, .int .i64 0, .int .i64 0, .int .i64 0, .int .i64 0] 35)) b := (Gr.refl w b).alloc _
  have hR0 : (w.alloc (.cells #[.int .u32 0, .int .i64 0, .int .i64 0, .int .i64 0, .int .i64 0, .int .i64 0] 35)).heap[w.heap.size]? = some (.cells #[.int .u32 0, .int .i64 0, .int .i64 0, .int .i64 0, .int .i64 0, .int .i64 0] 35) := box_new _ _ _ rfl
  have z0 : w.heap.size < (w.alloc (.cells #[.int .u32 0, .int .i64 0, .int .i64 0, .int .i64 0, .int .i64 0, .int .i64 0] 35)).heap.size := by simp
  go_enter Try.func37, Try.ntmps37
  go_wp2_with fail
  refine (drawNext_any w0 _ b a zs cap 100 hdA hz hv hl (by omega) (by omega)).mono ?_
  rintro e w1 ⟨r1, rfl, l1, u1, hd1, g1⟩
  have G1 := G0.next g1
  have hR1 := (g1.block _ z0 (by simp; omega)).trans hR0
  have z1 := Nat.lt_of_lt_of_le z0 g1.size
  clear g1 G0 hR0 hdA
  go_wp2_with fail
  refine (drawNext_any w0 _ b a zs cap 6 hd1 hz hv hl (by omega) (by omega)).mono ?_
  rintro e w2 ⟨r2, rfl, l2, u2, hd2, g2⟩
  have G2 := G1.next g2
  have hR2 := (g2.block _ z1 (by simp; omega)).trans hR1
  have z2 := Nat.lt_of_lt_of_le z1 g2.size
  clear g2 G1 hR1 hd1
  go_wp2_with fail
  refine (drawNext_any w0 _ b a zs cap 4 hd2 hz hv hl (by omega) (by omega)).mono ?_
  rintro e w3 ⟨r3, rfl, l3, u3, hd3, g3⟩
  have G3 := G2.next g3
  have hR3 := (g3.block _ z2 (by simp; omega)).trans hR2
  have z3 := Nat.lt_of_lt_of_le z2 g3.size
  clear g3 G2 hR2 hd2
  go_wp2_with fail
  refine (drawNext_any w0 _ b a zs cap 4 hd3 hz hv hl (by omega) (by omega)).mono ?_
  rintro e w4 ⟨r4, rfl, l4, u4, hd4, g4⟩
  have G4 := G3.next g4
  have hR4 := (g4.block _ z3 (by simp; omega)).trans hR3
  have z4 := Nat.lt_of_lt_of_le z3 g4.size
  clear g4 G3 hR3 hd3
  go_wp2_with fail
  refine (drawNext_any w0 _ b a zs cap 4 hd4 hz hv hl (by omega) (by omega)).mono ?_
  rintro e w5 ⟨r5, rfl, l5, u5, hd5, g5⟩
  have G5 := G4.next g5
  have hR5 := (g5.block _ z4 (by simp; omega)).trans hR4
  have z5 := Nat.lt_of_lt_of_le z4 g5.size
  clear g5 G4 hR4 hd4
  go_wp2_with fail
  have hdC := hd5.alloc (.cells #[.int .u32 r1, .int .i64 (1 + r2), .int .i64 (1 + r3), .int .i64 0, .int .i64 (1 + r4), .int .i64 (1 + r5)] 35)
  have GC := G5.alloc (.cells #[.int .u32 r1, .int .i64 (1 + r2), .int .i64 (1 + r3), .int .i64 0, .int .i64 (1 + r4), .int .i64 (1 + r5)] 35)
  have hRC := (Below.heap_alloc w5 (.cells #[.int .u32 r1, .int .i64 (1 + r2), .int .i64 (1 + r3), .int .i64 0, .int .i64 (1 + r4), .int .i64 (1 + r5)] 35) _ z5).trans hR5
  have hC : (w5.alloc (.cells #[.int .u32 r1, .int .i64 (1 + r2), .int .i64 (1 + r3), .int .i64 0, .int .i64 (1 + r4), .int .i64 (1 + r5)] 35)).heap[w5.heap.size]? = some (.cells #[.int .u32 r1, .int .i64 (1 + r2), .int .i64 (1 + r3), .int .i64 0, .int .i64 (1 + r4), .int .i64 (1 + r5)] 35) := box_new _ _ _ rfl
  have zC : w5.heap.size < (w5.alloc (.cells #[.int .u32 r1, .int .i64 (1 + r2), .int .i64 (1 + r3), .int .i64 0, .int .i64 (1 + r4), .int .i64 (1 + r5)] 35)).heap.size := by simp
  obtain ⟨C, hCe⟩ : ∃ C, C = w5.heap.size := ⟨_, rfl⟩
  have hCR : w.heap.size < C := by omega
  rw [← hCe] at hC zC ⊢
  have HCE : Hid (C = w5.heap.size) := hCe
  clear hCe hR5 G5
  refine (drawNext_any w0 _ b a zs cap 2 hdC hz hv hl (by omega) (by omega)).mono ?_
  rintro e w6 ⟨r6, rfl, l6, u6, hd6, g6⟩
  have G6 := GC.next g6
  have hR6 := (g6.block _ (by omega) (by simp; omega)).trans hRC
  have hC6 := (g6.block _ zC (by simp; omega)).trans hC
  have z6 := Nat.lt_of_lt_of_le zC g6.size
  clear g6 GC hRC hC hdC zC
  by_cases h6 : r6 = 0
  · subst h6
    go_wp2_with fail
    refine (drawNext_any w0 _ b a zs cap 12 hd6 hz hv hl (by omega) (by omega)).mono ?_
    rintro e w7 ⟨r7, rfl, l7, u7, hd7, g7⟩
    have G7 := G6.next g7
    have hR7 := (g7.block _ (by omega) (by simp; omega)).trans hR6
    have hC7 := (g7.block _ z6 (by simp; omega)).trans hC6
    have z7 := Nat.lt_of_lt_of_le z6 g7.size
    clear g7 G6 hR6 hC6 hd6
    obtain ⟨⟨c0, c1, c2, c3, c4, c5⟩, cf⟩ := cells6 hC7
    have cf0 := cf 0
    clear cf
    obtain ⟨x, hxe⟩ : ∃ x, x = 4294967295 - r7 := ⟨_, rfl⟩
    have hxb : 0 ≤ x ∧ x ≤ 4294967295 := by omega
    have hwr : IntKind.u32.wrap r7 = r7 := by rw [IntKind.wrap_u32]; omega
    have hdV := hd7.put C 0 (.int .u32 x) (by omega) (by omega)
    have GV := G7.put C 0 (.int .u32 x) (by omega)
    have hRV := (heap_setCell_other w7 ⟨C, 0, none⟩ w.heap.size (.int .u32 x) (by simp; omega)).trans hR7
    have hCV := heap_setCell_same w7 C 0 _ _ (.int .u32 x) hC7
    obtain ⟨V, hVe, hdV, GV, hRV, hCV, zV⟩ : ∃ W, W = w7.setCell ⟨C, 0, none⟩ (.int .u32 x) ∧ Drawing w0 W b a zs.length cap ∧ Gr w W b ∧ W.heap[w.heap.size]? = some (.cells #[.int .u32 0, .int .i64 0, .int .i64 0, .int .i64 0, .int .i64 0, .int .i64 0] 35) ∧ W.heap[C]? = some (.cells #[.int .u32 x, .int .i64 (1 + r2), .int .i64 (1 + r3), .int .i64 0, .int .i64 (1 + r4), .int .i64 (1 + r5)] 35) ∧ C < W.heap.size := ⟨_, rfl, hdV, GV, hRV, hCV, by simpa using z7⟩
    rw [hxe] at hVe
    go_wp2_with fail
    rw [← hVe]
    clear hVe hd7 G7 hR7 hC7 c0 c1 c2 c3 c4 c5 cf0 hxe
    obtain ⟨⟨c0, c1, c2, c3, c4, c5⟩, cf⟩ := cells6 hCV
    have n1 : C ≠ b := by omega
    have n3 : ¬ C = w.heap.size := by omega
    have n4 : ¬ w.heap.size = C := by omega
    have L8 := drawNext_any w0 V.drew b a zs cap 12 hdV.drew hz hv hl (by omega) (by omega)
    have HK : Hid (∀ w8 : World, V.drew.grownBy w8 (some b) → w8.heap[w.heap.size]? = some (.cells #[.int .u32 0, .int .i64 0, .int .i64 0, .int .i64 0, .int .i64 0, .int .i64 0] 35) ∧ w8.heap[C]? = some (.cells #[.int .u32 x, .int .i64 (1 + r2), .int .i64 (1 + r3), .int .i64 0, .int .i64 (1 + r4), .int .i64 (1 + r5)] 35) ∧ Gr w w8 b ∧ C < w8.heap.size ∧ (w8.cell? ⟨C, 2, none⟩ = some (.int .i64 (1 + r3)) ∧ w8.cell? ⟨C, 3, none⟩ = some (.int .i64 0)) ∧ w8.frozen? ⟨C, 3, none⟩ = false) := by
      unfold Hid
      intro w8 g8
      have h1 := (g8.block _ (show w.heap.size < V.drew.heap.size by have := zV; simp; omega) (by simp; omega)).trans hRV
      have h2 := (g8.block _ (show C < V.drew.heap.size from zV) (by simp; omega)).trans hCV
      exact ⟨h1, h2, GV.drew.next g8, Nat.lt_of_lt_of_le zV g8.size, ⟨Go.Joins.cell_of_block h2 2, Go.Joins.cell_of_block h2 3⟩, Go.Joins.unfrozen_of_block h2 3⟩
    clear cf hdV
    go_region_held3 (fun w' => w'.cell? ⟨C, 2, none⟩ = some (.int .i64 (1 + r3)))
      (first | (go_keep; done) | assumption | exact (World.cell?_setCell_other _ _ _ _ (by simp)).trans (by assumption))
      (first | (go_at_call 38; with_reducible (refine Calls.mono L8 ?_); rintro e w8 ⟨r8, rfl, l8, u8, hd8, g8⟩; obtain ⟨hR8, hC8, G8, z8, ⟨k2, k3⟩, kf3⟩ := HK.out w8 g8; have hwz : IntKind.i64.wrap (1 + r3 + r8) = 1 + r3 + r8 := wrap_fit _ (by omega) (by omega)))
    all_goals
      clear L8 HK c0 c1 c2 c3 c4 c5 hRV hCV GV
      have hd9 := hd8.put C 3 (.int .i64 (1 + r3 + r8)) (by omega) n1
      have G9 := G8.put C 3 (.int .i64 (1 + r3 + r8)) (by omega)
      have hR9 := (heap_setCell_other w8 ⟨C, 3, none⟩ w.heap.size (.int .i64 (1 + r3 + r8)) n4).trans hR8
      have hC9 := heap_setCell_same w8 C 3 _ _ (.int .i64 (1 + r3 + r8)) hC8
      obtain ⟨V9, hV9, hd9, G9, hR9, hC9, z9⟩ : ∃ W, W = w8.setCell ⟨C, 3, none⟩ (.int .i64 (1 + r3 + r8)) ∧ Drawing w0 W b a zs.length cap ∧ Gr w W b ∧ W.heap[w.heap.size]? = some (.cells #[.int .u32 0, .int .i64 0, .int .i64 0, .int .i64 0, .int .i64 0, .int .i64 0] 35) ∧ W.heap[C]? = some (.cells #[.int .u32 x, .int .i64 (1 + r2), .int .i64 (1 + r3), .int .i64 (1 + r3 + r8), .int .i64 (1 + r4), .int .i64 (1 + r5)] 35) ∧ C < W.heap.size := ⟨_, rfl, hd9, G9, hR9, hC9, by simpa using z8⟩
      go_wp2_with fail
      rw [← hV9]
      clear hV9 hd8 G8 hR8 hC8 g8 k2 k3 kf3
      refine (drawNext_any w0 _ b a zs cap 10 hd9 hz hv hl (by omega) (by omega)).mono ?_
      rintro e w10 ⟨r10, rfl, l10, u10, hd10, g10⟩
      have G10 := G9.next g10
      have hR10 := (g10.block _ (by omega) (by simp; omega)).trans hR9
      have hC10 := (g10.block _ z9 (by simp; omega)).trans hC9
      have z10 := Nat.lt_of_lt_of_le z9 g10.size
      clear g10 G9 hR9 hC9 hd9
      obtain ⟨⟨c0, c1, c2, c3, c4, c5⟩, cf⟩ := cells6 hC10
      obtain ⟨⟨p0, p1, p2, p3, p4, p5⟩, pf⟩ := cells6 hR10
      have cf0 := cf 0
      have cf1 := cf 1
      have cf2 := cf 2
      have cf3 := cf 3
      have cf4 := cf 4
      have cf5 := cf 5
      have pf0 := pf 0
      have pf1 := pf 1
      have pf2 := pf 2
      have pf3 := pf 3
      have pf4 := pf 4
      have pf5 := pf 5
      clear cf pf
      by_cases h10 : r10 = 0
      · subst h10
        have hT := put6_block hC10 (.int .u32 x) (.int .i64 16) (.int .i64 50) (.int .i64 400) (.int .i64 8) (.int .i64 50)
        have hZ := put6_block ((put6_grown w10 C (.int .u32 x) (.int .i64 16) (.int .i64 50) (.int .i64 400) (.int .i64 8) (.int .i64 50)).block w.heap.size (by omega) (by simp; omega) |>.trans hR10) (.int .u32 x) (.int .i64 16) (.int .i64 50) (.int .i64 400) (.int .i64 8) (.int .i64 50)
        have hD := put6_drawing (put6_drawing hd10 C (by omega) n1 (.int .u32 x) (.int .i64 16) (.int .i64 50) (.int .i64 400) (.int .i64 8) (.int .i64 50)) w.heap.size (by omega) (by omega) (.int .u32 x) (.int .i64 16) (.int .i64 50) (.int .i64 400) (.int .i64 8) (.int .i64 50)
        have hG := (G10.grown (put6_grown w10 C (.int .u32 x) (.int .i64 16) (.int .i64 50) (.int .i64 400) (.int .i64 8) (.int .i64 50)) (fun k hk => .inr (by obtain rfl := Option.some.inj hk; omega))).grown (put6_grown _ w.heap.size (.int .u32 x) (.int .i64 16) (.int .i64 50) (.int .i64 400) (.int .i64 8) (.int .i64 50)) (fun k hk => .inr (by obtain rfl := Option.some.inj hk; omega))
        obtain ⟨⟨q0, q1, q2, q3, q4, q5⟩, _⟩ := cells6 hZ
        go_wp2
        exact bodyPost_ret (v := .agg #[.int .u32 x, .int .i64 16, .int .i64 50, .int .i64 400, .int .i64 8, .int .i64 50]) (by simp [results, Try.results37, go_sem, q0, q1, q2, q3, q4, q5]) rfl ⟨⟨x, 16, 50, 400, 8, 50⟩, rfl, by unfold Cf.Ok; simp, hxb, hD, hG⟩
      · have h10' : (r10 == 0) = false := by simpa using h10
        have hZ := put6_block hR10 (.int .u32 x) (.int .i64 (1 + r2)) (.int .i64 (1 + r3)) (.int .i64 (1 + r3 + r8)) (.int .i64 (1 + r4)) (.int .i64 (1 + r5))
        have hD := put6_drawing hd10 w.heap.size (by omega) (by omega) (.int .u32 x) (.int .i64 (1 + r2)) (.int .i64 (1 + r3)) (.int .i64 (1 + r3 + r8)) (.int .i64 (1 + r4)) (.int .i64 (1 + r5))
        have hG := G10.grown (put6_grown w10 w.heap.size (.int .u32 x) (.int .i64 (1 + r2)) (.int .i64 (1 + r3)) (.int .i64 (1 + r3 + r8)) (.int .i64 (1 + r4)) (.int .i64 (1 + r5))) (fun k hk => .inr (by obtain rfl := Option.some.inj hk; omega))
        obtain ⟨⟨q0, q1, q2, q3, q4, q5⟩, _⟩ := cells6 hZ
        go_wp2
        exact bodyPost_ret (v := .agg #[.int .u32 x, .int .i64 (1 + r2), .int .i64 (1 + r3), .int .i64 (1 + r3 + r8), .int .i64 (1 + r4), .int .i64 (1 + r5)]) (by simp [results, Try.results37, go_sem, q0, q1, q2, q3, q4, q5]) rfl ⟨⟨x, 1 + r2, 1 + r3, 1 + r3 + r8, 1 + r4, 1 + r5⟩, rfl, by unfold Cf.Ok; simp only; omega, hxb, hD, hG⟩

  · have h6' : (r6 == 0) = false := by simpa using h6
    obtain ⟨V, hVe, hdV, GV, hRV, hCV, zV⟩ : ∃ W, W = w6 ∧ Drawing w0 W b a zs.length cap ∧ Gr w W b ∧ W.heap[w.heap.size]? = some (.cells #[.int .u32 0, .int .i64 0, .int .i64 0, .int .i64 0, .int .i64 0, .int .i64 0] 35) ∧ W.heap[C]? = some (.cells #[.int .u32 r1, .int .i64 (1 + r2), .int .i64 (1 + r3), .int .i64 0, .int .i64 (1 + r4), .int .i64 (1 + r5)] 35) ∧ C < W.heap.size := ⟨_, rfl, hd6, G6, hR6, hC6, z6⟩
    have hxb : 0 ≤ r1 ∧ r1 ≤ 4294967295 := by omega
    go_wp2_with fail
    rw [← hVe]
    clear hVe hd6 G6 hR6 hC6
    obtain ⟨⟨c0, c1, c2, c3, c4, c5⟩, cf⟩ := cells6 hCV
    have n1 : C ≠ b := by omega
    have n3 : ¬ C = w.heap.size := by omega
    have n4 : ¬ w.heap.size = C := by omega
    have L8 := drawNext_any w0 V.drew b a zs cap 12 hdV.drew hz hv hl (by omega) (by omega)
    have HK : Hid (∀ w8 : World, V.drew.grownBy w8 (some b) → w8.heap[w.heap.size]? = some (.cells #[.int .u32 0, .int .i64 0, .int .i64 0, .int .i64 0, .int .i64 0, .int .i64 0] 35) ∧ w8.heap[C]? = some (.cells #[.int .u32 r1, .int .i64 (1 + r2), .int .i64 (1 + r3), .int .i64 0, .int .i64 (1 + r4), .int .i64 (1 + r5)] 35) ∧ Gr w w8 b ∧ C < w8.heap.size ∧ (w8.cell? ⟨C, 2, none⟩ = some (.int .i64 (1 + r3)) ∧ w8.cell? ⟨C, 3, none⟩ = some (.int .i64 0)) ∧ w8.frozen? ⟨C, 3, none⟩ = false) := by
      unfold Hid
      intro w8 g8
      have h1 := (g8.block _ (show w.heap.size < V.drew.heap.size by have := zV; simp; omega) (by simp; omega)).trans hRV
      have h2 := (g8.block _ (show C < V.drew.heap.size from zV) (by simp; omega)).trans hCV
      exact ⟨h1, h2, GV.drew.next g8, Nat.lt_of_lt_of_le zV g8.size, ⟨Go.Joins.cell_of_block h2 2, Go.Joins.cell_of_block h2 3⟩, Go.Joins.unfrozen_of_block h2 3⟩
    clear cf hdV
    go_region_held3 (fun w' => w'.cell? ⟨C, 2, none⟩ = some (.int .i64 (1 + r3)))
      (first | (go_keep; done) | assumption | exact (World.cell?_setCell_other _ _ _ _ (by simp)).trans (by assumption))
      (first | (go_at_call 38; with_reducible (refine Calls.mono L8 ?_); rintro e w8 ⟨r8, rfl, l8, u8, hd8, g8⟩; obtain ⟨hR8, hC8, G8, z8, ⟨k2, k3⟩, kf3⟩ := HK.out w8 g8; have hwz : IntKind.i64.wrap (1 + r3 + r8) = 1 + r3 + r8 := wrap_fit _ (by omega) (by omega)))
    all_goals
      clear L8 HK c0 c1 c2 c3 c4 c5 hRV hCV GV
      have hd9 := hd8.put C 3 (.int .i64 (1 + r3 + r8)) (by omega) n1
      have G9 := G8.put C 3 (.int .i64 (1 + r3 + r8)) (by omega)
      have hR9 := (heap_setCell_other w8 ⟨C, 3, none⟩ w.heap.size (.int .i64 (1 + r3 + r8)) n4).trans hR8
      have hC9 := heap_setCell_same w8 C 3 _ _ (.int .i64 (1 + r3 + r8)) hC8
      obtain ⟨V9, hV9, hd9, G9, hR9, hC9, z9⟩ : ∃ W, W = w8.setCell ⟨C, 3, none⟩ (.int .i64 (1 + r3 + r8)) ∧ Drawing w0 W b a zs.length cap ∧ Gr w W b ∧ W.heap[w.heap.size]? = some (.cells #[.int .u32 0, .int .i64 0, .int .i64 0, .int .i64 0, .int .i64 0, .int .i64 0] 35) ∧ W.heap[C]? = some (.cells #[.int .u32 r1, .int .i64 (1 + r2), .int .i64 (1 + r3), .int .i64 (1 + r3 + r8), .int .i64 (1 + r4), .int .i64 (1 + r5)] 35) ∧ C < W.heap.size := ⟨_, rfl, hd9, G9, hR9, hC9, by simpa using z8⟩
      go_wp2_with fail
      rw [← hV9]
      clear hV9 hd8 G8 hR8 hC8 g8 k2 k3 kf3
      refine (drawNext_any w0 _ b a zs cap 10 hd9 hz hv hl (by omega) (by omega)).mono ?_
      rintro e w10 ⟨r10, rfl, l10, u10, hd10, g10⟩
      have G10 := G9.next g10
      have hR10 := (g10.block _ (by omega) (by simp; omega)).trans hR9
      have hC10 := (g10.block _ z9 (by simp; omega)).trans hC9
      have z10 := Nat.lt_of_lt_of_le z9 g10.size
      clear g10 G9 hR9 hC9 hd9
      obtain ⟨⟨c0, c1, c2, c3, c4, c5⟩, cf⟩ := cells6 hC10
      obtain ⟨⟨p0, p1, p2, p3, p4, p5⟩, pf⟩ := cells6 hR10
      have cf0 := cf 0
      have cf1 := cf 1
      have cf2 := cf 2
      have cf3 := cf 3
      have cf4 := cf 4
      have cf5 := cf 5
      have pf0 := pf 0
      have pf1 := pf 1
      have pf2 := pf 2
      have pf3 := pf 3
      have pf4 := pf 4
      have pf5 := pf 5
      clear cf pf
      by_cases h10 : r10 = 0
      · subst h10
        have hT := put6_block hC10 (.int .u32 r1) (.int .i64 16) (.int .i64 50) (.int .i64 400) (.int .i64 8) (.int .i64 50)
        have hZ := put6_block ((put6_grown w10 C (.int .u32 r1) (.int .i64 16) (.int .i64 50) (.int .i64 400) (.int .i64 8) (.int .i64 50)).block w.heap.size (by omega) (by simp; omega) |>.trans hR10) (.int .u32 r1) (.int .i64 16) (.int .i64 50) (.int .i64 400) (.int .i64 8) (.int .i64 50)
        have hD := put6_drawing (put6_drawing hd10 C (by omega) n1 (.int .u32 r1) (.int .i64 16) (.int .i64 50) (.int .i64 400) (.int .i64 8) (.int .i64 50)) w.heap.size (by omega) (by omega) (.int .u32 r1) (.int .i64 16) (.int .i64 50) (.int .i64 400) (.int .i64 8) (.int .i64 50)
        have hG := (G10.grown (put6_grown w10 C (.int .u32 r1) (.int .i64 16) (.int .i64 50) (.int .i64 400) (.int .i64 8) (.int .i64 50)) (fun k hk => .inr (by obtain rfl := Option.some.inj hk; omega))).grown (put6_grown _ w.heap.size (.int .u32 r1) (.int .i64 16) (.int .i64 50) (.int .i64 400) (.int .i64 8) (.int .i64 50)) (fun k hk => .inr (by obtain rfl := Option.some.inj hk; omega))
        obtain ⟨⟨q0, q1, q2, q3, q4, q5⟩, _⟩ := cells6 hZ
        go_wp2
        exact bodyPost_ret (v := .agg #[.int .u32 r1, .int .i64 16, .int .i64 50, .int .i64 400, .int .i64 8, .int .i64 50]) (by simp [results, Try.results37, go_sem, q0, q1, q2, q3, q4, q5]) rfl ⟨⟨r1, 16, 50, 400, 8, 50⟩, rfl, by unfold Cf.Ok; simp, hxb, hD, hG⟩
      · have h10' : (r10 == 0) = false := by simpa using h10
        have hZ := put6_block hR10 (.int .u32 r1) (.int .i64 (1 + r2)) (.int .i64 (1 + r3)) (.int .i64 (1 + r3 + r8)) (.int .i64 (1 + r4)) (.int .i64 (1 + r5))
        have hD := put6_drawing hd10 w.heap.size (by omega) (by omega) (.int .u32 r1) (.int .i64 (1 + r2)) (.int .i64 (1 + r3)) (.int .i64 (1 + r3 + r8)) (.int .i64 (1 + r4)) (.int .i64 (1 + r5))
        have hG := G10.grown (put6_grown w10 w.heap.size (.int .u32 r1) (.int .i64 (1 + r2)) (.int .i64 (1 + r3)) (.int .i64 (1 + r3 + r8)) (.int .i64 (1 + r4)) (.int .i64 (1 + r5))) (fun k hk => .inr (by obtain rfl := Option.some.inj hk; omega))
        obtain ⟨⟨q0, q1, q2, q3, q4, q5⟩, _⟩ := cells6 hZ
        go_wp2
        exact bodyPost_ret (v := .agg #[.int .u32 r1, .int .i64 (1 + r2), .int .i64 (1 + r3), .int .i64 (1 + r3 + r8), .int .i64 (1 + r4), .int .i64 (1 + r5)]) (by simp [results, Try.results37, go_sem, q0, q1, q2, q3, q4, q5]) rfl ⟨⟨r1, 1 + r2, 1 + r3, 1 + r3 + r8, 1 + r4, 1 + r5⟩, rfl, by unfold Cf.Ok; simp only; omega, hxb, hD, hG⟩

end Go.Proofs.Ytincfdhfoaimbaa
