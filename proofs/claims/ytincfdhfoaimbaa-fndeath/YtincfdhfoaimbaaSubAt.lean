import Derived.Test.YtincfdhfoaimbaaSubImpl2
namespace Go.Proofs.Ytincfdhfoaimbaa
open Go.ChangeShapes Go.WideShapes Go.ChangeAt Go.RowKit
set_option linter.unusedVariables false

/-- A sender on the way of a call that began in w0; its answer lies in the block that w0 ends at. -/
structure At (w0 : World) (B base : Nat) (c : Cf) (r : Option Nat) (s : St) (v : Value) (w : World) : Prop where
  snd : SndAt w B base c s v
  mv : Mv w0 w B r
  hb : B < w0.heap.size
  hv : v.ownBlock ≠ some w0.heap.size

section
variable {w0 w : World} {B base : Nat} {c : Cf} {r : Option Nat} {s : St} {v : Value}
theorem At.begin (h : SndAt w B base c s v) : At w B base c r s v w := ⟨h, Mv.refl w B r, h.lt, fun e => by have := (h.row.lt e).2; omega⟩
theorem At.alloc (h : At w0 B base c r s v w) (o : Obj) : At w0 B base c r s v (w.alloc o) := ⟨alloc_keeps h.snd o, h.mv.alloc o, h.hb, h.hv⟩
theorem At.drewN (h : At w0 B base c r s v w) (n : Nat) : At w0 B base c r s v (w.drewN n) := ⟨h.snd.moved (below_drewN (Below.refl _ _) n), ⟨h.mv.os, h.mv.tape, h.mv.output, h.mv.size, h.mv.block⟩, h.hb, h.hv⟩
theorem At.drew (h : At w0 B base c r s v w) : At w0 B base c r s v w.drew := ⟨h.snd.moved (Below.refl _ _).drew, h.mv.drew, h.hb, h.hv⟩
theorem At.below (h : At w0 B base c r s v w) {w' : World} (hb : Below w.heap.size w w') : At w0 B base c r s v w' := ⟨h.snd.moved hb, h.mv.below hb h.mv.size, h.hb, h.hv⟩
theorem At.box (h : At w0 B base c r s v w) (j : Nat) (x : Value) : At w0 B base c r s v (w.setCell ⟨w0.heap.size, j, none⟩ x) :=
  ⟨⟨(heap_setCell_other _ _ _ _ (by have := h.hb; simp; omega)).trans h.snd.blk, h.snd.row.kept fun k hk => heap_setCell_other _ _ _ _ (fun e => h.hv (by rw [hk, e])), h.snd.ne⟩, h.mv.grown (grown_set _ _ _ _) (.inr (.inr fun k hk => by have := Option.some.inj hk; omega)), h.hb, h.hv⟩
theorem At.put (h : At w0 B base c r s v w) (i : Nat) (x : Value) {s' : St} (ht : s'.tags = s.tags) (hc : (sndCells c s v).setIfInBounds i x = sndCells c s' v) : At w0 B base c r s' v (w.setCell ⟨B, i, none⟩ x) :=
  ⟨snd_put h.snd (fun k hk => heap_setCell_other _ _ _ _ hk) ht (by rw [Go.Joins.block_setCell h.snd.blk _, hc]), h.mv.set i x, h.hb, h.hv⟩
theorem At.timer (h : At w0 B base c r s v w) (x : Int) : At w0 B base c r { s with timer := x } v (w.setCell ⟨B, 8, none⟩ (.int .i64 x)) := h.put 8 _ rfl rfl
theorem At.rto (h : At w0 B base c r s v w) (x : Int) : At w0 B base c r { s with rto := x } v (w.setCell ⟨B, 9, none⟩ (.int .i64 x)) := h.put 9 _ rfl rfl
theorem At.count (h : At w0 B base c r s v w) (x : Int) : At w0 B base c r { s with count := x } v (w.setCell ⟨B, 10, none⟩ (.int .i64 x)) := h.put 10 _ rfl rfl
theorem At.probe (h : At w0 B base c r s v w) (x : Int) : At w0 B base c r { s with probe := x } v (w.setCell ⟨B, 11, none⟩ (.int .i64 x)) := h.put 11 _ rfl rfl
theorem At.dead (h : At w0 B base c r s v w) (x : Int) : At w0 B base c r { s with dead := x } v (w.setCell ⟨B, 12, none⟩ (.int .i64 x)) := h.put 12 _ rfl rfl
end
/-- An answer that is numbers alone. -/
theorem At.plain {w0 w : World} {B base : Nat} {c : Cf} {s s' : St} {v : Value} {R : Ot × St} (h : At w0 B base c none s' v w) (hs : s' = R.2) (hf : R.1.frames = []) (ha : R.1.acked = []) {e : Ending}
    (he : e = .returned (.agg #[.int .i64 R.1.code, .slice none 0 0, .slice none 0 0, .int .i64 R.1.died, .int .i64 R.1.revived])) : StepsTo w0 B base c v R e w := by
  subst hs
  exact stepsTo_plain (s := R.2) h.snd hf ha h.mv he

theorem box_new (W : World) (o : Obj) (b : Nat) (h : b = W.heap.size) : (W.alloc o).heap[b]? = some o := by subst h; exact heap_alloc_new W o
abbrev zeroOut : Obj := .cells #[.int .i64 0, .slice none 0 0, .slice none 0 0, .int .i64 0, .int .i64 0] 47
theorem cells5 {w : World} {B : Nat} {t : TypeId} {x0 x1 x2 x3 x4 : Value} (h : w.heap[B]? = some (.cells #[x0, x1, x2, x3, x4] t (0, 0))) :
    (w.cell? ⟨B, 0, none⟩ = some x0 ∧ w.cell? ⟨B, 1, none⟩ = some x1 ∧ w.cell? ⟨B, 2, none⟩ = some x2 ∧ w.cell? ⟨B, 3, none⟩ = some x3 ∧ w.cell? ⟨B, 4, none⟩ = some x4) ∧ w.frozen? ⟨B, 0, none⟩ = false ∧ w.frozen? ⟨B, 1, none⟩ = false ∧ w.frozen? ⟨B, 2, none⟩ = false ∧ w.frozen? ⟨B, 3, none⟩ = false ∧ w.frozen? ⟨B, 4, none⟩ = false :=
  ⟨⟨Go.Joins.cell_of_block h 0, Go.Joins.cell_of_block h 1, Go.Joins.cell_of_block h 2, Go.Joins.cell_of_block h 3, Go.Joins.cell_of_block h 4⟩, Go.Joins.unfrozen_of_block h _, Go.Joins.unfrozen_of_block h _, Go.Joins.unfrozen_of_block h _, Go.Joins.unfrozen_of_block h _, Go.Joins.unfrozen_of_block h _⟩
/-- A row of the answer stays when the answer's box is filled. -/
theorem own_box {w : World} {base R : Nat} {e : TypeId} {size : Nat} {v : Value} {n : Nat} {xs : List Value} (h : w.ownsRow base e size v n xs) (hR : R < base) (x0 x1 x2 x3 x4 : Value) :
    (((((w.setCell ⟨R, 0, none⟩ x0).setCell ⟨R, 1, none⟩ x1).setCell ⟨R, 2, none⟩ x2).setCell ⟨R, 3, none⟩ x3).setCell ⟨R, 4, none⟩ x4).ownsRow base e size v n xs := by
  have hv : v.ownBlock ≠ some R := fun e => by have := (h.lt R e).1; omega
  exact own_put (own_put (own_put (own_put (own_put h hv) hv) hv) hv) hv
theorem own_base {w : World} {base b2 : Nat} {e : TypeId} {size : Nat} {v : Value} {n : Nat} {xs : List Value} (h : w.ownsRow base e size v n xs) (hb : b2 ≤ base) : w.ownsRow b2 e size v n xs := by
  refine ⟨h.1, ?_⟩
  rcases h.2 with hn | ⟨g, cap, cur, rfl, hg, rest⟩
  · exact .inl hn
  · exact .inr ⟨g, cap, cur, rfl, Nat.le_trans hb hg, rest⟩

set_option maxHeartbeats 400000 in
theorem timeout_dies (B base : Nat) (c : Cf) (hc : c.Ok) (s : St) (v : Value) (w : World) (h : SndAt w B base c s v) (c0 : 0 ≤ s.count) (c1 : s.count ≤ 8) (hda : c.da ≤ s.count + 1) :
    Calls Try.prog 94 #[.pointer (some ⟨B, 0, none⟩)] w (StepsTo w B base c v (⟨0, [], [], 1, 0⟩, { s with count := s.count + 1, dead := 1, probe := c.pe })) := by
  obtain ⟨⟨k0, k1, k2, k3, k4, k5, k6, k7, k8, k9, k10, k11, k12⟩, kf⟩ := cells13 h.blk
  have f10 := kf 10
  have f11 := kf 11
  have f12 := kf 12
  have hB := h.lt
  have nB : ¬ B = w.heap.size := by omega
  have nB2 : ¬ w.heap.size = B := by omega
  clear kf
  have hA : At w B base c none s v w := At.begin h
  go_enter Try.func94, Try.ntmps94
  go_wp2
  go_quiet (fail)
  go_wp2
  exact bodyPost_ret (v := .agg #[.int .i64 0, .slice none 0 0, .slice none 0 0, .int .i64 1, .int .i64 0]) (by simp [results, Try.results94, go_sem]) rfl
    ((((((((((hA.count _).alloc _).drewN _).dead _).probe _).box 0 _).box 1 _).box 2 _).box 3 _).box 4 _ |>.plain (s := s) rfl rfl rfl rfl)

set_option maxHeartbeats 400000 in
theorem timeout_again (B base : Nat) (c : Cf) (hc : c.Ok) (s : St) (v : Value) (w : World) (h : SndAt w B base c s v) (hl : s.tags.length ≤ 5000) (r0 : 1 ≤ s.rto) (r1 : s.rto ≤ 400) (c0 : 0 ≤ s.count) (c1 : s.count ≤ 8) (hda : ¬ c.da ≤ s.count + 1) :
    Calls Try.prog 94 #[.pointer (some ⟨B, 0, none⟩)] w (StepsTo w B base c v (⟨0, againF c s.done s.tags, [], 0, 0⟩, { s with count := s.count + 1, rto := min (2 * s.rto) c.mrto, timer := min (2 * s.rto) c.mrto })) := by
  obtain ⟨⟨k0, k1, k2, k3, k4, k5, k6, k7, k8, k9, k10, k11, k12⟩, kf⟩ := cells13 h.blk
  have f10 := kf 10
  have f9 := kf 9
  have f8 := kf 8
  have hB := h.lt
  have nB : ¬ B = w.heap.size := by omega
  have nB2 : ¬ w.heap.size = B := by omega
  clear kf
  have hc' := hc
  unfold Cf.Ok at hc'
  have hA : At w B base c none s v w := At.begin h
  by_cases hle : 2 * s.rto ≤ c.mrto
  · rw [Int.min_eq_left hle]
    go_enter Try.func94, Try.ntmps94
    go_wp2
    go_quiet (fail)
    go_wp2_with fail
    go_region
    go_wp2_with fail
    have hA4 := (((((hA.count (s.count + 1)).alloc zeroOut).drewN (nq + 1)).rto (2 * s.rto)).timer (2 * s.rto))
    have hR4 : ((((((w.setCell ⟨B, 10, none⟩ (.int .i64 (s.count + 1))).alloc zeroOut).drewN (nq + 1)).setCell ⟨B, 9, none⟩ (.int .i64 (2 * s.rto))).setCell ⟨B, 8, none⟩ (.int .i64 (2 * s.rto)))).heap[w.heap.size]? = some zeroOut := by
      rw [heap_setCell_other _ _ _ _ nB2, heap_setCell_other _ _ _ _ nB2]
      exact box_new _ zeroOut w.heap.size (by simp)
    have hz4 : w.heap.size < ((((((w.setCell ⟨B, 10, none⟩ (.int .i64 (s.count + 1))).alloc zeroOut).drewN (nq + 1)).setCell ⟨B, 9, none⟩ (.int .i64 (2 * s.rto))).setCell ⟨B, 8, none⟩ (.int .i64 (2 * s.rto)))).heap.size := (Array.getElem?_eq_some_iff.1 hR4).1
    refine (again_any B base c _ v _ hA4.snd hl).mono ?_
    rintro e w5 ⟨av, cp, rfl, ho5, hb5⟩
    have hA5 := hA4.below hb5
    obtain ⟨⟨r0, r1, r2, r3, r4⟩, q0, q1, q2, q3, q4⟩ := cells5 ((hb5.block _ hz4).trans hR4)
    go_wp2
    exact bodyPost_ret (v := .agg #[.int .i64 0, .slice av s.tags.length cp, .slice none 0 0, .int .i64 0, .int .i64 0]) (by simp [results, Try.results94, go_sem, r0, r1, r2, r3, r4]) rfl
      ⟨_, _, v, rfl, (((((hA5.box 0 _).box 1 _).box 2 _).box 3 _).box 4 _).snd, .inl rfl, own_base (own_box (by rw [againF_length]; exact ho5) hz4 _ _ _ _ _) (by omega), World.ownsRow_nil _ _ _ _, (fun k hk => by cases hk), mv_none (((((hA5.box 0 _).box 1 _).box 2 _).box 3 _).box 4 _).mv⟩
  · rw [Int.min_eq_right (by omega)]
    go_enter Try.func94, Try.ntmps94
    go_wp2
    go_quiet (fail)
    go_wp2_with fail
    go_region
    go_wp2_with fail
    have hA4 := (((((hA.count (s.count + 1)).alloc zeroOut).drewN (nq + 1)).rto (c.mrto)).timer (c.mrto))
    have hR4 : ((((((w.setCell ⟨B, 10, none⟩ (.int .i64 (s.count + 1))).alloc zeroOut).drewN (nq + 1)).setCell ⟨B, 9, none⟩ (.int .i64 (c.mrto))).setCell ⟨B, 8, none⟩ (.int .i64 (c.mrto)))).heap[w.heap.size]? = some zeroOut := by
      rw [heap_setCell_other _ _ _ _ nB2, heap_setCell_other _ _ _ _ nB2]
      exact box_new _ zeroOut w.heap.size (by simp)
    have hz4 : w.heap.size < ((((((w.setCell ⟨B, 10, none⟩ (.int .i64 (s.count + 1))).alloc zeroOut).drewN (nq + 1)).setCell ⟨B, 9, none⟩ (.int .i64 (c.mrto))).setCell ⟨B, 8, none⟩ (.int .i64 (c.mrto)))).heap.size := (Array.getElem?_eq_some_iff.1 hR4).1
    refine (again_any B base c _ v _ hA4.snd hl).mono ?_
    rintro e w5 ⟨av, cp, rfl, ho5, hb5⟩
    have hA5 := hA4.below hb5
    obtain ⟨⟨r0, r1, r2, r3, r4⟩, q0, q1, q2, q3, q4⟩ := cells5 ((hb5.block _ hz4).trans hR4)
    go_wp2
    exact bodyPost_ret (v := .agg #[.int .i64 0, .slice av s.tags.length cp, .slice none 0 0, .int .i64 0, .int .i64 0]) (by simp [results, Try.results94, go_sem, r0, r1, r2, r3, r4]) rfl
      ⟨_, _, v, rfl, (((((hA5.box 0 _).box 1 _).box 2 _).box 3 _).box 4 _).snd, .inl rfl, own_base (own_box (by rw [againF_length]; exact ho5) hz4 _ _ _ _ _) (by omega), World.ownsRow_nil _ _ _ _, (fun k hk => by cases hk), mv_none (((((hA5.box 0 _).box 1 _).box 2 _).box 3 _).box 4 _).mv⟩
end Go.Proofs.Ytincfdhfoaimbaa
