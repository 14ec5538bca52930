import Derived.Test.YtincfdhfoaimbaaSubAll
import Derived.Test.YtincfdhfoaimbaaFairL
namespace Go.Proofs.Ytincfdhfoaimbaa
open Go.ChangeShapes Go.WideShapes Go.ChangeAt Go.RowKit
set_option linter.unusedVariables false

abbrev cfV (c : Cf) : Value := .agg #[.int .u32 c.isn, .int .i64 c.win, .int .i64 c.rto, .int .i64 c.mrto, .int .i64 c.da, .int .i64 c.pe]
/-- The numbers of a configuration fit their types. -/
def Cf.Fits (c : Cf) : Prop := (0 ≤ c.isn ∧ c.isn ≤ 4294967295) ∧ (-9223372036854775808 ≤ c.win ∧ c.win ≤ 9223372036854775807) ∧ (-9223372036854775808 ≤ c.rto ∧ c.rto ≤ 9223372036854775807) ∧ (-9223372036854775808 ≤ c.mrto ∧ c.mrto ≤ 9223372036854775807) ∧ (-9223372036854775808 ≤ c.da ∧ c.da ≤ 9223372036854775807) ∧ (-9223372036854775808 ≤ c.pe ∧ c.pe ≤ 9223372036854775807)


theorem newSender_any (c : Cf) (w : World) : Calls Try.prog 57 #[cfV c] w fun e w' => e = .returned (.agg #[.int .u32 c.isn, .int .i64 c.win, .int .i64 c.rto, .int .i64 c.mrto, .int .i64 c.da, .int .i64 c.pe, .int .u32 c.isn, .slice none 0 0, .int .i64 0, .int .i64 c.rto, .int .i64 0, .int .i64 0, .int .i64 0]) ∧ Below w.heap.size w w' := by
  go_enter Try.func57, Try.ntmps57
  go_wp2
  exact bodyPost_ret (v := .agg #[.int .u32 c.isn, .int .i64 c.win, .int .i64 c.rto, .int .i64 c.mrto, .int .i64 c.da, .int .i64 c.pe, .int .u32 c.isn, .slice none 0 0, .int .i64 0, .int .i64 c.rto, .int .i64 0, .int .i64 0, .int .i64 0]) (by simp [results, Try.results57, go_sem]) rfl ⟨rfl, ((Below.refl _ _).alloc (Nat.le_refl _) _).alloc (by simp) _⟩

abbrev put13 (w : World) (R : Nat) (x0 x1 x2 x3 x4 x5 x6 x7 x8 x9 x10 x11 x12 : Value) : World := (((((((((((((w.setCell ⟨R, 0, none⟩ x0).setCell ⟨R, 1, none⟩ x1).setCell ⟨R, 2, none⟩ x2).setCell ⟨R, 3, none⟩ x3).setCell ⟨R, 4, none⟩ x4).setCell ⟨R, 5, none⟩ x5).setCell ⟨R, 6, none⟩ x6).setCell ⟨R, 7, none⟩ x7).setCell ⟨R, 8, none⟩ x8).setCell ⟨R, 9, none⟩ x9).setCell ⟨R, 10, none⟩ x10).setCell ⟨R, 11, none⟩ x11).setCell ⟨R, 12, none⟩ x12)
theorem other2 {w w' : World} {R : Nat} (h : ∀ k, k ≠ R → w'.heap[k]? = w.heap[k]?) (i : Nat) (v : Value) : ∀ k, k ≠ R → (w'.setCell ⟨R, i, none⟩ v).heap[k]? = w.heap[k]? := fun k hk => (heap_setCell_other w' ⟨R, i, none⟩ k v hk).trans (h k hk)
theorem put13_other (w : World) (R : Nat) (x0 x1 x2 x3 x4 x5 x6 x7 x8 x9 x10 x11 x12 : Value) (k : Nat) (hk : k ≠ R) : (put13 w R x0 x1 x2 x3 x4 x5 x6 x7 x8 x9 x10 x11 x12).heap[k]? = w.heap[k]? := other2 (other2 (other2 (other2 (other2 (other2 (other2 (other2 (other2 (other2 (other2 (other2 (other2 (fun _ _ => rfl) 0 x0) 1 x1) 2 x2) 3 x3) 4 x4) 5 x5) 6 x6) 7 x7) 8 x8) 9 x9) 10 x10) 11 x11) 12 x12 k hk
theorem put13_block {w : World} {R : Nat} {t : TypeId} {y0 y1 y2 y3 y4 y5 y6 y7 y8 y9 y10 y11 y12 : Value} (h : w.heap[R]? = some (.cells #[y0, y1, y2, y3, y4, y5, y6, y7, y8, y9, y10, y11, y12] t (0, 0))) (x0 x1 x2 x3 x4 x5 x6 x7 x8 x9 x10 x11 x12 : Value) : (put13 w R x0 x1 x2 x3 x4 x5 x6 x7 x8 x9 x10 x11 x12).heap[R]? = some (.cells #[x0, x1, x2, x3, x4, x5, x6, x7, x8, x9, x10, x11, x12] t (0, 0)) := by
  have h0 : (w.setCell ⟨R, 0, none⟩ x0).heap[R]? = some (.cells #[x0, y1, y2, y3, y4, y5, y6, y7, y8, y9, y10, y11, y12] t (0, 0)) := by rw [Go.Joins.block_setCell h _]; rfl
  have h1 : ((w.setCell ⟨R, 0, none⟩ x0).setCell ⟨R, 1, none⟩ x1).heap[R]? = some (.cells #[x0, x1, y2, y3, y4, y5, y6, y7, y8, y9, y10, y11, y12] t (0, 0)) := by rw [Go.Joins.block_setCell h0 _]; rfl
  have h2 : (((w.setCell ⟨R, 0, none⟩ x0).setCell ⟨R, 1, none⟩ x1).setCell ⟨R, 2, none⟩ x2).heap[R]? = some (.cells #[x0, x1, x2, y3, y4, y5, y6, y7, y8, y9, y10, y11, y12] t (0, 0)) := by rw [Go.Joins.block_setCell h1 _]; rfl
  have h3 : ((((w.setCell ⟨R, 0, none⟩ x0).setCell ⟨R, 1, none⟩ x1).setCell ⟨R, 2, none⟩ x2).setCell ⟨R, 3, none⟩ x3).heap[R]? = some (.cells #[x0, x1, x2, x3, y4, y5, y6, y7, y8, y9, y10, y11, y12] t (0, 0)) := by rw [Go.Joins.block_setCell h2 _]; rfl
  have h4 : (((((w.setCell ⟨R, 0, none⟩ x0).setCell ⟨R, 1, none⟩ x1).setCell ⟨R, 2, none⟩ x2).setCell ⟨R, 3, none⟩ x3).setCell ⟨R, 4, none⟩ x4).heap[R]? = some (.cells #[x0, x1, x2, x3, x4, y5, y6, y7, y8, y9, y10, y11, y12] t (0, 0)) := by rw [Go.Joins.block_setCell h3 _]; rfl
  have h5 : ((((((w.setCell ⟨R, 0, none⟩ x0).setCell ⟨R, 1, none⟩ x1).setCell ⟨R, 2, none⟩ x2).setCell ⟨R, 3, none⟩ x3).setCell ⟨R, 4, none⟩ x4).setCell ⟨R, 5, none⟩ x5).heap[R]? = some (.cells #[x0, x1, x2, x3, x4, x5, y6, y7, y8, y9, y10, y11, y12] t (0, 0)) := by rw [Go.Joins.block_setCell h4 _]; rfl
  have h6 : (((((((w.setCell ⟨R, 0, none⟩ x0).setCell ⟨R, 1, none⟩ x1).setCell ⟨R, 2, none⟩ x2).setCell ⟨R, 3, none⟩ x3).setCell ⟨R, 4, none⟩ x4).setCell ⟨R, 5, none⟩ x5).setCell ⟨R, 6, none⟩ x6).heap[R]? = some (.cells #[x0, x1, x2, x3, x4, x5, x6, y7, y8, y9, y10, y11, y12] t (0, 0)) := by rw [Go.Joins.block_setCell h5 _]; rfl
  have h7 : ((((((((w.setCell ⟨R, 0, none⟩ x0).setCell ⟨R, 1, none⟩ x1).setCell ⟨R, 2, none⟩ x2).setCell ⟨R, 3, none⟩ x3).setCell ⟨R, 4, none⟩ x4).setCell ⟨R, 5, none⟩ x5).setCell ⟨R, 6, none⟩ x6).setCell ⟨R, 7, none⟩ x7).heap[R]? = some (.cells #[x0, x1, x2, x3, x4, x5, x6, x7, y8, y9, y10, y11, y12] t (0, 0)) := by rw [Go.Joins.block_setCell h6 _]; rfl
  have h8 : (((((((((w.setCell ⟨R, 0, none⟩ x0).setCell ⟨R, 1, none⟩ x1).setCell ⟨R, 2, none⟩ x2).setCell ⟨R, 3, none⟩ x3).setCell ⟨R, 4, none⟩ x4).setCell ⟨R, 5, none⟩ x5).setCell ⟨R, 6, none⟩ x6).setCell ⟨R, 7, none⟩ x7).setCell ⟨R, 8, none⟩ x8).heap[R]? = some (.cells #[x0, x1, x2, x3, x4, x5, x6, x7, x8, y9, y10, y11, y12] t (0, 0)) := by rw [Go.Joins.block_setCell h7 _]; rfl
  have h9 : ((((((((((w.setCell ⟨R, 0, none⟩ x0).setCell ⟨R, 1, none⟩ x1).setCell ⟨R, 2, none⟩ x2).setCell ⟨R, 3, none⟩ x3).setCell ⟨R, 4, none⟩ x4).setCell ⟨R, 5, none⟩ x5).setCell ⟨R, 6, none⟩ x6).setCell ⟨R, 7, none⟩ x7).setCell ⟨R, 8, none⟩ x8).setCell ⟨R, 9, none⟩ x9).heap[R]? = some (.cells #[x0, x1, x2, x3, x4, x5, x6, x7, x8, x9, y10, y11, y12] t (0, 0)) := by rw [Go.Joins.block_setCell h8 _]; rfl
  have h10 : (((((((((((w.setCell ⟨R, 0, none⟩ x0).setCell ⟨R, 1, none⟩ x1).setCell ⟨R, 2, none⟩ x2).setCell ⟨R, 3, none⟩ x3).setCell ⟨R, 4, none⟩ x4).setCell ⟨R, 5, none⟩ x5).setCell ⟨R, 6, none⟩ x6).setCell ⟨R, 7, none⟩ x7).setCell ⟨R, 8, none⟩ x8).setCell ⟨R, 9, none⟩ x9).setCell ⟨R, 10, none⟩ x10).heap[R]? = some (.cells #[x0, x1, x2, x3, x4, x5, x6, x7, x8, x9, x10, y11, y12] t (0, 0)) := by rw [Go.Joins.block_setCell h9 _]; rfl
  have h11 : ((((((((((((w.setCell ⟨R, 0, none⟩ x0).setCell ⟨R, 1, none⟩ x1).setCell ⟨R, 2, none⟩ x2).setCell ⟨R, 3, none⟩ x3).setCell ⟨R, 4, none⟩ x4).setCell ⟨R, 5, none⟩ x5).setCell ⟨R, 6, none⟩ x6).setCell ⟨R, 7, none⟩ x7).setCell ⟨R, 8, none⟩ x8).setCell ⟨R, 9, none⟩ x9).setCell ⟨R, 10, none⟩ x10).setCell ⟨R, 11, none⟩ x11).heap[R]? = some (.cells #[x0, x1, x2, x3, x4, x5, x6, x7, x8, x9, x10, x11, y12] t (0, 0)) := by rw [Go.Joins.block_setCell h10 _]; rfl
  have h12 : (((((((((((((w.setCell ⟨R, 0, none⟩ x0).setCell ⟨R, 1, none⟩ x1).setCell ⟨R, 2, none⟩ x2).setCell ⟨R, 3, none⟩ x3).setCell ⟨R, 4, none⟩ x4).setCell ⟨R, 5, none⟩ x5).setCell ⟨R, 6, none⟩ x6).setCell ⟨R, 7, none⟩ x7).setCell ⟨R, 8, none⟩ x8).setCell ⟨R, 9, none⟩ x9).setCell ⟨R, 10, none⟩ x10).setCell ⟨R, 11, none⟩ x11).setCell ⟨R, 12, none⟩ x12).heap[R]? = some (.cells #[x0, x1, x2, x3, x4, x5, x6, x7, x8, x9, x10, x11, x12] t (0, 0)) := by rw [Go.Joins.block_setCell h11 _]; rfl
  exact h12
theorem put13_below {w0 w : World} {B : Nat} (h : Below B w0 w) (R : Nat) (hR : B ≤ R) (x0 x1 x2 x3 x4 x5 x6 x7 x8 x9 x10 x11 x12 : Value) : Below B w0 (put13 w R x0 x1 x2 x3 x4 x5 x6 x7 x8 x9 x10 x11 x12) := by
  unfold put13
  iterate 13 refine Below.setCell ?_ hR _
  exact h
theorem row_same {w w' : World} {R base : Nat} {e : TypeId} {size : Nat} {v : Value} {n : Nat} {zs : List Value} (h : w.ownsRow base e size v n zs) (hs : ∀ k, k ≠ R → w'.heap[k]? = w.heap[k]?) (hR : R < base) : w'.ownsRow base e size v n zs := by
  refine ⟨h.1, ?_⟩
  rcases h.2 with hn | ⟨g, cap, cur, rfl, hg, hh, rest⟩
  · exact .inl hn
  · exact .inr ⟨g, cap, cur, rfl, hg, (hs g (by omega)).trans hh, rest⟩
theorem Outs.same {w w' : World} {R base : Nat} {v ov : Value} {G : Got} (h : Outs w base v ov G) (hs : ∀ k, k ≠ R → w'.heap[k]? = w.heap[k]?) (hR : R < base) : Outs w' base v ov G :=
  ⟨row_same h.row hs hR, fun p hp => row_same (h.fr p hp) hs hR, fun p hp => row_same (h.ak p hp) hs hR, h.fn, h.an, h.ap⟩
theorem Outs.based {w : World} {b2 base : Nat} {v ov : Value} {G : Got} (h : Outs w base v ov G) (hb : b2 ≤ base) : Outs w b2 v ov G :=
  ⟨own_base h.row hb, fun p hp => own_base (h.fr p hp) hb, fun p hp => own_base (h.ak p hp) hb, h.fn, h.an, h.ap⟩

theorem ok_l (c : Cf) : c.Ok ↔ OkL c.win c.rto c.mrto c.da c.pe := by unfold Cf.Ok OkL; omega

theorem runSub_bad (c : Cf) (hc : ¬ c.Ok) (a : Option Addr) (n cap : Nat) (w : World) :
    Calls Try.prog 41 #[cfV c, .slice a n cap] w fun e w' => e = .returned (.tuple #[.agg #[.int .u32 0, .int .i64 0, .int .i64 0, .int .i64 0, .int .i64 0, .int .i64 0, .int .u32 0, .slice none 0 0, .int .i64 0, .int .i64 0, .int .i64 0, .int .i64 0, .int .i64 0], .slice none 0 0, .int .i64 17]) ∧ Below w.heap.size w w' := by
  have hc' : ¬ OkL c.win c.rto c.mrto c.da c.pe := fun h => hc ((ok_l c).2 h)
  have hb0 : Below w.heap.size w ((w.alloc (.cells #[.int .u32 c.isn, .int .i64 c.win, .int .i64 c.rto, .int .i64 c.mrto, .int .i64 c.da, .int .i64 c.pe] 35)).alloc (.cells #[.int .u32 0, .int .i64 0, .int .i64 0, .int .i64 0, .int .i64 0, .int .i64 0, .int .u32 0, .slice none 0 0, .int .i64 0, .int .i64 0, .int .i64 0, .int .i64 0, .int .i64 0] 89)) := ((Below.refl _ _).alloc (Nat.le_refl _) _).alloc (by simp) _
  have hR0 : ((w.alloc (.cells #[.int .u32 c.isn, .int .i64 c.win, .int .i64 c.rto, .int .i64 c.mrto, .int .i64 c.da, .int .i64 c.pe] 35)).alloc (.cells #[.int .u32 0, .int .i64 0, .int .i64 0, .int .i64 0, .int .i64 0, .int .i64 0, .int .u32 0, .slice none 0 0, .int .i64 0, .int .i64 0, .int .i64 0, .int .i64 0, .int .i64 0] 89)).heap[w.heap.size + 1]? = some (.cells #[.int .u32 0, .int .i64 0, .int .i64 0, .int .i64 0, .int .i64 0, .int .i64 0, .int .u32 0, .slice none 0 0, .int .i64 0, .int .i64 0, .int .i64 0, .int .i64 0, .int .i64 0] 89) := box_new _ _ _ (by simp)
  have hz0 : w.heap.size + 1 < ((w.alloc (.cells #[.int .u32 c.isn, .int .i64 c.win, .int .i64 c.rto, .int .i64 c.mrto, .int .i64 c.da, .int .i64 c.pe] 35)).alloc (.cells #[.int .u32 0, .int .i64 0, .int .i64 0, .int .i64 0, .int .i64 0, .int .i64 0, .int .u32 0, .slice none 0 0, .int .i64 0, .int .i64 0, .int .i64 0, .int .i64 0, .int .i64 0] 89)).heap.size := by simp
  go_enter Try.func41, Try.ntmps41
  go_wp2_with fail
  refine (i4_no c.isn c.win c.rto c.mrto c.da c.pe _ hc').mono ?_
  rintro e w1 ⟨rfl, hb1⟩
  have hR1 := (hb1.block _ hz0).trans hR0
  have hbw := hb0.trans (hb1.mono hb0.size)
  obtain ⟨⟨k0, k1, k2, k3, k4, k5, k6, k7, k8, k9, k10, k11, k12⟩, kf⟩ := cells13 hR1
  have f0 := kf 0
  have f1 := kf 1
  have f2 := kf 2
  have f3 := kf 3
  have f4 := kf 4
  have f5 := kf 5
  have f6 := kf 6
  have f7 := kf 7
  have f8 := kf 8
  have f9 := kf 9
  have f10 := kf 10
  have f11 := kf 11
  have f12 := kf 12
  clear kf
  have hZ := put13_block hR1 (.int .u32 0) (.int .i64 0) (.int .i64 0) (.int .i64 0) (.int .i64 0) (.int .i64 0) (.int .u32 0) (.slice none 0 0) (.int .i64 0) (.int .i64 0) (.int .i64 0) (.int .i64 0) (.int .i64 0)
  obtain ⟨⟨z0, z1, z2, z3, z4, z5, z6, z7, z8, z9, z10, z11, z12⟩, _⟩ := cells13 hZ
  go_wp2
  exact bodyPost_ret (v := .tuple #[.agg #[.int .u32 0, .int .i64 0, .int .i64 0, .int .i64 0, .int .i64 0, .int .i64 0, .int .u32 0, .slice none 0 0, .int .i64 0, .int .i64 0, .int .i64 0, .int .i64 0, .int .i64 0], .slice none 0 0, .int .i64 17]) (by simp [results, Try.results41, go_sem, z0, z1, z2, z3, z4, z5, z6, z7, z8, z9, z10, z11, z12]) rfl ⟨rfl, put13_below hbw _ (by omega) _ _ _ _ _ _ _ _ _ _ _ _ _⟩

set_option maxHeartbeats 2000000 in
set_option maxRecDepth 100000 in
theorem runSub_ok (c : Cf) (hc : c.Ok) (hi : 0 ≤ c.isn ∧ c.isn ≤ 4294967295) (a : Option Addr) (es : Triples) (n cap : Nat) (w : World) (hn : es.length = n) (hl : n ≤ 4000) (hx : ∀ e ∈ es, 0 ≤ e.2.2 ∧ e.2.2 ≤ 4294967295) (hz : Lie3 .i64 .i64 .u32 w a es) :
    Calls Try.prog 41 #[cfV c, .slice a n cap] w fun e w' => ∃ av cp v G, e = .returned (.tuple #[.agg (sndCells c (stAt c es) v), .slice av n cp, .int .i64 0]) ∧ Tags w' w.heap.size v (stAt c es).tags ∧ Outs w' w.heap.size v (.slice av n cp) G ∧ G.map (·.1) = outsF c (startF c) es ∧ Below w.heap.size w w' := by
  have hc' : OkL c.win c.rto c.mrto c.da c.pe := (ok_l c).1 hc
  have hb0 : Below w.heap.size w ((w.alloc (.cells #[.int .u32 c.isn, .int .i64 c.win, .int .i64 c.rto, .int .i64 c.mrto, .int .i64 c.da, .int .i64 c.pe] 35)).alloc (.cells #[.int .u32 0, .int .i64 0, .int .i64 0, .int .i64 0, .int .i64 0, .int .i64 0, .int .u32 0, .slice none 0 0, .int .i64 0, .int .i64 0, .int .i64 0, .int .i64 0, .int .i64 0] 89)) := ((Below.refl _ _).alloc (Nat.le_refl _) _).alloc (by simp) _
  have hR0 : ((w.alloc (.cells #[.int .u32 c.isn, .int .i64 c.win, .int .i64 c.rto, .int .i64 c.mrto, .int .i64 c.da, .int .i64 c.pe] 35)).alloc (.cells #[.int .u32 0, .int .i64 0, .int .i64 0, .int .i64 0, .int .i64 0, .int .i64 0, .int .u32 0, .slice none 0 0, .int .i64 0, .int .i64 0, .int .i64 0, .int .i64 0, .int .i64 0] 89)).heap[w.heap.size + 1]? = some (.cells #[.int .u32 0, .int .i64 0, .int .i64 0, .int .i64 0, .int .i64 0, .int .i64 0, .int .u32 0, .slice none 0 0, .int .i64 0, .int .i64 0, .int .i64 0, .int .i64 0, .int .i64 0] 89) := box_new _ _ _ (by simp)
  have hC0 : ((w.alloc (.cells #[.int .u32 c.isn, .int .i64 c.win, .int .i64 c.rto, .int .i64 c.mrto, .int .i64 c.da, .int .i64 c.pe] 35)).alloc (.cells #[.int .u32 0, .int .i64 0, .int .i64 0, .int .i64 0, .int .i64 0, .int .i64 0, .int .u32 0, .slice none 0 0, .int .i64 0, .int .i64 0, .int .i64 0, .int .i64 0, .int .i64 0] 89)).heap[w.heap.size]? = some (.cells #[.int .u32 c.isn, .int .i64 c.win, .int .i64 c.rto, .int .i64 c.mrto, .int .i64 c.da, .int .i64 c.pe] 35) := (Below.heap_alloc _ _ _ (by simp)).trans (box_new _ _ _ rfl)
  have hz0 : w.heap.size + 1 < ((w.alloc (.cells #[.int .u32 c.isn, .int .i64 c.win, .int .i64 c.rto, .int .i64 c.mrto, .int .i64 c.da, .int .i64 c.pe] 35)).alloc (.cells #[.int .u32 0, .int .i64 0, .int .i64 0, .int .i64 0, .int .i64 0, .int .i64 0, .int .u32 0, .slice none 0 0, .int .i64 0, .int .i64 0, .int .i64 0, .int .i64 0, .int .i64 0] 89)).heap.size := by simp
  go_enter Try.func41, Try.ntmps41
  go_wp2_with fail
  refine (i4_yes c.isn c.win c.rto c.mrto c.da c.pe _ hc').mono ?_
  rintro e w1 ⟨rfl, hb1⟩
  have hR1 := (hb1.block _ hz0).trans hR0
  have hC1 := (hb1.block _ (by omega)).trans hC0
  have hbw := hb0.trans (hb1.mono hb0.size)
  have c0 : w1.cell? ⟨w.heap.size, 0, none⟩ = some (.int .u32 c.isn) := Go.Joins.cell_of_block hC1 0
  have c1 : w1.cell? ⟨w.heap.size, 1, none⟩ = some (.int .i64 c.win) := Go.Joins.cell_of_block hC1 1
  have c2 : w1.cell? ⟨w.heap.size, 2, none⟩ = some (.int .i64 c.rto) := Go.Joins.cell_of_block hC1 2
  have c3 : w1.cell? ⟨w.heap.size, 3, none⟩ = some (.int .i64 c.mrto) := Go.Joins.cell_of_block hC1 3
  have c4 : w1.cell? ⟨w.heap.size, 4, none⟩ = some (.int .i64 c.da) := Go.Joins.cell_of_block hC1 4
  have c5 : w1.cell? ⟨w.heap.size, 5, none⟩ = some (.int .i64 c.pe) := Go.Joins.cell_of_block hC1 5
  go_wp2_with fail
  refine (newSender_any c w1).mono ?_
  rintro e w2 ⟨rfl, hb2⟩
  have s1 : w.heap.size + 1 < w1.heap.size := Nat.lt_of_lt_of_le hz0 hb1.size
  have hR2 := (hb2.block _ s1).trans hR1
  have hbw2 := hbw.trans (hb2.mono hbw.size)
  have s2 := hb2.size
  clear c0 c1 c2 c3 c4 c5 hC1 hC0
  obtain ⟨W3, hW3⟩ : ∃ W, W = w2.alloc (.cells #[.int .u32 c.isn, .int .i64 c.win, .int .i64 c.rto, .int .i64 c.mrto, .int .i64 c.da, .int .i64 c.pe, .int .u32 c.isn, .slice none 0 0, .int .i64 0, .int .i64 c.rto, .int .i64 0, .int .i64 0, .int .i64 0] 89) := ⟨_, rfl⟩
  have hb3 : Below w2.heap.size w2 W3 := by rw [hW3]; exact (Below.refl _ _).alloc (Nat.le_refl _) _
  have hB3 : W3.heap[w2.heap.size]? = some (.cells #[.int .u32 c.isn, .int .i64 c.win, .int .i64 c.rto, .int .i64 c.mrto, .int .i64 c.da, .int .i64 c.pe, .int .u32 c.isn, .slice none 0 0, .int .i64 0, .int .i64 c.rto, .int .i64 0, .int .i64 0, .int .i64 0] 89) := by rw [hW3]; exact box_new _ _ _ rfl
  have s3 : w2.heap.size < W3.heap.size := by rw [hW3]; simp
  have hsq : seqOf c 0 = c.isn := by unfold seqOf; omega
  have hS3 : SndAt W3 w2.heap.size W3.heap.size c (startF c) (.slice none 0 0) := ⟨by rw [hB3]; simp [sndCells, startF, hsq], Tags.nil _ _, by simp [Value.ownBlock]⟩
  have hbw3 := hbw2.trans (hb3.mono hbw2.size)
  have sw := hbw2.size
  have hall := runAll_any w2.heap.size c hc (.slice none 0 0) a es n cap W3 hn hl hS3 hx (by
    rcases hz with h | ⟨b, off, ha, hcz⟩
    · exact .inl h
    · by_cases h0 : es = []
      · exact .inl h0
      refine .inr ⟨b, off, ha, ?_, fun i hi => ?_⟩
      · have h1 : 0 < es.length := List.length_pos_iff.2 h0
        have := World.block_lt_of_cell? w _ (hcz 0 h1).1
        simp at this
        omega
      · obtain ⟨z1, z2, z3⟩ := hcz i hi
        rw [hbw3.cell (World.block_lt_of_cell? w _ z1), hbw3.cell (World.block_lt_of_cell? w _ z2), hbw3.cell (World.block_lt_of_cell? w _ z3)]
        exact ⟨z1, z2, z3⟩)
  have HN : Hid (es.length = n) := hn
  clear hn hx hz
  go_wp2_with fail
  rw [← hW3]
  clear hW3
  refine hall.mono ?_
  rintro e w4 ⟨av, cp, v, G, rfl, hD⟩
  clear hall hS3 hB3
  have hR4 := (hD.mv.block _ (by omega) (by omega) (by simp)).trans ((hb3.block _ (by omega)).trans hR2)
  have hb4 : Below w.heap.size w w4 := ⟨hD.mv.os.trans hbw3.os, hD.mv.tape.trans hbw3.tape, hD.mv.output.trans hbw3.output, Nat.le_trans hbw3.size hD.mv.size, fun k hk => (hD.mv.block k (Nat.lt_of_lt_of_le hk hbw3.size) (by omega) (by simp)).trans (hbw3.block k hk)⟩
  obtain ⟨⟨k0, k1, k2, k3, k4, k5, k6, k7, k8, k9, k10, k11, k12⟩, _⟩ := cells13 hD.snd.blk
  obtain ⟨ta, tc, hv, t1, t2, t3, t4⟩ := hD.snd.row.shape
  obtain ⟨⟨r0, r1, r2, r3, r4, r5, r6, r7, r8, r9, r10, r11, r12⟩, kf⟩ := cells13 hR4
  have f0 := kf 0
  have f1 := kf 1
  have f2 := kf 2
  have f3 := kf 3
  have f4 := kf 4
  have f5 := kf 5
  have f6 := kf 6
  have f7 := kf 7
  have f8 := kf 8
  have f9 := kf 9
  have f10 := kf 10
  have f11 := kf 11
  have f12 := kf 12
  have HV : Hid (v = .slice ta (stAt c es).tags.length tc) := hv
  rw [hv] at k7
  clear kf hv
  obtain ⟨s, hs⟩ : ∃ s, Hid (s = stAt c es) := ⟨_, rfl⟩
  rw [← hs.out] at k6 k7 k8 k9 k10 k11 k12
  have hZ := put13_block hR4 (.int .u32 c.isn) (.int .i64 c.win) (.int .i64 c.rto) (.int .i64 c.mrto) (.int .i64 c.da) (.int .i64 c.pe) (.int .u32 (seqOf c s.done)) (.slice ta s.tags.length tc) (.int .i64 s.timer) (.int .i64 s.rto) (.int .i64 s.count) (.int .i64 s.probe) (.int .i64 s.dead)
  have hO := put13_other w4 (w.heap.size + 1) (.int .u32 c.isn) (.int .i64 c.win) (.int .i64 c.rto) (.int .i64 c.mrto) (.int .i64 c.da) (.int .i64 c.pe) (.int .u32 (seqOf c s.done)) (.slice ta s.tags.length tc) (.int .i64 s.timer) (.int .i64 s.rto) (.int .i64 s.count) (.int .i64 s.probe) (.int .i64 s.dead)
  have hbZ := put13_below hb4 (w.heap.size + 1) (by omega) (.int .u32 c.isn) (.int .i64 c.win) (.int .i64 c.rto) (.int .i64 c.mrto) (.int .i64 c.da) (.int .i64 c.pe) (.int .u32 (seqOf c s.done)) (.slice ta s.tags.length tc) (.int .i64 s.timer) (.int .i64 s.rto) (.int .i64 s.count) (.int .i64 s.probe) (.int .i64 s.dead)
  have m1 : ¬ w2.heap.size = w.heap.size + 1 := by omega
  have m2 : ¬ w.heap.size + 1 = w2.heap.size := by omega
  go_wp2
  obtain ⟨⟨z0, z1, z2, z3, z4, z5, z6, z7, z8, z9, z10, z11, z12⟩, _⟩ := cells13 hZ
  exact bodyPost_ret (v := .tuple #[.agg (sndCells c s (.slice ta s.tags.length tc)), .slice av n cp, .int .i64 0]) (by simp [results, Try.results41, go_sem, z0, z1, z2, z3, z4, z5, z6, z7, z8, z9, z10, z11, z12]) rfl
    ⟨av, cp, v, G, by rw [HV.out, hs.out], (hD.snd.row.kept fun k hk => hO k (by have := (hD.snd.row.lt hk).1; omega)).base (by omega), (hD.outs.same hO (by omega)).based (by omega), hD.got, hbZ⟩
end Go.Proofs.Ytincfdhfoaimbaa
