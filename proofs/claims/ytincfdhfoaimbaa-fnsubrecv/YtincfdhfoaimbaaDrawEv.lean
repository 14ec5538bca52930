import Derived.Test.YtincfdhfoaimbaaDrawCfg
import Derived.Test.YtincfdhfoaimbaaSpRun
import Derived.Deep.RegionHeld3
import Derived.Deep.Cut
import Derived.Deep.CutRange
namespace Go.Proofs.Ytincfdhfoaimbaa
open Go.ChangeShapes Go.WideShapes Go.ChangeAt Go.RowKit
set_option linter.unusedVariables false

abbrev cfC (c : Cf) : Array Value := #[.int .u32 c.isn, .int .i64 c.win, .int .i64 c.rto, .int .i64 c.mrto, .int .i64 c.da, .int .i64 c.pe]
/-- While events are drawn: the source, the sender, the events so far, the config's box. -/
structure Ev (w0 w : World) (b : Nat) (a : Option Addr) (n cap : Nat) (B : Nat) (c : Cf) (s : St) (v : Value) (all : List Int) (ov : Value) (es : Triples) (wr : World) : Prop where
  dr : Drawing w0 wr b a n cap
  sp : SpAt wr B w.heap.size c s v all
  row : wr.ownsRow w.heap.size 43 3 ov es.length (flat3 .i64 .i64 .u32 es)
  cfg : wr.heap[w.heap.size]? = some (.cells (cfC c) 35 (0, 0))
  gr : Gr w wr b
  hb : b < w.heap.size
  hB : w.heap.size < B
  h0 : w0.heap.size ≤ w.heap.size
section
variable {w0 w wr w' : World} {b : Nat} {a : Option Addr} {n cap B : Nat} {c : Cf} {s : St} {v : Value} {all : List Int} {ov : Value} {es : Triples}
theorem Ev.kept (h : Ev w0 w b a n cap B c s v all ov es wr) (hd : Drawing w0 w' b a n cap) (hg : Gr w w' b) (hk : ∀ k, w.heap.size ≤ k → k < wr.heap.size → w'.heap[k]? = wr.heap[k]?) : Ev w0 w b a n cap B c s v all ov es w' := by
  have hr : ∀ {e : TypeId} {size : Nat} {u : Value} {n : Nat} {xs : List Value}, wr.ownsRow w.heap.size e size u n xs → w'.ownsRow w.heap.size e size u n xs := fun {e size u n xs} ho => by
    refine ⟨ho.1, ?_⟩
    rcases ho.2 with hn | ⟨g, cap, cur, rfl, hg, hh, rest⟩
    · exact .inl hn
    · exact .inr ⟨g, cap, cur, rfl, hg, (hk g hg (Array.getElem?_eq_some_iff.1 hh).1).trans hh, rest⟩
  exact ⟨hd, ⟨(hk B (by have := h.hB; omega) h.sp.lt).trans h.sp.blk, h.sp.row.kept fun k hk2 => hk k (h.sp.row.lt hk2).1 (h.sp.row.lt hk2).2, h.sp.len, h.sp.tg, h.sp.ne⟩, hr h.row, (hk _ (Nat.le_refl _) (Array.getElem?_eq_some_iff.1 h.cfg).1).trans h.cfg, hg, h.hb, h.hB, h.h0⟩
theorem Ev.next (h : Ev w0 w b a n cap B c s v all ov es wr) (hd : Drawing w0 w' b a n cap) (hg : wr.grownBy w' (some b)) : Ev w0 w b a n cap B c s v all ov es w' :=
  h.kept hd (h.gr.next hg) (fun k h1 h2 => hg.block k h2 (fun e => by have := Option.some.inj e; have := h.hb; omega))
theorem Ev.alloc (h : Ev w0 w b a n cap B c s v all ov es wr) (o : Obj) : Ev w0 w b a n cap B c s v all ov es (wr.alloc o) :=
  h.kept (h.dr.alloc o) (h.gr.alloc o) (fun k _ h2 => Below.heap_alloc _ _ _ h2)
theorem Ev.drew (h : Ev w0 w b a n cap B c s v all ov es wr) : Ev w0 w b a n cap B c s v all ov es wr.drew := h.kept h.dr.drew h.gr.drew (fun _ _ _ => rfl)
theorem Ev.drewN (h : Ev w0 w b a n cap B c s v all ov es wr) (m : Nat) : Ev w0 w b a n cap B c s v all ov es (wr.drewN m) :=
  h.kept ⟨⟨h.dr.bel.os, h.dr.bel.tape, h.dr.bel.output, h.dr.bel.size, h.dr.bel.block⟩, h.dr.new, h.dr.src⟩ ⟨h.gr.os, h.gr.tape, h.gr.output, h.gr.size, h.gr.block⟩ (fun _ _ _ => rfl)
/-- The event that is being drawn lies in block E. -/
structure EvE (w0 w : World) (b : Nat) (a : Option Addr) (n cap : Nat) (B : Nat) (c : Cf) (s : St) (v : Value) (all : List Int) (ov : Value) (es : Triples) (E : Nat) (k t x : Int) (wr : World) : Prop where
  ev : Ev w0 w b a n cap B c s v all ov es wr
  box : wr.heap[E]? = some (.cells #[.int .i64 k, .int .i64 t, .int .u32 x] 43 (0, 0))
  hE : w.heap.size < E
  nB : B ≠ E
  nv : v.ownBlock ≠ some E
  no : ov.ownBlock ≠ some E
  x0 : 0 ≤ x
  x1 : x ≤ 4294967295
variable {E : Nat} {k t x : Int}
theorem EvE.next (h : EvE w0 w b a n cap B c s v all ov es E k t x wr) (hd : Drawing w0 w' b a n cap) (hg : wr.grownBy w' (some b)) : EvE w0 w b a n cap B c s v all ov es E k t x w' :=
  ⟨h.ev.next hd hg, (hg.block E (Array.getElem?_eq_some_iff.1 h.box).1 (fun e => by have := Option.some.inj e; have := h.ev.hb; have := h.hE; omega)).trans h.box, h.hE, h.nB, h.nv, h.no, h.x0, h.x1⟩
theorem EvE.alloc (h : EvE w0 w b a n cap B c s v all ov es E k t x wr) (o : Obj) : EvE w0 w b a n cap B c s v all ov es E k t x (wr.alloc o) := ⟨h.ev.alloc o, (Below.heap_alloc _ _ _ (Array.getElem?_eq_some_iff.1 h.box).1).trans h.box, h.hE, h.nB, h.nv, h.no, h.x0, h.x1⟩
theorem EvE.drew (h : EvE w0 w b a n cap B c s v all ov es E k t x wr) : EvE w0 w b a n cap B c s v all ov es E k t x wr.drew := ⟨h.ev.drew, h.box, h.hE, h.nB, h.nv, h.no, h.x0, h.x1⟩
theorem EvE.drewN (h : EvE w0 w b a n cap B c s v all ov es E k t x wr) (m : Nat) : EvE w0 w b a n cap B c s v all ov es E k t x (wr.drewN m) := ⟨h.ev.drewN m, h.box, h.hE, h.nB, h.nv, h.no, h.x0, h.x1⟩
theorem EvE.put (h : EvE w0 w b a n cap B c s v all ov es E k t x wr) (i : Nat) (y : Value) {k' t' x' : Int} (hc : (#[.int .i64 k, .int .i64 t, .int .u32 x] : Array Value).setIfInBounds i y = #[.int .i64 k', .int .i64 t', .int .u32 x']) (h0 : 0 ≤ x') (h1 : x' ≤ 4294967295) : EvE w0 w b a n cap B c s v all ov es E k' t' x' (wr.setCell ⟨E, i, none⟩ y) := by
  have hEb : E ≠ b := by have := h.ev.hb; have := h.hE; omega
  have hE0 := h.hE
  have hE1 := h.ev.h0
  have hne : ∀ j, j ≠ E → (wr.setCell ⟨E, i, none⟩ y).heap[j]? = wr.heap[j]? := fun j hj => heap_setCell_other _ _ _ _ hj
  have hr : (wr.setCell ⟨E, i, none⟩ y).ownsRow w.heap.size 43 3 ov es.length (flat3 .i64 .i64 .u32 es) := by
    refine ⟨h.ev.row.1, ?_⟩
    rcases h.ev.row.2 with hn | ⟨g, cap, cur, rfl, hg, hh, rest⟩
    · exact .inl hn
    · exact .inr ⟨g, cap, cur, rfl, hg, (hne g (fun e => h.no (by rw [e]; rfl))).trans hh, rest⟩
  refine ⟨⟨h.ev.dr.put E i y (by omega) hEb, ⟨(hne B h.nB).trans h.ev.sp.blk, h.ev.sp.row.kept fun j hj => hne j (fun e => h.nv (by rw [hj, e])), h.ev.sp.len, h.ev.sp.tg, h.ev.sp.ne⟩, hr, (hne _ (by omega)).trans h.ev.cfg, h.ev.gr.put E i y (by omega), h.ev.hb, h.ev.hB, h.ev.h0⟩, ?_, h.hE, h.nB, h.nv, h.no, h0, h1⟩
  rw [Go.Joins.block_setCell h.box _, hc]
theorem EvE.put3 (h : EvE w0 w b a n cap B c s v all ov es E k t x wr) (k' t' x' : Int) (h0 : 0 ≤ x') (h1 : x' ≤ 4294967295) : EvE w0 w b a n cap B c s v all ov es E k' t' x' (((wr.setCell ⟨E, 0, none⟩ (.int .i64 k')).setCell ⟨E, 1, none⟩ (.int .i64 t')).setCell ⟨E, 2, none⟩ (.int .u32 x')) :=
  ((h.put (k' := k') (t' := t) (x' := x) 0 _ rfl h.x0 h.x1).put (k' := k') (t' := t') (x' := x) 1 _ rfl h.x0 h.x1).put (k' := k') (t' := t') (x' := x') 2 _ rfl h0 h1
theorem Ev.box (h : Ev w0 w b a n cap B c s v all ov es wr) (k t x : Int) (h0 : 0 ≤ x) (h1 : x ≤ 4294967295) : EvE w0 w b a n cap B c s v all ov es wr.heap.size k t x (wr.alloc (.cells #[.int .i64 k, .int .i64 t, .int .u32 x] 43)) :=
  ⟨h.alloc _, box_new _ _ _ rfl, (Array.getElem?_eq_some_iff.1 h.cfg).1, by have := h.sp.lt; omega, fun e => by have := (h.sp.row.lt e).2; omega, fun e => by have := (h.row.lt _ e).2; omega, h0, h1⟩
theorem Ev.srcBlock (h : Ev w0 w b a n cap B c s v all ov es wr) : ∃ cs, wr.heap[b]? = some (.cells cs 78 (0, 0)) := by
  obtain ⟨pos, st, hh, _⟩ := h.dr.src
  exact ⟨_, hh⟩
/-- One step of the sender. -/
theorem EvE.step {Q : Ot × St} {fv av v' : Value} {all' : List Int} (h : EvE w0 w b a n cap B c s v all ov es E k t x wr) (hs : SteppedS wr B w.heap.size c v Q w' fv av v' all') : EvE w0 w b a n cap B c Q.2 v' all' ov es E k t x w' := by
  have hm := hs.mv
  have hz := h.ev.gr.size
  have hnv : ∀ (j : Nat) {cs : Array Value} {ty : TypeId}, wr.heap[j]? = some (.cells cs ty (0, 0)) → ty ≠ 2 → some j ≠ v.ownBlock := fun j cs ty hj hty e => by
    obtain ⟨ct, hct⟩ := tags_block h.ev.sp.row e.symm
    exact type_ne hj hct hty rfl
  have hnB : ∀ (j : Nat) {cs : Array Value} {ty : TypeId}, wr.heap[j]? = some (.cells cs ty (0, 0)) → ty ≠ 85 → j ≠ B := fun j cs ty hj hty => type_ne hj h.ev.sp.blk hty
  have keep : ∀ (j : Nat) {cs : Array Value} {ty : TypeId}, wr.heap[j]? = some (.cells cs ty (0, 0)) → ty ≠ 2 → ty ≠ 85 → w'.heap[j]? = wr.heap[j]? := fun j cs ty hj h1 h2 => hm.block j (Array.getElem?_eq_some_iff.1 hj).1 (hnB j hj h2) (hnv j hj h1)
  obtain ⟨cs0, hs0⟩ := h.ev.srcBlock
  have hvb : ∀ j, v.ownBlock = some j → w.heap.size ≤ j := fun j hj => (h.ev.sp.row.lt hj).1
  have hB := h.ev.hB
  have hgr : Gr w w' b := ⟨hm.os.trans h.ev.gr.os, hm.tape.trans h.ev.gr.tape, hm.output.trans h.ev.gr.output, Nat.le_trans hz hm.size, fun j h1 h2 => (hm.block j (Nat.lt_of_lt_of_le h1 hz) (by omega) (fun e => by have := hvb j e.symm; omega)).trans (h.ev.gr.block j h1 h2)⟩
  have hdr : Drawing w0 w' b a n cap := by
    obtain ⟨pos, st, hh, rest⟩ := h.ev.dr.src
    have h1 := h.ev.dr.bel
    have h00 := h.ev.h0
    exact ⟨⟨hm.os.trans h1.os, hm.tape.trans h1.tape, hm.output.trans h1.output, Nat.le_trans h1.size hm.size, fun j hj => (hm.block j (Nat.lt_of_lt_of_le hj h1.size) (by omega) (fun e => by have := hvb j e.symm; omega)).trans (h1.block j hj)⟩, h.ev.dr.new, pos, st, (keep b hs0 (by decide) (by decide)).trans hh, rest⟩
  have hr : w'.ownsRow w.heap.size 43 3 ov es.length (flat3 .i64 .i64 .u32 es) := by
    refine row_mv h.ev.row hm (fun j hj => ?_) (fun j hj => ?_)
    · obtain ⟨cs, hc⟩ := row_block h.ev.row hj
      exact hnB j hc (by decide)
    · obtain ⟨cs, hc⟩ := row_block h.ev.row hj
      exact hnv j hc (by decide)
  refine ⟨⟨hdr, hs.snd, hr, (keep _ h.ev.cfg (by decide) (by decide)).trans h.ev.cfg, hgr, h.ev.hb, hB, h.ev.h0⟩, (keep _ h.box (by decide) (by decide)).trans h.box, h.hE, h.nB, ?_, h.no, h.x0, h.x1⟩
  rcases hs.blk with e | e
  · rw [e]; exact h.nv
  · intro e2
    have := e _ e2
    have := (Array.getElem?_eq_some_iff.1 h.box).1
    omega
/-- One event more. -/
theorem EvE.push {g cp : Nat} (h : EvE w0 w b a n cap B c s v all ov es E k t x wr) (hg : wr.grownBy w' ov.ownBlock) (hnew : w'.ownsRow w.heap.size 43 3 (.slice (some ⟨g, 0, none⟩) (es ++ [(k, t, x)]).length cp) (es ++ [(k, t, x)]).length (flat3 .i64 .i64 .u32 (es ++ [(k, t, x)]))) : Ev w0 w b a n cap B c s v all (.slice (some ⟨g, 0, none⟩) (es ++ [(k, t, x)]).length cp) (es ++ [(k, t, x)]) w' := by
  have keep : ∀ (j : Nat) {cs : Array Value} {ty : TypeId}, wr.heap[j]? = some (.cells cs ty (0, 0)) → ty ≠ 43 → w'.heap[j]? = wr.heap[j]? := fun j cs ty hj h1 => hg.block j (Array.getElem?_eq_some_iff.1 hj).1 (fun e => by
    obtain ⟨ct, hct⟩ := row_block h.ev.row e.symm
    exact type_ne hj hct h1 rfl)
  obtain ⟨cs0, hs0⟩ := h.ev.srcBlock
  have hob : ∀ j, ov.ownBlock = some j → w.heap.size ≤ j := fun j hj => (h.ev.row.lt j hj).1
  have h00 := h.ev.h0
  have hbb := h.ev.hb
  refine ⟨h.ev.dr.grown hg (fun j hj => ⟨by have := hob j hj; omega, by have := hob j hj; omega⟩), ⟨(keep B h.ev.sp.blk (by decide)).trans h.ev.sp.blk, h.ev.sp.row.kept fun j hj => ?_, h.ev.sp.len, h.ev.sp.tg, h.ev.sp.ne⟩, hnew, (keep _ h.ev.cfg (by decide)).trans h.ev.cfg, h.ev.gr.grown hg (fun j hj => .inr (hob j hj)), h.ev.hb, h.ev.hB, h.ev.h0⟩
  obtain ⟨cs, hc⟩ := tags_block h.ev.sp.row hj
  exact keep j hc (by decide)
end
end Go.Proofs.Ytincfdhfoaimbaa
