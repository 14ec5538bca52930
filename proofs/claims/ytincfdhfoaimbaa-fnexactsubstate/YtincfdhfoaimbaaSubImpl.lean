import Derived.Test.YtincfdhfoaimbaaSubRow
import Derived.Test.YtincfdhfoaimbaaRow2
import Derived.Deep.RegionWith
import Derived.LoopTactic
import Derived.WalkSmall
import Derived.Laws.AppendOwnNone
import Derived.Deep.QuietTactic
import Derived.Laws.Pointers
import Derived.Laws.Small
namespace Go.Proofs.Ytincfdhfoaimbaa
open Go.ChangeShapes Go.WideShapes Go.ChangeAt Go.RowKit
set_option linter.unusedVariables false

/-- What leaves all old blocks but B and r as they were. -/
structure Mv (w w' : World) (B : Nat) (r : Option Nat) : Prop where
  os : w'.os = w.os
  tape : w'.tape = w.tape
  output : w'.output = w.output
  size : w.heap.size ≤ w'.heap.size
  block : ∀ k, k < w.heap.size → k ≠ B → some k ≠ r → w'.heap[k]? = w.heap[k]?
theorem Mv.refl (w : World) (B : Nat) (r : Option Nat) : Mv w w B r := ⟨rfl, rfl, rfl, Nat.le_refl _, fun _ _ _ _ => rfl⟩
theorem Mv.trans {w w1 w2 : World} {B : Nat} {r r2 : Option Nat} (h : Mv w w1 B r) (g : Mv w1 w2 B r2) (hr : r2 = r ∨ ∀ k, r2 = some k → w.heap.size ≤ k) : Mv w w2 B r :=
  ⟨g.os.trans h.os, g.tape.trans h.tape, g.output.trans h.output, Nat.le_trans h.size g.size, fun k hk h1 h2 => (g.block k (Nat.lt_of_lt_of_le hk h.size) h1 (fun e => by
    rcases hr with hr | hr
    · exact h2 (e.trans hr)
    · have := hr k e.symm; omega)).trans (h.block k hk h1 h2)⟩
theorem Mv.grown {w w1 w2 : World} {B : Nat} {r r2 : Option Nat} (h : Mv w w1 B r) (g : w1.grownBy w2 r2) (hr : r2 = r ∨ r2 = some B ∨ ∀ k, r2 = some k → w.heap.size ≤ k) : Mv w w2 B r :=
  ⟨g.os.trans h.os, g.tape.trans h.tape, g.output.trans h.output, Nat.le_trans h.size g.size, fun k hk h1 h2 => (g.block k (Nat.lt_of_lt_of_le hk h.size) (fun e => by
    rcases hr with hr | hr | hr
    · exact h2 (e.trans hr)
    · exact h1 (Option.some.inj (e.trans hr))
    · have := hr k e.symm; omega)).trans (h.block k hk h1 h2)⟩
theorem Mv.below {w w1 w2 : World} {B W : Nat} {r : Option Nat} (h : Mv w w1 B r) (g : Below W w1 w2) (hW : w.heap.size ≤ W) : Mv w w2 B r :=
  ⟨g.os.trans h.os, g.tape.trans h.tape, g.output.trans h.output, Nat.le_trans h.size g.size, fun k hk h1 h2 => (g.block k (Nat.lt_of_lt_of_le hk hW)).trans (h.block k hk h1 h2)⟩
theorem Mv.set {w w1 : World} {B : Nat} {r : Option Nat} (h : Mv w w1 B r) (i : Nat) (v : Value) : Mv w (w1.setCell ⟨B, i, none⟩ v) B r := h.grown (grown_set w1 B i v) (.inr (.inl rfl))
theorem Mv.alloc {w w1 : World} {B : Nat} {r : Option Nat} (h : Mv w w1 B r) (o : Obj) : Mv w (w1.alloc o) B r := h.grown (World.grownBy_alloc w1 o none) (.inr (.inr (by simp)))
theorem Mv.drew {w w1 : World} {B : Nat} {r : Option Nat} (h : Mv w w1 B r) : Mv w w1.drew B r := ⟨h.os, h.tape, h.output, h.size, h.block⟩

abbrev sndCells (c : Cf) (s : St) (v : Value) : Array Value := #[.int .u32 c.isn, .int .i64 c.win, .int .i64 c.rto, .int .i64 c.mrto, .int .i64 c.da, .int .i64 c.pe, .int .u32 (seqOf c s.done), v, .int .i64 s.timer, .int .i64 s.rto, .int .i64 s.count, .int .i64 s.probe, .int .i64 s.dead]
/-- A sender at B. -/
structure SndAt (w : World) (B base : Nat) (c : Cf) (s : St) (v : Value) : Prop where
  blk : w.heap[B]? = some (.cells (sndCells c s v) 89 (0, 0))
  row : Tags w base v s.tags
  ne : v.ownBlock ≠ some B
theorem SndAt.lt {w : World} {B base : Nat} {c : Cf} {s : St} {v : Value} (h : SndAt w B base c s v) : B < w.heap.size := (Array.getElem?_eq_some_iff.1 h.blk).1

theorem cells13 {w : World} {B : Nat} {t : TypeId} {x0 x1 x2 x3 x4 x5 x6 x7 x8 x9 x10 x11 x12 : Value} (h : w.heap[B]? = some (.cells #[x0, x1, x2, x3, x4, x5, x6, x7, x8, x9, x10, x11, x12] t (0, 0))) :
    (w.cell? ⟨B, 0, none⟩ = some x0 ∧ w.cell? ⟨B, 1, none⟩ = some x1 ∧ w.cell? ⟨B, 2, none⟩ = some x2 ∧ w.cell? ⟨B, 3, none⟩ = some x3 ∧ w.cell? ⟨B, 4, none⟩ = some x4 ∧ w.cell? ⟨B, 5, none⟩ = some x5 ∧ w.cell? ⟨B, 6, none⟩ = some x6 ∧ w.cell? ⟨B, 7, none⟩ = some x7 ∧ w.cell? ⟨B, 8, none⟩ = some x8 ∧ w.cell? ⟨B, 9, none⟩ = some x9 ∧ w.cell? ⟨B, 10, none⟩ = some x10 ∧ w.cell? ⟨B, 11, none⟩ = some x11 ∧ w.cell? ⟨B, 12, none⟩ = some x12) ∧ ∀ i, w.frozen? ⟨B, i, none⟩ = false :=
  ⟨⟨Go.Joins.cell_of_block h 0, Go.Joins.cell_of_block h 1, Go.Joins.cell_of_block h 2, Go.Joins.cell_of_block h 3, Go.Joins.cell_of_block h 4, Go.Joins.cell_of_block h 5, Go.Joins.cell_of_block h 6, Go.Joins.cell_of_block h 7, Go.Joins.cell_of_block h 8, Go.Joins.cell_of_block h 9, Go.Joins.cell_of_block h 10, Go.Joins.cell_of_block h 11, Go.Joins.cell_of_block h 12⟩, fun i => Go.Joins.unfrozen_of_block h i⟩

theorem own_put {w : World} {base B i : Nat} {e : TypeId} {size : Nat} {v : Value} {n : Nat} {xs : List Value} {u : Value} (h : w.ownsRow base e size v n xs) (hv : v.ownBlock ≠ some B) : (w.setCell ⟨B, i, none⟩ u).ownsRow base e size v n xs :=
  h.kept (grown_set w B i u) (by cases hk : v.ownBlock with
    | none => exact .inl rfl
    | some k => exact .inr fun e => hv (hk.trans e))
theorem own_add (a : Option Addr) (k n c m d : Nat) : (Value.slice (a.map (·.add k)) n c).ownBlock = (Value.slice a m d).ownBlock := by
  cases a with
  | none => rfl
  | some x => simp only [Option.map_some, Value.ownBlock, Option.some.injEq]; unfold Addr.add; split <;> rfl
theorem seqOf_fits (c : Cf) (i : Nat) : 0 ≤ seqOf c i ∧ seqOf c i ≤ 4294967295 := by unfold seqOf; omega
theorem seqOf_add (c : Cf) (i k : Nat) : (seqOf c i + k) % 4294967296 = seqOf c (i + k) := by unfold seqOf; omega

theorem next_any (B base : Nat) (c : Cf) (s : St) (v : Value) (w : World) (h : SndAt w B base c s v) (hl : s.tags.length ≤ 5000) :
    Calls Try.prog 62 #[.pointer (some ⟨B, 0, none⟩)] w fun e w' => e = .returned (.int .u32 (seqOf c (s.done + s.tags.length))) ∧ Below w.heap.size w w' := by
  obtain ⟨⟨k0, k1, k2, k3, k4, k5, k6, k7, k8, k9, k10, k11, k12⟩, kf⟩ := cells13 h.blk
  obtain ⟨a, cap, rfl, h1, h2, h3, hi⟩ := h.row.shape
  have hf := seqOf_fits c s.done
  have hs := seqOf_add c s.done s.tags.length
  obtain ⟨q, hq⟩ : ∃ q, q = seqOf c s.done := ⟨_, rfl⟩
  rw [← hq] at hs hf k6
  have HS : Hid _ := hs
  clear hs hq kf
  go_enter Try.func62, Try.ntmps62
  go_wp2
  go_quiet (fail)
  go_wp2
  go_ret
  exact ⟨by rw [← HS.out]; rfl, below_drewN (Below.refl _ _) _⟩

/-- One append of many numbers, in a walk. -/
theorem wpList_appI (w : World) {ops : Array Oper} {rest : List Oper} {o : Oper} {a : Act} {Q : Exit → Act → World → Prop} (hgd : o.guard = none) (s x : Operand)
    (ho : o.op = .call { callee := .builtin .append, args := #[s, x], argTypes := #[44, 44] })
    (base : Nat) (av : Option Addr) (n cap : Nat) (S : List Int) (hn : S.length = n) (hs : a.eval s = .slice av n cap) (hown : w.ownsRow base 2 1 (.slice av n cap) n (S.map (.int .i64)))
    (src : Option Addr) (T : List Int) (m c : Nat) (hm : T.length = m) (hx : a.eval x = .slice src m c) (hnone : src = none → c = 0) (hT : Ints .i64 w src T) (hl : n + m ≤ 4294967296) (hbase : base ≤ w.heap.size)
    (h : ∀ av' cap' w', w'.ownsRow base 2 1 (.slice av' (n + m) cap') (n + m) ((S ++ T).map (.int .i64)) → w.grownBy w' (Value.slice av n cap).ownBlock →
      wpList Try.prog ops Q rest (a.put o.dst (.slice av' (n + m) cap')) w') : wpList Try.prog ops Q (o :: rest) a w := by
  obtain ⟨i0, hi, hz0, hz1, hz2⟩ := info_parts info_i64
  cases src with
  | none =>
    have hT0 : T = [] := by
      rcases hT with h | ⟨_, _, h, _⟩
      · exact h
      · cases h
    subst hT0
    have hc0 := hnone rfl
    simp at hm
    subst hm hc0
    refine wpList_append_own_none hgd s x 44 ho base 2 i0 1 Try.underlying44 hi _ n (S.map (.int .i64)) hs hown hx ?_
    exact h av cap w (by simpa using hown) (World.grownBy.refl _ _)
  | some ad =>
    refine wpList_append_own w hgd s x 44 ho base 2 i0 (.int .i64 0) 1 8 Try.underlying44 hi hz0 hz1 hz2 rfl (by decide) (.slice av n cap) n (S.map (.int .i64)) hs hown ad m c (T.map (.int .i64)) hx (by simp [hm]) ?_ ?_ ?_ ?_ hbase ?_
    · intro j u hj
      rcases hT with h0 | ⟨b, off, h0, hc⟩
      · rw [h0] at hj
        simp at hj
      · simp only [Option.some.injEq] at h0
        subst h0
        have hjl : j < T.length := by simpa using (List.getElem?_eq_some_iff.1 hj).1
        rw [Addr.add_lit, hc j hjl, ← hj]
        simp [hjl]
    · intro u hu
      simp at hu
      obtain ⟨x, _, rfl⟩ := hu
      rfl
    · unfold maxLen; omega
    · omega
    · intro v' w' h2 h3 h4
      rw [← List.map_append] at h2
      rcases h2.2 with ⟨h5, h0⟩ | ⟨g, cap', cur, h5, rest⟩
      · subst h5
        have := h none 0 w'
        rw [h0] at this h2
        exact this h2 h3
      · subst h5
        exact h _ cap' w' h2 h3

theorem copyInts (a : Option Addr) (T : List Int) (n cap : Nat) (hn : T.length = n) (w : World) (hT : Ints .i64 w a T) (hl : n ≤ 1048576) (hnone : a = none → cap = 0) :
    Calls Try.prog 63 #[.slice a n cap] w fun e w' => ∃ av cp, e = .returned (.slice av n cp) ∧ w'.ownsRow w.heap.size 2 1 (.slice av n cp) n (T.map (.int .i64)) ∧ Below w.heap.size w w' := by
  have hnil := World.ownsRow_nil w w.heap.size 2 1
  go_enter Try.func63, Try.ntmps63
  go_wp2_with (at_builtin; refine wpList_appI _ rfl _ _ rfl w.heap.size none 0 0 [] rfl rfl hnil a T n cap hn rfl hnone hT (by omega) (Nat.le_refl _) ?_; intro av cp w1 ho1 hg1)
  go_ret
  exact ⟨av, cp, by simp, by simpa using ho1, (Below.refl _ _).grown hg1 (Nat.le_refl _) (by simp [Value.ownBlock])⟩

theorem ints_take {w : World} {a : Option Addr} {ts : List Int} (h : Ints .i64 w a ts) (m : Nat) : Ints .i64 w a (ts.take m) := by
  rcases h with h | ⟨b, off, rfl, hc⟩
  · exact .inl (by simp [h])
  · refine .inr ⟨b, off, rfl, fun i hi => ?_⟩
    simp at hi
    rw [hc i (by omega), List.getD_eq_getElem?_getD, List.getD_eq_getElem?_getD, List.getElem?_take_of_lt (by omega)]

/-- The oldest k are taken away. -/
theorem release_any (B base : Nat) (c : Cf) (s : St) (v : Value) (w : World) (h : SndAt w B base c s v) (hl : s.tags.length ≤ 5000) (k : Nat) (hk : k ≤ s.tags.length) :
    Calls Try.prog 90 #[.pointer (some ⟨B, 0, none⟩), .int .u32 k] w fun e w' => ∃ av cp v', e = .returned (.slice av k cp) ∧ w'.ownsRow w.heap.size 2 1 (.slice av k cp) k ((s.tags.take k).map (.int .i64)) ∧ SndAt w' B base c (cutF s k) v' ∧ v'.ownBlock = v.ownBlock ∧ Mv w w' B none := by
  obtain ⟨⟨k0, k1, k2, k3, k4, k5, k6, k7, k8, k9, k10, k11, k12⟩, kf⟩ := cells13 h.blk
  have hB := h.lt
  have hne := h.ne
  have hrow := h.row
  obtain ⟨a, cap, rfl, h1, h2, h3, hi⟩ := h.row.shape
  go_enter Try.func90, Try.ntmps90
  go_wp2_with fail
  refine (copyInts a (s.tags.take k) k cap (by simp; omega) w (ints_take hi k) (by omega) h3).mono ?_
  rintro e w1 ⟨av, cp, rfl, ho1, hb1⟩
  have hB1 : w1.heap[B]? = _ := (hb1.block B hB).trans h.blk
  obtain ⟨⟨l0, l1, l2, l3, l4, l5, l6, l7, l8, l9, l10, l11, l12⟩, lf⟩ := cells13 hB1
  have hf := seqOf_fits c s.done
  have hs := seqOf_add c s.done k
  have hsz := hb1.size
  have f7 := lf 7
  have f6 := lf 6
  have q1 : (k : Int) ≤ (s.tags.length : Int) := by omega
  have q2 : (s.tags.length : Int) ≤ (cap : Int) := by omega
  have hrow1 : Tags w1 base (.slice a s.tags.length cap) s.tags := hrow.kept fun j hj => hb1.block j (hrow.lt hj).2
  have hmv : Mv w w1 B none := (Mv.refl w B none).below hb1 (Nat.le_refl _)
  have hav : (Value.slice av k cp).ownBlock ≠ some B := fun e => by have := (ho1.lt B e).1; omega
  have hdr := hrow1.drop k hk
  clear k0 k1 k2 k3 k4 k5 k6 k7 k8 k9 k10 k11 k12 kf lf
  have hfin : ∀ (v' : Value), Tags w1 base v' (s.tags.drop k) → v'.ownBlock = (Value.slice a s.tags.length cap).ownBlock → SndAt ((w1.setCell ⟨B, 7, none⟩ v').setCell ⟨B, 6, none⟩ (.int .u32 (seqOf c (s.done + k)))) B base c (cutF s k) v' := by
    intro v' ht hv
    refine ⟨?_, ht.kept fun j hj => ?_, by rw [hv]; exact hne⟩
    · rw [Go.Joins.block_setCell (Go.Joins.block_setCell hB1 _) _]
      rfl
    · have hjB : j ≠ B := fun e => hne (by rw [← hv, hj, e])
      rw [heap_setCell_other _ _ _ _ hjB, heap_setCell_other _ _ _ _ hjB]
  by_cases hck : cap = k
  · rw [if_pos hck] at hdr
    subst hck
    go_wp2
    go_ret
    rw [Nat.sub_self, show s.tags.length - cap = 0 by omega] at hdr
    exact ⟨av, cp, _, rfl, own_put (own_put ho1 hav) hav, hfin _ hdr (by cases a <;> rfl), by cases a <;> rfl, (hmv.set _ _).set _ _⟩
  · rw [if_neg hck] at hdr
    go_wp2
    go_ret
    refine ⟨av, cp, _, rfl, own_put (own_put ho1 hav) hav, hfin _ hdr ?_, ?_, (hmv.set _ _).set _ _⟩ <;> exact own_add a k _ _ _ _
end Go.Proofs.Ytincfdhfoaimbaa
