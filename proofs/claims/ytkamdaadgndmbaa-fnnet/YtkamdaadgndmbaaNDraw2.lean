import Derived.Test.YtkamdaadgndmbaaNDraw1
namespace Go.Proofs.Ytkamdaadgndmbaa
open Go.ChangeShapes Go.WideShapes Go.ChangeAt Go.RowKit
set_option linter.unusedVariables false

/-! ### Drawing events: what is carried along -/
structure DrawE (w0 w : World) (b : Nat) (a : Option Addr) (n cap : Nat) (ev : Value) (G : Evs) (σ : Src) (wr : World) : Prop where
  dr : DrawAt w0 wr b a n cap σ
  ev : EvsN wr w.heap.size ev G
  gr : w.grownBy wr (some b)
  hb : b < w.heap.size
theorem grown_setE (w : World) (b i : Nat) (v : Value) : w.grownBy (w.setCell ⟨b, i, none⟩ v) (some b) := grown_set w b i v
section
variable {w0 w : World} {b : Nat} {a : Option Addr} {n cap : Nat} {ev : Value} {G : Evs} {σ : Src} {wr : World}
theorem DrawE.keeps (h : DrawE w0 w b a n cap ev G σ wr) {w' : World} {σ' : Src} (hd : DrawAt w0 w' b a n cap σ') (hg : w.grownBy w' (some b)) (hk : ∀ k, w.heap.size ≤ k → k < wr.heap.size → (ev.ownBlock = some k ∨ ∃ p ∈ G, (evP p).ownBlock = some k) → w'.heap[k]? = wr.heap[k]?) : DrawE w0 w b a n cap ev G σ' w' :=
  ⟨hd, ⟨row_stays h.ev.row fun k hk' => hk k (h.ev.row.lt k hk').1 (h.ev.row.lt k hk').2 (.inl hk'), fun p hp => row_stays (h.ev.dat p hp) fun k hk' => hk k ((h.ev.dat p hp).lt k hk').1 ((h.ev.dat p hp).lt k hk').2 (.inr ⟨p, hp, hk'⟩), h.ev.apart⟩, hg, h.hb⟩
theorem DrawE.next (h : DrawE w0 w b a n cap ev G σ wr) {w' : World} {σ' : Src} (hd : DrawAt w0 w' b a n cap σ') (hg : wr.grownBy w' (some b)) : DrawE w0 w b a n cap ev G σ' w' := by
  refine h.keeps hd (grown_trans h.gr hg) fun k h1 h2 _ => hg.block k h2 (fun e => ?_)
  have := Option.some.inj e
  have := h.hb
  omega
theorem DrawE.size (h : DrawE w0 w b a n cap ev G σ wr) : w.heap.size ≤ wr.heap.size := h.gr.size
theorem DrawE.grown (h : DrawE w0 w b a n cap ev G σ wr) {w' : World} {r : Option Nat} (hg : wr.grownBy w' r) (hr : ∀ k, r = some k → w.heap.size ≤ k ∧ ev.ownBlock ≠ some k ∧ ∀ p ∈ G, (evP p).ownBlock ≠ some k) : DrawE w0 w b a n cap ev G σ w' := by
  refine h.keeps (h.dr.grown hg fun k hk => ⟨Nat.le_trans (Nat.le_trans h.dr.new (Nat.le_of_lt h.hb)) (hr k hk).1, by have := (hr k hk).1; have := h.hb; omega⟩) (grown_past h.gr hg fun k hk => (hr k hk).1) fun k h1 h2 hk => hg.block k h2 (fun e => ?_)
  obtain ⟨_, r3, r4⟩ := hr k e.symm
  rcases hk with hk | ⟨p, hp, hk⟩
  · exact r3 hk
  · exact r4 p hp hk
theorem DrawE.alloc (h : DrawE w0 w b a n cap ev G σ wr) (o : Obj) : DrawE w0 w b a n cap ev G σ (wr.alloc o) := h.grown (World.grownBy_alloc wr o none) (by simp)
theorem DrawE.drew (h : DrawE w0 w b a n cap ev G σ wr) : DrawE w0 w b a n cap ev G σ wr.drew := ⟨h.dr.drew, ⟨h.ev.row, h.ev.dat, h.ev.apart⟩, ⟨h.gr.os, h.gr.tape, h.gr.output, h.gr.size, h.gr.block⟩, h.hb⟩
/-- A store into a block that is new. -/
theorem DrawE.set (h : DrawE w0 w b a n cap ev G σ wr) {lim E : Nat} (hE : lim ≤ E) (hl : w.heap.size ≤ lim) (he : ∀ k, ev.ownBlock = some k → k < lim) (hp : ∀ p ∈ G, ∀ k, (evP p).ownBlock = some k → k < lim) (j : Nat) (u : Value) : DrawE w0 w b a n cap ev G σ (wr.setCell ⟨E, j, none⟩ u) := by
  refine h.grown (grown_setE wr E j u) fun k hk => ?_
  have e := Option.some.inj hk
  subst e
  exact ⟨by omega, fun e => by have := he _ e; omega, fun p hp' e => by have := hp p hp' _ e; omega⟩
end
/-- An event on the way: its box E, its bytes in a row that is new. -/
structure EvBox (lim E : Nat) (e : NEv) (da : Option Addr) (dc : Nat) (wr : World) : Prop where
  box : wr.heap[E]? = some (.cells #[.int .i64 e.kd, .int .i64 e.pa, .int .i64 e.di, .int .i64 e.ix, .slice da e.dat.length dc] 35 (0, 0))
  row : wr.ownsRow lim 5 1 (.slice da e.dat.length dc) e.dat.length (e.dat.map (.int .u8))
  hE : lim ≤ E
section
variable {lim E : Nat} {e : NEv} {da : Option Addr} {dc : Nat} {wr w' : World}
theorem EvBox.ne (h : EvBox lim E e da dc wr) : ∀ k, (Value.slice da e.dat.length dc).ownBlock = some k → k ≠ E := fun k hk => by
  obtain ⟨cs, hcs⟩ := row_block h.row hk
  exact type_ne hcs h.box (by decide)
theorem EvBox.next (h : EvBox lim E e da dc wr) {b : Nat} (hg : wr.grownBy w' (some b)) (hb : b < lim) : EvBox lim E e da dc w' :=
  ⟨(hg.block E (Array.getElem?_eq_some_iff.1 h.box).1 (fun e2 => by have := Option.some.inj e2; have := h.hE; omega)).trans h.box, row_stays h.row fun k hk => hg.block k (h.row.lt k hk).2 (fun e2 => by have := Option.some.inj e2; have := (h.row.lt k hk).1; omega), h.hE⟩
theorem EvBox.drew (h : EvBox lim E e da dc wr) : EvBox lim E e da dc wr.drew := ⟨h.box, h.row, h.hE⟩
theorem EvBox.kd (h : EvBox lim E e da dc wr) (x : Int) : EvBox lim E { e with kd := x } da dc (wr.setCell ⟨E, 0, none⟩ (.int .i64 x)) :=
  ⟨heap_setCell_same wr E 0 _ _ _ h.box, row_stays h.row fun k hk => heap_setCell_other _ _ _ _ (h.ne k hk), h.hE⟩
theorem EvBox.pa (h : EvBox lim E e da dc wr) (x : Int) : EvBox lim E { e with pa := x } da dc (wr.setCell ⟨E, 1, none⟩ (.int .i64 x)) :=
  ⟨heap_setCell_same wr E 1 _ _ _ h.box, row_stays h.row fun k hk => heap_setCell_other _ _ _ _ (h.ne k hk), h.hE⟩
theorem EvBox.di (h : EvBox lim E e da dc wr) (x : Int) : EvBox lim E { e with di := x } da dc (wr.setCell ⟨E, 2, none⟩ (.int .i64 x)) :=
  ⟨heap_setCell_same wr E 2 _ _ _ h.box, row_stays h.row fun k hk => heap_setCell_other _ _ _ _ (h.ne k hk), h.hE⟩
theorem EvBox.ix (h : EvBox lim E e da dc wr) (x : Int) : EvBox lim E { e with ix := x } da dc (wr.setCell ⟨E, 3, none⟩ (.int .i64 x)) :=
  ⟨heap_setCell_same wr E 3 _ _ _ h.box, row_stays h.row fun k hk => heap_setCell_other _ _ _ _ (h.ne k hk), h.hE⟩
/-- Its bytes are new ones. -/
theorem EvBox.dat (h : EvBox lim E e da dc wr) (y : List Int) (va : Option Addr) (vc : Nat) (hrow : wr.ownsRow lim 5 1 (.slice va y.length vc) y.length (y.map (.int .u8))) : EvBox lim E { e with dat := y } va vc (wr.setCell ⟨E, 4, none⟩ (.slice va y.length vc)) :=
  ⟨heap_setCell_same wr E 4 _ _ _ h.box, row_stays hrow fun k hk => heap_setCell_other _ _ _ _ (by
    obtain ⟨cs, hcs⟩ := row_block hrow hk
    exact type_ne hcs h.box (by decide)), h.hE⟩
end
end Go.Proofs.Ytkamdaadgndmbaa
