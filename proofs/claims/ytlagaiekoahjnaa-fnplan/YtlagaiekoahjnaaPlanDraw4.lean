import Derived.Test.YtlagaiekoahjnaaPlanDraw3
import Derived.Deep.RegionHeld3
import Derived.Deep.AppendLies
namespace Go.Proofs.Ytlagaiekoahjnaa
open Go.ChangeShapes Go.WideShapes Go.ChangeAt Go.RowKit
set_option linter.unusedVariables false

/-- Carried along while the scheduler's input is drawn: the source, the answer's box, the input's box, its three rows. -/
structure CarP (w wi : World) (b I : Nat) (a : Option Addr) (n cap : Nat) (σ : Src) (pol tur : Int) (pa : Option Addr) (np pc : Nat) (pk : List Int) (va : Option Addr) (nv vc : Nat) (V : Vws) (ma : Option Addr) (nm mc : Nat) (S : Mps) (mx mp wt ed cl fm pl : Int) : Prop where
  d : DrawAt w wi b a n cap σ
  r : wi.heap[w.heap.size]? = some (.cells #[.int .i64 0, .int .i64 0, .slice none 0 0, .slice none 0 0, .slice none 0 0, .int .i64 0, .int .u64 0, .int .u64 0, .int .u64 0, .int .i64 0, .int .i64 0, .int .i64 0] 48 (0, 0))
  i : wi.heap[I]? = some (.cells #[.int .i64 pol, .int .i64 tur, .slice pa np pc, .slice va nv vc, .slice ma nm mc, .int .i64 mx, .int .u64 mp, .int .u64 wt, .int .u64 ed, .int .i64 cl, .int .i64 fm, .int .i64 pl] 48 (0, 0))
  p : wi.ownsRow w.heap.size 2 1 (.slice pa np pc) np (pk.map (.int .i64))
  v : wi.ownsRow w.heap.size 57 3 (.slice va nv vc) nv (flatV V)
  m : wi.ownsRow w.heap.size 55 5 (.slice ma nm mc) nm (flatM S)
  lt : w.heap.size < I

theorem keep_src {w wi wj : World} {b : Nat} {a : Option Addr} {n cap : Nat} {σ : Src} {base : Nat} {e : TypeId} {size : Nat} {u : Value} {k : Nat} {xs : List Value} (hd : DrawAt w wi b a n cap σ) (h : wi.ownsRow base e size u k xs) (hne : e ≠ 94) (hg : wi.grownBy wj (some b)) : wj.ownsRow base e size u k xs := by
  have h1 := own_ne h hd.src hne
  refine h.kept hg ?_
  cases hv : u.ownBlock with
  | none => exact .inl rfl
  | some j => exact .inr fun e' => h1 (by rw [hv, e'])
theorem keep_set {w : World} {base : Nat} {e t : TypeId} {size : Nat} {u : Value} {k B i : Nat} {xs : List Value} {cs : Array Value} {f : Nat × Nat} {y : Value} (h : w.ownsRow base e size u k xs) (hB : w.heap[B]? = some (.cells cs t f)) (hne : e ≠ t) : (w.setCell ⟨B, i, none⟩ y).ownsRow base e size u k xs := by
  have h1 := own_ne h hB hne
  refine h.kept (grown_set w B i y) ?_
  cases hv : u.ownBlock with
  | none => exact .inl rfl
  | some j => exact .inr fun e' => h1 (by rw [hv, e'])
section
variable {w wi wj : World} {b I : Nat} {a : Option Addr} {n cap : Nat} {σ τ : Src} {pol tur : Int} {pa : Option Addr} {np pc : Nat} {pk : List Int} {va : Option Addr} {nv vc : Nat} {V : Vws} {ma : Option Addr} {nm mc : Nat} {S : Mps} {mx mp wt ed cl fm pl : Int}
theorem CarP.ne (h : CarP w wi b I a n cap σ pol tur pa np pc pk va nv vc V ma nm mc S mx mp wt ed cl fm pl) : I ≠ b := ty_ne h.i h.d.src (by decide)
theorem CarP.rne (h : CarP w wi b I a n cap σ pol tur pa np pc pk va nv vc V ma nm mc S mx mp wt ed cl fm pl) : w.heap.size ≠ b := ty_ne h.r h.d.src (by decide)
theorem CarP.call (h : CarP w wi b I a n cap σ pol tur pa np pc pk va nv vc V ma nm mc S mx mp wt ed cl fm pl) (hd : DrawAt w wj b a n cap τ) (hg : wi.grownBy wj (some b)) : CarP w wj b I a n cap τ pol tur pa np pc pk va nv vc V ma nm mc S mx mp wt ed cl fm pl :=
  ⟨hd, (hg.block _ (Array.getElem?_eq_some_iff.1 h.r).1 (fun e => h.rne (Option.some.inj e))).trans h.r, (hg.block _ (Array.getElem?_eq_some_iff.1 h.i).1 (fun e => h.ne (Option.some.inj e))).trans h.i, keep_src h.d h.p (by decide) hg, keep_src h.d h.v (by decide) hg, keep_src h.d h.m (by decide) hg, h.lt⟩
theorem CarP.alloc (h : CarP w wi b I a n cap σ pol tur pa np pc pk va nv vc V ma nm mc S mx mp wt ed cl fm pl) (ob : Obj) : CarP w (wi.alloc ob) b I a n cap σ pol tur pa np pc pk va nv vc V ma nm mc S mx mp wt ed cl fm pl :=
  ⟨h.d.grown (World.grownBy_alloc wi ob none) (by simp), (Below.heap_alloc _ _ _ (Array.getElem?_eq_some_iff.1 h.r).1).trans h.r, (Below.heap_alloc _ _ _ (Array.getElem?_eq_some_iff.1 h.i).1).trans h.i, h.p.alloc ob, h.v.alloc ob, h.m.alloc ob, h.lt⟩
theorem CarP.drew (h : CarP w wi b I a n cap σ pol tur pa np pc pk va nv vc V ma nm mc S mx mp wt ed cl fm pl) : CarP w wi.drew b I a n cap σ pol tur pa np pc pk va nv vc V ma nm mc S mx mp wt ed cl fm pl := ⟨h.d.drew, h.r, h.i, h.p, h.v, h.m, h.lt⟩
theorem CarP.cells (h : CarP w wi b I a n cap σ pol tur pa np pc pk va nv vc V ma nm mc S mx mp wt ed cl fm pl) : (wi.cell? ⟨I, 0, none⟩ = some (.int .i64 pol) ∧ wi.cell? ⟨I, 1, none⟩ = some (.int .i64 tur) ∧ wi.cell? ⟨I, 2, none⟩ = some (.slice pa np pc) ∧ wi.cell? ⟨I, 3, none⟩ = some (.slice va nv vc) ∧ wi.cell? ⟨I, 4, none⟩ = some (.slice ma nm mc) ∧ wi.cell? ⟨I, 5, none⟩ = some (.int .i64 mx) ∧ wi.cell? ⟨I, 6, none⟩ = some (.int .u64 mp) ∧ wi.cell? ⟨I, 7, none⟩ = some (.int .u64 wt) ∧ wi.cell? ⟨I, 8, none⟩ = some (.int .u64 ed) ∧ wi.cell? ⟨I, 9, none⟩ = some (.int .i64 cl) ∧ wi.cell? ⟨I, 10, none⟩ = some (.int .i64 fm) ∧ wi.cell? ⟨I, 11, none⟩ = some (.int .i64 pl)) ∧ (∀ j, wi.frozen? ⟨I, j, none⟩ = false) :=
  ⟨⟨Go.Joins.cell_of_block h.i 0, Go.Joins.cell_of_block h.i 1, Go.Joins.cell_of_block h.i 2, Go.Joins.cell_of_block h.i 3, Go.Joins.cell_of_block h.i 4, Go.Joins.cell_of_block h.i 5, Go.Joins.cell_of_block h.i 6, Go.Joins.cell_of_block h.i 7, Go.Joins.cell_of_block h.i 8, Go.Joins.cell_of_block h.i 9, Go.Joins.cell_of_block h.i 10, Go.Joins.cell_of_block h.i 11⟩, fun j => Go.Joins.unfrozen_of_block h.i j⟩
theorem CarP.put (h : CarP w wi b I a n cap σ pol tur pa np pc pk va nv vc V ma nm mc S mx mp wt ed cl fm pl) (j : Nat) (y : Value) {cs : Array Value} (hb : (wi.setCell ⟨I, j, none⟩ y).heap[I]? = some (.cells cs 48 (0, 0))) :
    DrawAt w (wi.setCell ⟨I, j, none⟩ y) b a n cap σ ∧ (wi.setCell ⟨I, j, none⟩ y).heap[w.heap.size]? = some (.cells #[.int .i64 0, .int .i64 0, .slice none 0 0, .slice none 0 0, .slice none 0 0, .int .i64 0, .int .u64 0, .int .u64 0, .int .u64 0, .int .i64 0, .int .i64 0, .int .i64 0] 48 (0, 0)) ∧ (wi.setCell ⟨I, j, none⟩ y).ownsRow w.heap.size 2 1 (.slice pa np pc) np (pk.map (.int .i64)) ∧ (wi.setCell ⟨I, j, none⟩ y).ownsRow w.heap.size 57 3 (.slice va nv vc) nv (flatV V) ∧ (wi.setCell ⟨I, j, none⟩ y).ownsRow w.heap.size 55 5 (.slice ma nm mc) nm (flatM S) := by
  have h1 := h.lt
  have h2 := h.ne
  refine ⟨h.d.grown (grown_set wi I j y) (fun k hk => by have := Option.some.inj hk; omega), ?_, keep_set h.p h.i (by decide), keep_set h.v h.i (by decide), keep_set h.m h.i (by decide)⟩
  rw [heap_setCell_other _ _ _ _ (by simp; omega)]
  exact h.r
theorem CarP.put0 (h : CarP w wi b I a n cap σ pol tur pa np pc pk va nv vc V ma nm mc S mx mp wt ed cl fm pl) (x : Int) : CarP w (wi.setCell ⟨I, 0, none⟩ (.int .i64 x)) b I a n cap σ x tur pa np pc pk va nv vc V ma nm mc S mx mp wt ed cl fm pl := by
  have hb : (wi.setCell ⟨I, 0, none⟩ (.int .i64 x)).heap[I]? = some (.cells #[.int .i64 x, .int .i64 tur, .slice pa np pc, .slice va nv vc, .slice ma nm mc, .int .i64 mx, .int .u64 mp, .int .u64 wt, .int .u64 ed, .int .i64 cl, .int .i64 fm, .int .i64 pl] 48 (0, 0)) := by rw [Go.Joins.block_setCell h.i]; rfl
  obtain ⟨h1, h2, h3, h4, h5⟩ := h.put 0 _ hb
  exact ⟨h1, h2, hb, h3, h4, h5, h.lt⟩
theorem CarP.put1 (h : CarP w wi b I a n cap σ pol tur pa np pc pk va nv vc V ma nm mc S mx mp wt ed cl fm pl) (x : Int) : CarP w (wi.setCell ⟨I, 1, none⟩ (.int .i64 x)) b I a n cap σ pol x pa np pc pk va nv vc V ma nm mc S mx mp wt ed cl fm pl := by
  have hb : (wi.setCell ⟨I, 1, none⟩ (.int .i64 x)).heap[I]? = some (.cells #[.int .i64 pol, .int .i64 x, .slice pa np pc, .slice va nv vc, .slice ma nm mc, .int .i64 mx, .int .u64 mp, .int .u64 wt, .int .u64 ed, .int .i64 cl, .int .i64 fm, .int .i64 pl] 48 (0, 0)) := by rw [Go.Joins.block_setCell h.i]; rfl
  obtain ⟨h1, h2, h3, h4, h5⟩ := h.put 1 _ hb
  exact ⟨h1, h2, hb, h3, h4, h5, h.lt⟩
theorem CarP.put5 (h : CarP w wi b I a n cap σ pol tur pa np pc pk va nv vc V ma nm mc S mx mp wt ed cl fm pl) (x : Int) : CarP w (wi.setCell ⟨I, 5, none⟩ (.int .i64 x)) b I a n cap σ pol tur pa np pc pk va nv vc V ma nm mc S x mp wt ed cl fm pl := by
  have hb : (wi.setCell ⟨I, 5, none⟩ (.int .i64 x)).heap[I]? = some (.cells #[.int .i64 pol, .int .i64 tur, .slice pa np pc, .slice va nv vc, .slice ma nm mc, .int .i64 x, .int .u64 mp, .int .u64 wt, .int .u64 ed, .int .i64 cl, .int .i64 fm, .int .i64 pl] 48 (0, 0)) := by rw [Go.Joins.block_setCell h.i]; rfl
  obtain ⟨h1, h2, h3, h4, h5⟩ := h.put 5 _ hb
  exact ⟨h1, h2, hb, h3, h4, h5, h.lt⟩
theorem CarP.put6 (h : CarP w wi b I a n cap σ pol tur pa np pc pk va nv vc V ma nm mc S mx mp wt ed cl fm pl) (x : Int) : CarP w (wi.setCell ⟨I, 6, none⟩ (.int .u64 x)) b I a n cap σ pol tur pa np pc pk va nv vc V ma nm mc S mx x wt ed cl fm pl := by
  have hb : (wi.setCell ⟨I, 6, none⟩ (.int .u64 x)).heap[I]? = some (.cells #[.int .i64 pol, .int .i64 tur, .slice pa np pc, .slice va nv vc, .slice ma nm mc, .int .i64 mx, .int .u64 x, .int .u64 wt, .int .u64 ed, .int .i64 cl, .int .i64 fm, .int .i64 pl] 48 (0, 0)) := by rw [Go.Joins.block_setCell h.i]; rfl
  obtain ⟨h1, h2, h3, h4, h5⟩ := h.put 6 _ hb
  exact ⟨h1, h2, hb, h3, h4, h5, h.lt⟩
theorem CarP.put7 (h : CarP w wi b I a n cap σ pol tur pa np pc pk va nv vc V ma nm mc S mx mp wt ed cl fm pl) (x : Int) : CarP w (wi.setCell ⟨I, 7, none⟩ (.int .u64 x)) b I a n cap σ pol tur pa np pc pk va nv vc V ma nm mc S mx mp x ed cl fm pl := by
  have hb : (wi.setCell ⟨I, 7, none⟩ (.int .u64 x)).heap[I]? = some (.cells #[.int .i64 pol, .int .i64 tur, .slice pa np pc, .slice va nv vc, .slice ma nm mc, .int .i64 mx, .int .u64 mp, .int .u64 x, .int .u64 ed, .int .i64 cl, .int .i64 fm, .int .i64 pl] 48 (0, 0)) := by rw [Go.Joins.block_setCell h.i]; rfl
  obtain ⟨h1, h2, h3, h4, h5⟩ := h.put 7 _ hb
  exact ⟨h1, h2, hb, h3, h4, h5, h.lt⟩
theorem CarP.put8 (h : CarP w wi b I a n cap σ pol tur pa np pc pk va nv vc V ma nm mc S mx mp wt ed cl fm pl) (x : Int) : CarP w (wi.setCell ⟨I, 8, none⟩ (.int .u64 x)) b I a n cap σ pol tur pa np pc pk va nv vc V ma nm mc S mx mp wt x cl fm pl := by
  have hb : (wi.setCell ⟨I, 8, none⟩ (.int .u64 x)).heap[I]? = some (.cells #[.int .i64 pol, .int .i64 tur, .slice pa np pc, .slice va nv vc, .slice ma nm mc, .int .i64 mx, .int .u64 mp, .int .u64 wt, .int .u64 x, .int .i64 cl, .int .i64 fm, .int .i64 pl] 48 (0, 0)) := by rw [Go.Joins.block_setCell h.i]; rfl
  obtain ⟨h1, h2, h3, h4, h5⟩ := h.put 8 _ hb
  exact ⟨h1, h2, hb, h3, h4, h5, h.lt⟩
theorem CarP.put9 (h : CarP w wi b I a n cap σ pol tur pa np pc pk va nv vc V ma nm mc S mx mp wt ed cl fm pl) (x : Int) : CarP w (wi.setCell ⟨I, 9, none⟩ (.int .i64 x)) b I a n cap σ pol tur pa np pc pk va nv vc V ma nm mc S mx mp wt ed x fm pl := by
  have hb : (wi.setCell ⟨I, 9, none⟩ (.int .i64 x)).heap[I]? = some (.cells #[.int .i64 pol, .int .i64 tur, .slice pa np pc, .slice va nv vc, .slice ma nm mc, .int .i64 mx, .int .u64 mp, .int .u64 wt, .int .u64 ed, .int .i64 x, .int .i64 fm, .int .i64 pl] 48 (0, 0)) := by rw [Go.Joins.block_setCell h.i]; rfl
  obtain ⟨h1, h2, h3, h4, h5⟩ := h.put 9 _ hb
  exact ⟨h1, h2, hb, h3, h4, h5, h.lt⟩
theorem CarP.put10 (h : CarP w wi b I a n cap σ pol tur pa np pc pk va nv vc V ma nm mc S mx mp wt ed cl fm pl) (x : Int) : CarP w (wi.setCell ⟨I, 10, none⟩ (.int .i64 x)) b I a n cap σ pol tur pa np pc pk va nv vc V ma nm mc S mx mp wt ed cl x pl := by
  have hb : (wi.setCell ⟨I, 10, none⟩ (.int .i64 x)).heap[I]? = some (.cells #[.int .i64 pol, .int .i64 tur, .slice pa np pc, .slice va nv vc, .slice ma nm mc, .int .i64 mx, .int .u64 mp, .int .u64 wt, .int .u64 ed, .int .i64 cl, .int .i64 x, .int .i64 pl] 48 (0, 0)) := by rw [Go.Joins.block_setCell h.i]; rfl
  obtain ⟨h1, h2, h3, h4, h5⟩ := h.put 10 _ hb
  exact ⟨h1, h2, hb, h3, h4, h5, h.lt⟩
theorem CarP.put11 (h : CarP w wi b I a n cap σ pol tur pa np pc pk va nv vc V ma nm mc S mx mp wt ed cl fm pl) (x : Int) : CarP w (wi.setCell ⟨I, 11, none⟩ (.int .i64 x)) b I a n cap σ pol tur pa np pc pk va nv vc V ma nm mc S mx mp wt ed cl fm x := by
  have hb : (wi.setCell ⟨I, 11, none⟩ (.int .i64 x)).heap[I]? = some (.cells #[.int .i64 pol, .int .i64 tur, .slice pa np pc, .slice va nv vc, .slice ma nm mc, .int .i64 mx, .int .u64 mp, .int .u64 wt, .int .u64 ed, .int .i64 cl, .int .i64 fm, .int .i64 x] 48 (0, 0)) := by rw [Go.Joins.block_setCell h.i]; rfl
  obtain ⟨h1, h2, h3, h4, h5⟩ := h.put 11 _ hb
  exact ⟨h1, h2, hb, h3, h4, h5, h.lt⟩
/-- The picks' row has grown, and its place is told. -/
theorem CarP.growP (h : CarP w wi b I a n cap σ pol tur pa np pc pk va nv vc V ma nm mc S mx mp wt ed cl fm pl) (hg : wi.grownBy wj (Value.slice pa np pc).ownBlock) {pa' : Option Addr} {np' pc' : Nat} {pk' : List Int} (ho : wj.ownsRow w.heap.size 2 1 (.slice pa' np' pc') np' (pk'.map (.int .i64))) :
    CarP w (wj.setCell ⟨I, 2, none⟩ (.slice pa' np' pc')) b I a n cap σ pol tur pa' np' pc' pk' va nv vc V ma nm mc S mx mp wt ed cl fm pl := by
  have hI := own_ne h.p h.i (by decide)
  have hR := own_ne h.p h.r (by decide)
  have hbb := own_ne h.p h.d.src (by decide)
  have hd1 : DrawAt w wj b a n cap σ := h.d.grown hg (fun k hk => ⟨(h.p.lt k hk).1, fun e => hbb (by rw [hk, e])⟩)
  have hi1 : wj.heap[I]? = _ := (hg.block I (Array.getElem?_eq_some_iff.1 h.i).1 (fun e => hI e.symm)).trans h.i
  have hr1 : wj.heap[w.heap.size]? = _ := (hg.block w.heap.size (Array.getElem?_eq_some_iff.1 h.r).1 (fun e => hR e.symm)).trans h.r
  have hv1 : wj.ownsRow w.heap.size 57 3 (.slice va nv vc) nv (flatV V) := row_keep h.v (fun k hk => hg.block k (h.v.lt k hk).2 (fun e => by
    obtain ⟨cs, h1⟩ := row_ty h.p e.symm
    obtain ⟨cs2, h2⟩ := row_ty h.v hk
    exact ty_ne h1 h2 (by decide) rfl))
  have hm1 : wj.ownsRow w.heap.size 55 5 (.slice ma nm mc) nm (flatM S) := row_keep h.m (fun k hk => hg.block k (h.m.lt k hk).2 (fun e => by
    obtain ⟨cs, h1⟩ := row_ty h.p e.symm
    obtain ⟨cs2, h2⟩ := row_ty h.m hk
    exact ty_ne h1 h2 (by decide) rfl))
  have hC : CarP w wj b I a n cap σ pol tur pa np pc pk va nv vc V ma nm mc S mx mp wt ed cl fm pl ∨ True := .inr trivial
  have hlt := h.lt
  have hne := h.ne
  have hb : (wj.setCell ⟨I, 2, none⟩ (.slice pa' np' pc')).heap[I]? = some (.cells #[.int .i64 pol, .int .i64 tur, .slice pa' np' pc', .slice va nv vc, .slice ma nm mc, .int .i64 mx, .int .u64 mp, .int .u64 wt, .int .u64 ed, .int .i64 cl, .int .i64 fm, .int .i64 pl] 48 (0, 0)) := by rw [Go.Joins.block_setCell hi1]; rfl
  refine ⟨hd1.grown (grown_set wj I 2 _) (fun k hk => by have := Option.some.inj hk; omega), ?_, hb, keep_set ho hi1 (by decide), keep_set hv1 hi1 (by decide), keep_set hm1 hi1 (by decide), h.lt⟩
  rw [heap_setCell_other _ _ _ _ (by simp; omega)]
  exact hr1
/-- The mappings' row has been turned in place, or grown, and its place is told. -/
theorem CarP.growM (h : CarP w wi b I a n cap σ pol tur pa np pc pk va nv vc V ma nm mc S mx mp wt ed cl fm pl) (hT : Two wi wj b (Value.slice ma nm mc).ownBlock) (hd : DrawAt w wj b a n cap τ) {ma' : Option Addr} {nm' mc' : Nat} {S' : Mps} (ho : wj.ownsRow w.heap.size 55 5 (.slice ma' nm' mc') nm' (flatM S')) :
    CarP w (wj.setCell ⟨I, 4, none⟩ (.slice ma' nm' mc')) b I a n cap τ pol tur pa np pc pk va nv vc V ma' nm' mc' S' mx mp wt ed cl fm pl := by
  have hI := own_ne h.m h.i (by decide)
  have hR := own_ne h.m h.r (by decide)
  have hi1 : wj.heap[I]? = _ := (hT.bl I (Array.getElem?_eq_some_iff.1 h.i).1 h.ne (fun e => hI e.symm)).trans h.i
  have hr1 : wj.heap[w.heap.size]? = _ := (hT.bl w.heap.size (Array.getElem?_eq_some_iff.1 h.r).1 h.rne (fun e => hR e.symm)).trans h.r
  have hv1 : wj.ownsRow w.heap.size 57 3 (.slice va nv vc) nv (flatV V) := row_keep h.v (fun k hk => hT.bl k (h.v.lt k hk).2 (fun e => own_ne h.v h.d.src (by decide) (by rw [hk, e])) (fun e => by
    obtain ⟨cs, h1⟩ := row_ty h.m e.symm
    obtain ⟨cs2, h2⟩ := row_ty h.v hk
    exact ty_ne h1 h2 (by decide) rfl))
  have hp1 : wj.ownsRow w.heap.size 2 1 (.slice pa np pc) np (pk.map (.int .i64)) := row_keep h.p (fun k hk => hT.bl k (h.p.lt k hk).2 (fun e => own_ne h.p h.d.src (by decide) (by rw [hk, e])) (fun e => by
    obtain ⟨cs, h1⟩ := row_ty h.m e.symm
    obtain ⟨cs2, h2⟩ := row_ty h.p hk
    exact ty_ne h1 h2 (by decide) rfl))
  have hlt := h.lt
  have hne := h.ne
  have hb : (wj.setCell ⟨I, 4, none⟩ (.slice ma' nm' mc')).heap[I]? = some (.cells #[.int .i64 pol, .int .i64 tur, .slice pa np pc, .slice va nv vc, .slice ma' nm' mc', .int .i64 mx, .int .u64 mp, .int .u64 wt, .int .u64 ed, .int .i64 cl, .int .i64 fm, .int .i64 pl] 48 (0, 0)) := by rw [Go.Joins.block_setCell hi1]; rfl
  refine ⟨hd.grown (grown_set wj I 4 _) (fun k hk => by have := Option.some.inj hk; omega), ?_, hb, keep_set hp1 hi1 (by decide), keep_set hv1 hi1 (by decide), keep_set ho hi1 (by decide), h.lt⟩
  rw [heap_setCell_other _ _ _ _ (by simp; omega)]
  exact hr1
/-- One cell of the mappings' row is stored. -/
theorem CarP.putM {g : Nat} (h : CarP w wi b I a n cap σ pol tur pa np pc pk va nv vc V (some ⟨g, 0, none⟩) nm mc S mx mp wt ed cl fm pl) (j : Nat) (y : Value) {S' : Mps} (he : (flatM S).set j y = flatM S') : CarP w (wi.setCell ⟨g, j, none⟩ y) b I a n cap σ pol tur pa np pc pk va nv vc V (some ⟨g, 0, none⟩) nm mc S' mx mp wt ed cl fm pl := by
  obtain ⟨cs, hg⟩ := row_ty h.m (k := g) rfl
  have h1 := ty_ne hg h.i (by decide)
  have h2 := ty_ne hg h.r (by decide)
  have h3 := ty_ne hg h.d.src (by decide)
  have h4 := (h.m.lt g rfl).1
  refine ⟨h.d.grown (grown_set wi g j y) (fun k hk => by have := Option.some.inj hk; omega), ?_, ?_, keep_set h.p hg (by decide), keep_set h.v hg (by decide), put_row h.m j y he, h.lt⟩
  · rw [heap_setCell_other _ _ _ _ (by simp; omega)]; exact h.r
  · rw [heap_setCell_other _ _ _ _ (by simp; omega)]; exact h.i
end
theorem info64 : (Try.prog.info? 2).map (fun i => (i.zero, i.size, i.bytes)) = some (some (.int .i64 0), 1, 8) := by kernel_rfl
/-- append of one number to a row, at a step of a region that draws. -/
theorem step_one64 (w : World) {ops : Array Oper} {op : Oper} {ac : Act} {K : Act → World → Prop} {Q : Exit → Act → World → Prop} {E : Prop} (hgd : op.guard = none) (s x : Operand)
    (ho : op.op = .call { callee := .builtin .append, args := #[s, x], argTypes := #[36, 36] })
    (base : Nat) (av : Option Addr) (n cap : Nat) (zs : List Int) (hn : zs.length = n) (c : Int) (hs : ac.eval s = .slice av n cap) (hown : w.ownsRow base 2 1 (.slice av n cap) n (zs.map (.int .i64)))
    (b : Nat) (hx : ac.eval x = .slice (some ⟨b, 0, none⟩) 1 1) (hb : w.cell? ⟨b, 0, none⟩ = some (.int .i64 c)) (hl : n ≤ 4294967296) (hbase : base ≤ w.heap.size)
    (h : ∀ g cap' w', w'.ownsRow base 2 1 (.slice (some ⟨g, 0, none⟩) (n + 1) cap') (n + 1) ((zs ++ [c]).map (.int .i64)) → w.grownBy w' (Value.slice av n cap).ownBlock → K (ac.put op.dst (.slice (some ⟨g, 0, none⟩) (n + 1) cap')) w') :
    if Region.wanted op (yielded ops ac.tmps) = true then Oper.wp Try.prog op ac w K Q else E := by
  obtain ⟨i0, hi, hz0, hz1, hz2⟩ := info_parts info64
  refine step_append_lies w hgd s x 36 ho base 2 i0 (.int .i64 0) 1 8 Try.underlying36 hi hz0 hz1 hz2 rfl (by decide) (.slice av n cap) n (zs.map (.int .i64)) hs hown ⟨b, 0, none⟩ 1 1 [.int .i64 c] hx rfl ?_ ?_ (by decide) ?_ ?_ hbase w.heap.size rfl ?_
  · intro j u hj
    match j, hj with
    | 0, hj => simp at hj; subst hj; rw [← hb]; congr 1
  · intro u hu; simp at hu; subst hu; rfl
  · unfold maxLen; omega
  · omega
  · intro g cap' w' h2 h3 _ _
    exact h g cap' w' (by simpa using h2) h3
end Go.Proofs.Ytlagaiekoahjnaa
