import Derived.Test.YtpeecjoadgefjaaRTop
import Derived.Deep.RegionLaw
namespace Go.Proofs.Ytpeecjoadgefjaa
open Go.ChangeShapes Go.WideShapes Go.ChangeAt Go.RowKit
set_option linter.unusedVariables false

/-! ### The specification's buffer: all bytes that ever came, by their distance from x -/
structure GotAt (x : Int) (z : Nat) (s : RB) (got : List Int) : Prop where
  at_ : ∀ t, s.read ≤ t → s.f t = if 0 ≤ got.getD (t - x).toNat (-1) then some (got.getD (t - x).toNat (-1)) else none
  val : ∀ v ∈ got, -1 ≤ v ∧ v ≤ 255
  len : (got.length : Int) ≤ s.read - x + z
  lo : x ≤ s.read
  win : InWin z s
  x0 : 0 ≤ x
  x1 : x ≤ 4611686018427387904
  hi : s.read ≤ x + 20000000
  z1 : 1 ≤ z
  z2 : z ≤ 4096
  hf : s.hf = 0 ∨ s.hf = 1
  f0 : 0 ≤ s.fin
  f1 : s.fin ≤ 9000000000000000000
theorem getD_pad (l : List Int) (i : Nat) : (l ++ [-1]).getD i (-1) = l.getD i (-1) := by
  rw [List.getD_eq_getElem?_getD, List.getD_eq_getElem?_getD]
  by_cases h : i < l.length
  · rw [List.getElem?_append_left h]
  · by_cases h2 : i = l.length
    · subst h2; simp
    · rw [List.getElem?_eq_none (by simp; omega), List.getElem?_eq_none (by omega)]
theorem GotAt.pad {x : Int} {z : Nat} {s : RB} {got : List Int} (h : GotAt x z s got) (hl : (got.length : Int) + 1 ≤ s.read - x + z) : GotAt x z s (got ++ [-1]) :=
  ⟨fun t ht => by rw [getD_pad]; exact h.at_ t ht, fun v hv => by
    rcases List.mem_append.1 hv with hv | hv
    · exact h.val v hv
    · simp at hv; subst hv; omega, by simp; omega, h.lo, h.win, h.x0, h.x1, h.hi, h.z1, h.z2, h.hf, h.f0, h.f1⟩
theorem GotAt.none_iff {x : Int} {z : Nat} {s : RB} {got : List Int} (h : GotAt x z s got) {t : Int} (ht : s.read ≤ t) : s.f t = none ↔ got.getD (t - x).toNat (-1) < 0 := by
  rw [h.at_ t ht]
  split
  · rename_i h1
    exact ⟨(fun e => by cases e), fun h2 => by omega⟩
  · rename_i h1
    exact ⟨fun _ => by omega, fun _ => rfl⟩
theorem GotAt.put {x : Int} {z : Nat} {s : RB} {got : List Int} (h : GotAt x z s got) {t v : Int} (ht : s.read ≤ t) (hl : (t - x).toNat < got.length) (v0 : 0 ≤ v) (v1 : v ≤ 255) : GotAt x z { s with f := upd s.f t v } (got.set (t - x).toNat v) := by
  have hlo := h.lo
  refine ⟨fun u hu => ?_, fun u hu => ?_, by simp; exact h.len, h.lo, ?_, h.x0, h.x1, h.hi, h.z1, h.z2, h.hf, h.f0, h.f1⟩
  · simp only at hu
    simp only [upd]
    by_cases e : u = t
    · subst e
      have e2 : (got.set (u - x).toNat v).getD (u - x).toNat (-1) = v := by rw [List.getD_eq_getElem?_getD, List.getElem?_set_self hl]; rfl
      rw [if_pos rfl, e2, if_pos v0]
    · rw [if_neg e, h.at_ u hu]
      have e2 : (got.set (t - x).toNat v).getD (u - x).toNat (-1) = got.getD (u - x).toNat (-1) := by
        rw [List.getD_eq_getElem?_getD, List.getElem?_set_ne (by omega), List.getD_eq_getElem?_getD]
      rw [e2]
  · rcases List.mem_or_eq_of_mem_set hu with hu | rfl
    · exact h.val u hu
    · omega
  · intro u y hy
    simp only [upd] at hy
    simp only
    split at hy
    · rename_i e
      simp only [Option.some.injEq] at hy
      subst e hy
      have := h.len
      omega
    · exact h.win u y hy
theorem GotAt.gone1 {x : Int} {z : Nat} {s : RB} {got : List Int} (h : GotAt x z s got) (hr : s.read + 1 ≤ x + 20000000) : GotAt x z (gone1 s) got := by
  refine ⟨fun t ht => ?_, h.val, ?_, ?_, h.win.gone1, h.x0, h.x1, hr, h.z1, h.z2, h.hf, h.f0, h.f1⟩
  · simp only [Go.Proofs.Ytpeecjoadgefjaa.gone1] at ht ⊢
    rw [if_neg (by omega)]
    exact h.at_ t (by omega)
  · have := h.len; simp only [Go.Proofs.Ytpeecjoadgefjaa.gone1]; omega
  · have := h.lo; simp only [Go.Proofs.Ytpeecjoadgefjaa.gone1]; omega
theorem GotAt.goneN {x : Int} {z : Nat} {s : RB} {got : List Int} (h : GotAt x z s got) (k : Nat) (hr : s.read + k ≤ x + 20000000) : GotAt x z (goneN s k) got := by
  induction k with
  | zero => rw [goneN_zero h.win]; exact h
  | succ k ih =>
    rw [goneN_succ]
    exact (ih (by omega)).gone1 (by simp only [Go.Proofs.Ytpeecjoadgefjaa.goneN]; omega)
theorem GotAt.end_ {x : Int} {z : Nat} {s : RB} {got : List Int} (h : GotAt x z s got) (off : Int) (o0 : 0 ≤ off) (o1 : off ≤ 9000000000000000000) : GotAt x z { s with hf := 1, fin := off } got :=
  ⟨h.at_, h.val, h.len, h.lo, h.win, h.x0, h.x1, h.hi, h.z1, h.z2, .inr rfl, o0, o1⟩
theorem runLen_stop (f : Int → Option Int) : ∀ k x, runLen f k x < k → f (x + (runLen f k x : Nat)) = none := by
  intro k
  induction k with
  | zero => intro x h; omega
  | succ k ih =>
    intro x h
    unfold runLen at h ⊢
    split
    · rename_i h1
      rw [if_pos h1] at h
      rw [show x + ((runLen f k (x + 1) + 1 : Nat) : Int) = x + 1 + (runLen f k (x + 1) : Nat) by omega]
      exact ih (x + 1) (by omega)
    · rename_i h1
      simpa using h1
theorem GotAt.runs {x : Int} {z : Nat} {s : RB} {got : List Int} (h : GotAt x z s got) (i : Nat) (hi : i < runLen s.f z s.read) : 0 ≤ got.getD (s.read + i - x).toNat (-1) := by
  have h1 := runLen_held s.f z s.read i hi
  by_cases h2 : got.getD (s.read + i - x).toNat (-1) < 0
  · rw [(h.none_iff (by omega)).2 h2] at h1; simp at h1
  · omega
theorem GotAt.stops {x : Int} {z : Nat} {s : RB} {got : List Int} (h : GotAt x z s got) : got.getD (s.read + (runLen s.f z s.read : Nat) - x).toNat (-1) < 0 := by
  refine (h.none_iff (by omega)).1 ?_
  by_cases h1 : runLen s.f z s.read < z
  · exact runLen_stop s.f z s.read h1
  · have h2 := runLen_le s.f z s.read
    cases h3 : s.f (s.read + (runLen s.f z s.read : Nat)) with
    | none => rfl
    | some v => have := h.win _ _ h3; omega

/-! ### What a call leaves -/
structure Mv (w w' : World) (B : Nat) (r : Option Nat) : Prop where
  os : w'.os = w.os
  tape : w'.tape = w.tape
  output : w'.output = w.output
  size : w.heap.size ≤ w'.heap.size
  block : ∀ k, k < w.heap.size → k ≠ B → some k ≠ r → w'.heap[k]? = w.heap[k]?
theorem Mv.refl (w : World) (B : Nat) (r : Option Nat) : Mv w w B r := ⟨rfl, rfl, rfl, Nat.le_refl _, fun _ _ _ _ => rfl⟩
theorem Mv.trans {w w1 w2 : World} {B : Nat} {r r2 : Option Nat} (h : Mv w w1 B r) (g : Mv w1 w2 B r2) (hr : r2 = r ∨ ∀ k, r2 = some k → w.heap.size ≤ k) : Mv w w2 B r :=
  ⟨g.os.trans h.os, g.tape.trans h.tape, g.output.trans h.output, Nat.le_trans h.size g.size, fun k hk h1 h2 => (g.block k (Nat.lt_of_lt_of_le hk h.size) h1 (fun e => by
    rcases hr with hr | hr
    · exact h2 (e.trans hr)
    · have := hr k e.symm; omega)).trans (h.block k hk h1 h2)⟩
theorem Mv.grown {w w1 w2 : World} {B : Nat} {r r2 : Option Nat} (h : Mv w w1 B r) (g : w1.grownBy w2 r2) (hr : r2 = r ∨ r2 = some B ∨ ∀ k, r2 = some k → w.heap.size ≤ k) : Mv w w2 B r :=
  ⟨g.os.trans h.os, g.tape.trans h.tape, g.output.trans h.output, Nat.le_trans h.size g.size, fun k hk h1 h2 => (g.block k (Nat.lt_of_lt_of_le hk h.size) (fun e => by
    rcases hr with hr | hr | hr
    · exact h2 (e.trans hr)
    · exact h1 (Option.some.inj (e.trans hr))
    · have := hr k e.symm; omega)).trans (h.block k hk h1 h2)⟩
theorem grown_set1 (w : World) (b i : Nat) (v : Value) : w.grownBy (w.setCell ⟨b, i, none⟩ v) (some b) := by
  refine ⟨rfl, rfl, rfl, by simp, fun k hk h => heap_setCell_other _ _ _ _ (fun e => h (by rw [e]))⟩
theorem Mv.set {w w1 : World} {B : Nat} {r : Option Nat} (h : Mv w w1 B r) (i : Nat) (v : Value) : Mv w (w1.setCell ⟨B, i, none⟩ v) B r := h.grown (grown_set1 w1 B i v) (.inr (.inl rfl))
theorem Mv.far {w w1 : World} {B : Nat} {r : Option Nat} (h : Mv w w1 B r) (k i : Nat) (hk : w.heap.size ≤ k) (v : Value) : Mv w (w1.setCell ⟨k, i, none⟩ v) B r := h.grown (grown_set1 w1 k i v) (.inr (.inr fun j hj => by have := Option.some.inj hj; omega))
theorem Mv.alloc {w w1 : World} {B : Nat} {r : Option Nat} (h : Mv w w1 B r) (o : Obj) : Mv w (w1.alloc o) B r := h.grown (World.grownBy_alloc w1 o none) (.inr (.inr (by simp)))
theorem Mv.drewN {w w1 : World} {B : Nat} {r : Option Nat} (h : Mv w w1 B r) (m : Nat) : Mv w (w1.drewN m) B r := ⟨h.os, h.tape, h.output, h.size, h.block⟩
theorem Mv.drew {w w1 : World} {B : Nat} {r : Option Nat} (h : Mv w w1 B r) : Mv w w1.drew B r := ⟨h.os, h.tape, h.output, h.size, h.block⟩

abbrev bufCells (x : Int) (z : Nat) (s : RB) (v : Value) : Array Value := #[.int .u64 x, .int .i64 (z : Int), v, .int .i64 (s.read - x), .int .u64 s.fin, .bool (decide (s.hf = 1))]
structure SpB (w : World) (B base : Nat) (x : Int) (z : Nat) (s : RB) (v : Value) (got : List Int) : Prop where
  blk : w.heap[B]? = some (.cells (bufCells x z s v) 83 (0, 0))
  row : w.ownsRow base 2 1 v got.length (got.map (.int .i64))
  got : GotAt x z s got
section
variable {w w' : World} {B base : Nat} {x : Int} {z : Nat} {s : RB} {v : Value} {got : List Int}
theorem SpB.lt (h : SpB w B base x z s v got) : B < w.heap.size := (Array.getElem?_eq_some_iff.1 h.blk).1
theorem SpB.ne (h : SpB w B base x z s v got) : v.ownBlock ≠ some B := fun e => by
  obtain ⟨cs, hc⟩ := row_block h.row e
  exact type_ne hc h.blk (by decide) rfl
theorem SpB.kept (h : SpB w B base x z s v got) (hB : w'.heap[B]? = w.heap[B]?) (hv : ∀ k, v.ownBlock = some k → w'.heap[k]? = w.heap[k]?) : SpB w' B base x z s v got :=
  ⟨hB.trans h.blk, row_stays h.row hv, h.got⟩
theorem SpB.below (h : SpB w B base x z s v got) (hb : Below w.heap.size w w') : SpB w' B base x z s v got := h.kept (hb.block B h.lt) fun k hk => hb.block k (h.row.lt k hk).2
theorem SpB.drewN (h : SpB w B base x z s v got) (m : Nat) : SpB (w.drewN m) B base x z s v got := ⟨h.blk, h.row, h.got⟩
theorem SpB.alloc (h : SpB w B base x z s v got) (o : Obj) : SpB (w.alloc o) B base x z s v got := h.below ((Below.refl _ _).alloc (Nat.le_refl _) _)
theorem SpB.far (h : SpB w B base x z s v got) (k i : Nat) (u : Value) (hk : k ≠ B) (hv : v.ownBlock ≠ some k) : SpB (w.setCell ⟨k, i, none⟩ u) B base x z s v got :=
  h.kept (heap_setCell_other _ _ _ _ (Ne.symm hk)) fun j hj => heap_setCell_other _ _ _ _ (fun e => hv (by rw [hj, e]))
theorem SpB.cells (h : SpB w B base x z s v got) : (w.cell? ⟨B, 0, none⟩ = some (.int .u64 x) ∧ w.cell? ⟨B, 1, none⟩ = some (.int .i64 (z : Int)) ∧ w.cell? ⟨B, 2, none⟩ = some v ∧ w.cell? ⟨B, 3, none⟩ = some (.int .i64 (s.read - x)) ∧ w.cell? ⟨B, 4, none⟩ = some (.int .u64 s.fin) ∧ w.cell? ⟨B, 5, none⟩ = some (.bool (decide (s.hf = 1)))) ∧ (∀ j, w.frozen? ⟨B, j, none⟩ = false) :=
  ⟨⟨Go.Joins.cell_of_block h.blk 0, Go.Joins.cell_of_block h.blk 1, Go.Joins.cell_of_block h.blk 2, Go.Joins.cell_of_block h.blk 3, Go.Joins.cell_of_block h.blk 4, Go.Joins.cell_of_block h.blk 5⟩, fun j => Go.Joins.unfrozen_of_block h.blk _⟩
theorem SpB.shape (h : SpB w B base x z s v got) : ∃ a cap, v = .slice a got.length cap ∧ Ints .i64 w a got := by
  obtain ⟨a, c, rfl⟩ := own_shape h.row
  exact ⟨a, c, rfl, Ints.ofRow h.row⟩
end
end Go.Proofs.Ytpeecjoadgefjaa
