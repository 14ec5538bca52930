import Derived.Test.YtpeecjoadgefjaaDrawsGr
import Derived.Test.YtpeecjoadgefjaaRMath1
import Derived.Test.YtpeecjoadgefjaaRTop
import Derived.Deep.RegionLaw
namespace Go.Proofs.Ytpeecjoadgefjaa
open Go.ChangeShapes Go.WideShapes Go.ChangeAt Go.RowKit
set_option linter.unusedVariables false

theorem byteF_fits (i : Int) : 0 ≤ byteF i ∧ byteF i ≤ 255 := by unfold byteF; omega
theorem l5Byte_any (i : Int) (w : World) (i0 : 0 ≤ i) (i1 : i ≤ 1000000000) :
    Calls Try.prog 55 #[.int .i64 i] w fun e w' => e = .returned (.int .u8 (byteF i)) ∧ w' = w := by
  have e1 : i.tdiv 11 = i / 11 := Int.tdiv_eq_ediv_of_nonneg i0
  have hw1 : IntKind.i64.wrap (i * 7) = i * 7 := by rw [IntKind.wrap_i64]; omega
  have hw2 : IntKind.i64.wrap (i / 11) = i / 11 := by rw [IntKind.wrap_i64]; omega
  have hw3 : IntKind.i64.wrap (i * 7 + i / 11) = i * 7 + i / 11 := by rw [IntKind.wrap_i64]; omega
  have hw4 : IntKind.u8.wrap (i * 7 + i / 11) = byteF i := by rw [IntKind.wrap_u8]; rfl
  go_enter Try.func55, Try.ntmps55
  go_wp2_with fail
  go_ret
  exact ⟨rfl, rfl⟩
theorem streamByte_any (i : Int) (w : World) (i0 : 0 ≤ i) (i1 : i ≤ 1000000000) :
    Calls Try.prog 25 #[.int .i64 i] w fun e w' => e = .returned (.int .u8 (byteF i)) ∧ w' = w := by
  have hc := l5Byte_any i w i0 i1
  obtain ⟨y, hy⟩ : ∃ y, Hid (y = byteF i) := ⟨_, rfl⟩
  rw [← hy.out] at hc ⊢
  go_enter Try.func25, Try.ntmps25
  go_wp2_with fail
  refine hc.mono ?_
  rintro e w1 ⟨rfl, hw⟩
  subst hw
  go_wp2_with fail
  go_ret
  exact ⟨rfl, rfl⟩
/-- Where the stream begins. -/
def startFn (zs : List Int) (σ : Src) : Int × Src :=
  if (nextF zs σ 5).1 = 0 then (4611686018427387904 - (nextF zs (nextF zs σ 5).2 3).1, (nextF zs (nextF zs σ 5).2 3).2)
  else if (nextF zs σ 5).1 = 1 then (4294967296 - (nextF zs (nextF zs σ 5).2 60).1, (nextF zs (nextF zs σ 5).2 60).2)
  else if (nextF zs σ 5).1 = 2 then ((nextF zs (nextF zs σ 5).2 1000).1, (nextF zs (nextF zs σ 5).2 1000).2)
  else (0, (nextF zs σ 5).2)
set_option maxHeartbeats 1000000 in
theorem drawStart_at (w0 w : World) (b : Nat) (a : Option Addr) (zs : List Int) (cap : Nat) (σ : Src) (hd : DrawAt w0 w b a zs.length cap σ) (hz : Ints .u8 w0 a zs) (hv : ∀ x ∈ zs, 0 ≤ x ∧ x ≤ 255) (hl : zs.length ≤ 2000000) :
    Calls Try.prog 49 #[.pointer (some ⟨b, 0, none⟩)] w fun e w' => ∃ (r : Int) (σ' : Src), e = .returned (.int .u64 r) ∧ Hid (startFn zs σ = (r, σ')) ∧ 0 ≤ r ∧ r ≤ 4611686018427387904 ∧ DrawAt w0 w' b a zs.length cap σ' ∧ w.grownBy w' (some b) := by
  have h5 := next_at w0 w b a zs cap σ 5 hd hz hv hl (by omega) (by omega)
  have HNX : Hid (∀ (w1 : World) (σ1 : Src) (n : Int), DrawAt w0 w1 b a zs.length cap σ1 → 0 < n → n ≤ 1000 → Calls Try.prog 50 #[.pointer (some ⟨b, 0, none⟩), .int .i64 n] w1 fun e w' => ∃ (r : Int) (σ' : Src), e = .returned (.int .i64 r) ∧ Hid (nextF zs σ1 n = (r, σ')) ∧ 0 ≤ r ∧ r < n ∧ DrawAt w0 w' b a zs.length cap σ' ∧ w1.grownBy w' (some b)) := fun w1 σ1 n h1 h2 h3 => next_at w0 w1 b a zs cap σ1 n h1 hz hv hl h2 (by omega)
  clear hd hz hv
  go_enter Try.func49, Try.ntmps49
  go_wp2_with fail
  refine h5.mono ?_
  rintro e w1 ⟨k, σ1, rfl, H1, k0, k1, hd1, hg1⟩
  clear h5
  by_cases e0 : k = 0
  · subst e0
    have h3 := HNX.out w1 σ1 3 hd1 (by omega) (by omega)
    go_wp2_with fail
    refine h3.mono ?_
    rintro e w2 ⟨r, σ2, rfl, H2, r0, r1, hd2, hg2⟩
    have hw1 : IntKind.u64.wrap r = r := by rw [IntKind.wrap_u64]; omega
    have hw2 : IntKind.u64.wrap (4611686018427387904 - r) = 4611686018427387904 - r := by rw [IntKind.wrap_u64]; omega
    clear h3
    go_wp2_with fail
    go_ret
    exact ⟨_, σ2, rfl, by unfold Hid startFn; rw [H1.out, if_pos rfl, H2.out], by omega, by omega, hd2, grown_trans hg1 hg2⟩
  have b0 : (k == 0) = false := by simpa using e0
  by_cases e1 : k = 1
  · subst e1
    have h3 := HNX.out w1 σ1 60 hd1 (by omega) (by omega)
    go_wp2_with fail
    refine h3.mono ?_
    rintro e w2 ⟨r, σ2, rfl, H2, r0, r1, hd2, hg2⟩
    have hw1 : IntKind.u64.wrap r = r := by rw [IntKind.wrap_u64]; omega
    have hw2 : IntKind.u64.wrap (4294967296 - r) = 4294967296 - r := by rw [IntKind.wrap_u64]; omega
    clear h3
    go_wp2_with fail
    go_ret
    exact ⟨_, σ2, rfl, by unfold Hid startFn; rw [H1.out, if_neg (by simp), if_pos rfl, H2.out], by omega, by omega, hd2, grown_trans hg1 hg2⟩
  have b1 : (k == 1) = false := by simpa using e1
  by_cases e2 : k = 2
  · subst e2
    have h3 := HNX.out w1 σ1 1000 hd1 (by omega) (by omega)
    go_wp2_with fail
    refine h3.mono ?_
    rintro e w2 ⟨r, σ2, rfl, H2, r0, r1, hd2, hg2⟩
    have hw1 : IntKind.u64.wrap r = r := by rw [IntKind.wrap_u64]; omega
    clear h3
    go_wp2_with fail
    go_ret
    exact ⟨_, σ2, rfl, by unfold Hid startFn; rw [H1.out, if_neg (by simp), if_neg (by simp), if_pos rfl, H2.out], by omega, by omega, hd2, grown_trans hg1 hg2⟩
  have b2 : (k == 2) = false := by simpa using e2
  go_wp2_with fail
  go_ret
  exact ⟨0, σ1, rfl, by unfold Hid startFn; rw [H1.out, if_neg e0, if_neg e1, if_neg e2], by omega, by omega, hd1, hg1⟩
end Go.Proofs.Ytpeecjoadgefjaa

namespace Go.Proofs.Ytpeecjoadgefjaa
open Go.ChangeShapes Go.WideShapes Go.ChangeAt Go.RowKit
set_option linter.unusedVariables false

/-! ### The specification's buffer: all bytes that ever came, by their distance from x -/
structure GotAt (x : Int) (z : Nat) (s : RB) (got : List Int) : Prop where
  at_ : ∀ t, s.read ≤ t → s.f t = if 0 ≤ got.getD (t - x).toNat (-1) then some (got.getD (t - x).toNat (-1)) else none
  val : ∀ v ∈ got, -1 ≤ v ∧ v ≤ 255
  len : (got.length : Int) ≤ s.read - x + z
  lo : x ≤ s.read
  win : InWin z s
  x0 : 0 ≤ x
  x1 : x ≤ 4611686018427387904
  hi : s.read ≤ x + 20000000
  z1 : 1 ≤ z
  z2 : z ≤ 4096
  hf : s.hf = 0 ∨ s.hf = 1
  f0 : 0 ≤ s.fin
  f1 : s.fin ≤ 9000000000000000000
theorem getD_pad (l : List Int) (i : Nat) : (l ++ [-1]).getD i (-1) = l.getD i (-1) := by
  rw [List.getD_eq_getElem?_getD, List.getD_eq_getElem?_getD]
  by_cases h : i < l.length
  · rw [List.getElem?_append_left h]
  · by_cases h2 : i = l.length
    · subst h2; simp
    · rw [List.getElem?_eq_none (by simp; omega), List.getElem?_eq_none (by omega)]
theorem GotAt.pad {x : Int} {z : Nat} {s : RB} {got : List Int} (h : GotAt x z s got) (hl : (got.length : Int) + 1 ≤ s.read - x + z) : GotAt x z s (got ++ [-1]) :=
  ⟨fun t ht => by rw [getD_pad]; exact h.at_ t ht, fun v hv => by
    rcases List.mem_append.1 hv with hv | hv
    · exact h.val v hv
    · simp at hv; subst hv; omega, by simp; omega, h.lo, h.win, h.x0, h.x1, h.hi, h.z1, h.z2, h.hf, h.f0, h.f1⟩
theorem GotAt.none_iff {x : Int} {z : Nat} {s : RB} {got : List Int} (h : GotAt x z s got) {t : Int} (ht : s.read ≤ t) : s.f t = none ↔ got.getD (t - x).toNat (-1) < 0 := by
  rw [h.at_ t ht]
  split
  · rename_i h1
    exact ⟨(fun e => by cases e), fun h2 => by omega⟩
  · rename_i h1
    exact ⟨fun _ => by omega, fun _ => rfl⟩
theorem GotAt.put {x : Int} {z : Nat} {s : RB} {got : List Int} (h : GotAt x z s got) {t v : Int} (ht : s.read ≤ t) (hl : (t - x).toNat < got.length) (v0 : 0 ≤ v) (v1 : v ≤ 255) : GotAt x z { s with f := upd s.f t v } (got.set (t - x).toNat v) := by
  have hlo := h.lo
  refine ⟨fun u hu => ?_, fun u hu => ?_, by simp; exact h.len, h.lo, ?_, h.x0, h.x1, h.hi, h.z1, h.z2, h.hf, h.f0, h.f1⟩
  · simp only at hu
    simp only [upd]
    by_cases e : u = t
    · subst e
      have e2 : (got.set (u - x).toNat v).getD (u - x).toNat (-1) = v := by rw [List.getD_eq_getElem?_getD, List.getElem?_set_self hl]; rfl
      rw [if_pos rfl, e2, if_pos v0]
    · rw [if_neg e, h.at_ u hu]
      have e2 : (got.set (t - x).toNat v).getD (u - x).toNat (-1) = got.getD (u - x).toNat (-1) := by
        rw [List.getD_eq_getElem?_getD, List.getElem?_set_ne (by omega), List.getD_eq_getElem?_getD]
      rw [e2]
  · rcases List.mem_or_eq_of_mem_set hu with hu | rfl
    · exact h.val u hu
    · omega
  · intro u y hy
    simp only [upd] at hy
    simp only
    split at hy
    · rename_i e
      simp only [Option.some.injEq] at hy
      subst e hy
      have := h.len
      omega
    · exact h.win u y hy
theorem GotAt.gone1 {x : Int} {z : Nat} {s : RB} {got : List Int} (h : GotAt x z s got) (hr : s.read + 1 ≤ x + 20000000) : GotAt x z (gone1 s) got := by
  refine ⟨fun t ht => ?_, h.val, ?_, ?_, h.win.gone1, h.x0, h.x1, hr, h.z1, h.z2, h.hf, h.f0, h.f1⟩
  · simp only [Go.Proofs.Ytpeecjoadgefjaa.gone1] at ht ⊢
    rw [if_neg (by omega)]
    exact h.at_ t (by omega)
  · have := h.len; simp only [Go.Proofs.Ytpeecjoadgefjaa.gone1]; omega
  · have := h.lo; simp only [Go.Proofs.Ytpeecjoadgefjaa.gone1]; omega
theorem GotAt.goneN {x : Int} {z : Nat} {s : RB} {got : List Int} (h : GotAt x z s got) (k : Nat) (hr : s.read + k ≤ x + 20000000) : GotAt x z (goneN s k) got := by
  induction k with
  | zero => rw [goneN_zero h.win]; exact h
  | succ k ih =>
    rw [goneN_succ]
    exact (ih (by omega)).gone1 (by simp only [Go.Proofs.Ytpeecjoadgefjaa.goneN]; omega)
theorem GotAt.end_ {x : Int} {z : Nat} {s : RB} {got : List Int} (h : GotAt x z s got) (off : Int) (o0 : 0 ≤ off) (o1 : off ≤ 9000000000000000000) : GotAt x z { s with hf := 1, fin := off } got :=
  ⟨h.at_, h.val, h.len, h.lo, h.win, h.x0, h.x1, h.hi, h.z1, h.z2, .inr rfl, o0, o1⟩
theorem runLen_stop (f : Int → Option Int) : ∀ k x, runLen f k x < k → f (x + (runLen f k x : Nat)) = none := by
  intro k
  induction k with
  | zero => intro x h; omega
  | succ k ih =>
    intro x h
    unfold runLen at h ⊢
    split
    · rename_i h1
      rw [if_pos h1] at h
      rw [show x + ((runLen f k (x + 1) + 1 : Nat) : Int) = x + 1 + (runLen f k (x + 1) : Nat) by omega]
      exact ih (x + 1) (by omega)
    · rename_i h1
      simpa using h1
theorem GotAt.runs {x : Int} {z : Nat} {s : RB} {got : List Int} (h : GotAt x z s got) (i : Nat) (hi : i < runLen s.f z s.read) : 0 ≤ got.getD (s.read + i - x).toNat (-1) := by
  have h1 := runLen_held s.f z s.read i hi
  by_cases h2 : got.getD (s.read + i - x).toNat (-1) < 0
  · rw [(h.none_iff (by omega)).2 h2] at h1; simp at h1
  · omega
theorem GotAt.stops {x : Int} {z : Nat} {s : RB} {got : List Int} (h : GotAt x z s got) : got.getD (s.read + (runLen s.f z s.read : Nat) - x).toNat (-1) < 0 := by
  refine (h.none_iff (by omega)).1 ?_
  by_cases h1 : runLen s.f z s.read < z
  · exact runLen_stop s.f z s.read h1
  · have h2 := runLen_le s.f z s.read
    cases h3 : s.f (s.read + (runLen s.f z s.read : Nat)) with
    | none => rfl
    | some v => have := h.win _ _ h3; omega

/-! ### What a call leaves -/
structure Mv (w w' : World) (B : Nat) (r : Option Nat) : Prop where
  os : w'.os = w.os
  tape : w'.tape = w.tape
  output : w'.output = w.output
  size : w.heap.size ≤ w'.heap.size
  block : ∀ k, k < w.heap.size → k ≠ B → some k ≠ r → w'.heap[k]? = w.heap[k]?
theorem Mv.refl (w : World) (B : Nat) (r : Option Nat) : Mv w w B r := ⟨rfl, rfl, rfl, Nat.le_refl _, fun _ _ _ _ => rfl⟩
theorem Mv.trans {w w1 w2 : World} {B : Nat} {r r2 : Option Nat} (h : Mv w w1 B r) (g : Mv w1 w2 B r2) (hr : r2 = r ∨ ∀ k, r2 = some k → w.heap.size ≤ k) : Mv w w2 B r :=
  ⟨g.os.trans h.os, g.tape.trans h.tape, g.output.trans h.output, Nat.le_trans h.size g.size, fun k hk h1 h2 => (g.block k (Nat.lt_of_lt_of_le hk h.size) h1 (fun e => by
    rcases hr with hr | hr
    · exact h2 (e.trans hr)
    · have := hr k e.symm; omega)).trans (h.block k hk h1 h2)⟩
theorem Mv.grown {w w1 w2 : World} {B : Nat} {r r2 : Option Nat} (h : Mv w w1 B r) (g : w1.grownBy w2 r2) (hr : r2 = r ∨ r2 = some B ∨ ∀ k, r2 = some k → w.heap.size ≤ k) : Mv w w2 B r :=
  ⟨g.os.trans h.os, g.tape.trans h.tape, g.output.trans h.output, Nat.le_trans h.size g.size, fun k hk h1 h2 => (g.block k (Nat.lt_of_lt_of_le hk h.size) (fun e => by
    rcases hr with hr | hr | hr
    · exact h2 (e.trans hr)
    · exact h1 (Option.some.inj (e.trans hr))
    · have := hr k e.symm; omega)).trans (h.block k hk h1 h2)⟩
theorem grown_set1 (w : World) (b i : Nat) (v : Value) : w.grownBy (w.setCell ⟨b, i, none⟩ v) (some b) := by
  refine ⟨rfl, rfl, rfl, by simp, fun k hk h => heap_setCell_other _ _ _ _ (fun e => h (by rw [e]))⟩
theorem Mv.set {w w1 : World} {B : Nat} {r : Option Nat} (h : Mv w w1 B r) (i : Nat) (v : Value) : Mv w (w1.setCell ⟨B, i, none⟩ v) B r := h.grown (grown_set1 w1 B i v) (.inr (.inl rfl))
theorem Mv.far {w w1 : World} {B : Nat} {r : Option Nat} (h : Mv w w1 B r) (k i : Nat) (hk : w.heap.size ≤ k) (v : Value) : Mv w (w1.setCell ⟨k, i, none⟩ v) B r := h.grown (grown_set1 w1 k i v) (.inr (.inr fun j hj => by have := Option.some.inj hj; omega))
theorem Mv.alloc {w w1 : World} {B : Nat} {r : Option Nat} (h : Mv w w1 B r) (o : Obj) : Mv w (w1.alloc o) B r := h.grown (World.grownBy_alloc w1 o none) (.inr (.inr (by simp)))
theorem Mv.drewN {w w1 : World} {B : Nat} {r : Option Nat} (h : Mv w w1 B r) (m : Nat) : Mv w (w1.drewN m) B r := ⟨h.os, h.tape, h.output, h.size, h.block⟩
theorem Mv.drew {w w1 : World} {B : Nat} {r : Option Nat} (h : Mv w w1 B r) : Mv w w1.drew B r := ⟨h.os, h.tape, h.output, h.size, h.block⟩

abbrev bufCells (x : Int) (z : Nat) (s : RB) (v : Value) : Array Value := #[.int .u64 x, .int .i64 (z : Int), v, .int .i64 (s.read - x), .int .u64 s.fin, .bool (decide (s.hf = 1))]
structure SpB (w : World) (B base : Nat) (x : Int) (z : Nat) (s : RB) (v : Value) (got : List Int) : Prop where
  blk : w.heap[B]? = some (.cells (bufCells x z s v) 83 (0, 0))
  row : w.ownsRow base 2 1 v got.length (got.map (.int .i64))
  got : GotAt x z s got
section
variable {w w' : World} {B base : Nat} {x : Int} {z : Nat} {s : RB} {v : Value} {got : List Int}
theorem SpB.lt (h : SpB w B base x z s v got) : B < w.heap.size := (Array.getElem?_eq_some_iff.1 h.blk).1
theorem SpB.ne (h : SpB w B base x z s v got) : v.ownBlock ≠ some B := fun e => by
  obtain ⟨cs, hc⟩ := row_block h.row e
  exact type_ne hc h.blk (by decide) rfl
theorem SpB.kept (h : SpB w B base x z s v got) (hB : w'.heap[B]? = w.heap[B]?) (hv : ∀ k, v.ownBlock = some k → w'.heap[k]? = w.heap[k]?) : SpB w' B base x z s v got :=
  ⟨hB.trans h.blk, row_stays h.row hv, h.got⟩
theorem SpB.below (h : SpB w B base x z s v got) (hb : Below w.heap.size w w') : SpB w' B base x z s v got := h.kept (hb.block B h.lt) fun k hk => hb.block k (h.row.lt k hk).2
theorem SpB.drewN (h : SpB w B base x z s v got) (m : Nat) : SpB (w.drewN m) B base x z s v got := ⟨h.blk, h.row, h.got⟩
theorem SpB.alloc (h : SpB w B base x z s v got) (o : Obj) : SpB (w.alloc o) B base x z s v got := h.below ((Below.refl _ _).alloc (Nat.le_refl _) _)
theorem SpB.far (h : SpB w B base x z s v got) (k i : Nat) (u : Value) (hk : k ≠ B) (hv : v.ownBlock ≠ some k) : SpB (w.setCell ⟨k, i, none⟩ u) B base x z s v got :=
  h.kept (heap_setCell_other _ _ _ _ (Ne.symm hk)) fun j hj => heap_setCell_other _ _ _ _ (fun e => hv (by rw [hj, e]))
theorem SpB.cells (h : SpB w B base x z s v got) : (w.cell? ⟨B, 0, none⟩ = some (.int .u64 x) ∧ w.cell? ⟨B, 1, none⟩ = some (.int .i64 (z : Int)) ∧ w.cell? ⟨B, 2, none⟩ = some v ∧ w.cell? ⟨B, 3, none⟩ = some (.int .i64 (s.read - x)) ∧ w.cell? ⟨B, 4, none⟩ = some (.int .u64 s.fin) ∧ w.cell? ⟨B, 5, none⟩ = some (.bool (decide (s.hf = 1)))) ∧ (∀ j, w.frozen? ⟨B, j, none⟩ = false) :=
  ⟨⟨Go.Joins.cell_of_block h.blk 0, Go.Joins.cell_of_block h.blk 1, Go.Joins.cell_of_block h.blk 2, Go.Joins.cell_of_block h.blk 3, Go.Joins.cell_of_block h.blk 4, Go.Joins.cell_of_block h.blk 5⟩, fun j => Go.Joins.unfrozen_of_block h.blk _⟩
theorem SpB.shape (h : SpB w B base x z s v got) : ∃ a cap, v = .slice a got.length cap ∧ Ints .i64 w a got := by
  obtain ⟨a, c, rfl⟩ := own_shape h.row
  exact ⟨a, c, rfl, Ints.ofRow h.row⟩
end
end Go.Proofs.Ytpeecjoadgefjaa

namespace Go.Proofs.Ytpeecjoadgefjaa
open Go.ChangeShapes Go.WideShapes Go.ChangeAt Go.RowKit
set_option linter.unusedVariables false

set_option maxHeartbeats 400000 in
theorem l5At_any (w : World) (B base : Nat) (x : Int) (z : Nat) (s : RB) (v : Value) (got : List Int) (h : SpB w B base x z s v got) (i : Nat) (hi : i ≤ 100000000) :
    Calls Try.prog 84 #[.pointer (some ⟨B, 0, none⟩), .int .i64 (i : Int)] w fun e w' => e = .returned (.int .i64 (got.getD i (-1))) ∧ w' = w := by
  obtain ⟨⟨c0, c1, c2, c3, c4, c5⟩, cf⟩ := h.cells
  obtain ⟨a, cap, rfl, hin⟩ := h.shape
  have hl := h.got.len
  have h1 := h.got.hi
  have h2 := h.got.z2
  have hL : (got.length : Int) ≤ 30000000 := by omega
  obtain ⟨L, hLe⟩ : ∃ L, Hid (L = got.length) := ⟨_, rfl⟩
  rw [← hLe.out] at c2 hL
  clear hl h1 h2 c0 c1 c3 c4 c5 cf h
  by_cases hlt : (L : Int) ≤ (i : Int)
  · have e : Hid (got.getD i (-1) = -1) := by unfold Hid; rw [List.getD_eq_getElem?_getD, List.getElem?_eq_none (by have := hLe.out; omega)]; rfl
    have d : decide ((L : Int) ≤ (i : Int)) = true := by rw [decide_eq_true_iff]; exact hlt
    go_enter Try.func84, Try.ntmps84
    go_wp2_with fail
    go_ret
    rw [e.out]
    exact ⟨rfl, rfl⟩
  · have hil : i < got.length := by have := hLe.out; omega
    have d : decide ((L : Int) ≤ (i : Int)) = false := by rw [decide_eq_false_iff_not]; exact hlt
    rcases hin with h0 | ⟨b, off, rfl, hc⟩
    · rw [h0] at hil; simp at hil
    have hci := hc i hil
    obtain ⟨y, hy⟩ : ∃ y, Hid (got.getD i (-1) = y) := ⟨_, rfl⟩
    have hy2 : got.getD i 0 = y := by rw [← hy.out, List.getD_eq_getElem?_getD, List.getD_eq_getElem?_getD, List.getElem?_eq_getElem hil]; rfl
    rw [hy2] at hci
    have hiL : (i : Int) < (L : Int) := by omega
    clear hc hy2
    rw [hy.out]
    go_enter Try.func84, Try.ntmps84
    go_wp2_with fail
    go_ret
    exact ⟨rfl, rfl⟩

set_option maxHeartbeats 400000 in
theorem l5Read_any (w : World) (B base : Nat) (x : Int) (z : Nat) (s : RB) (v : Value) (got : List Int) (h : SpB w B base x z s v got) :
    Calls Try.prog 71 #[.pointer (some ⟨B, 0, none⟩)] w fun e w' => e = .returned (.int .u64 s.read) ∧ ∃ m, w' = w.drewN m := by
  obtain ⟨⟨c0, c1, c2, c3, c4, c5⟩, cf⟩ := h.cells
  have h1 := h.got.hi
  have h2 := h.got.lo
  have h3 := h.got.x0
  have h4 := h.got.x1
  have e1 : IntKind.u64.wrap (s.read - x) = s.read - x := by rw [IntKind.wrap_u64]; omega
  have e2 : IntKind.u64.wrap (x + (s.read - x)) = s.read := by rw [IntKind.wrap_u64]; omega
  clear c1 c2 c4 c5 cf h
  go_enter Try.func71, Try.ntmps71
  go_wp2_with fail
  go_quiet (fail)
  go_wp2_with fail
  go_ret
  exact ⟨rfl, _, rfl⟩

set_option maxHeartbeats 400000 in
theorem l5Next_any (w : World) (B base : Nat) (x : Int) (z : Nat) (s : RB) (v : Value) (got : List Int) (h : SpB w B base x z s v got) :
    Calls Try.prog 69 #[.pointer (some ⟨B, 0, none⟩)] w fun e w' => e = .returned (.int .i64 (s.read - x + (runLen s.f z s.read : Nat))) ∧ w' = w := by
  obtain ⟨⟨c0, c1, c2, c3, c4, c5⟩, cf⟩ := h.cells
  have h1 := h.got.hi
  have h2 := h.got.lo
  have h3 := h.got.x0
  have h4 := h.got.x1
  have h5 := h.got.z2
  have hrl := runLen_le s.f z s.read
  have HR : Hid (∀ k : Nat, k < runLen s.f z s.read → 0 ≤ got.getD (s.read + k - x).toNat (-1)) := h.got.runs
  have HS : Hid (got.getD (s.read + (runLen s.f z s.read : Nat) - x).toNat (-1) < 0) := h.got.stops
  obtain ⟨ℓ, hℓ⟩ : ∃ ℓ, Hid (ℓ = runLen s.f z s.read) := ⟨_, rfl⟩
  rw [← hℓ.out] at hrl HR HS ⊢
  obtain ⟨r, hr⟩ : ∃ r : Nat, Hid ((r : Int) = s.read - x) := ⟨(s.read - x).toNat, by unfold Hid; omega⟩
  rw [← hr.out] at c3 ⊢
  have hr7 : r ≤ 20000000 := by have := hr.out; omega
  have HB : Hid (SpB w B base x z s v got) := h
  clear c0 c1 c2 c4 c5 cf h h1 h2 h3 h4
  go_enter Try.func69, Try.ntmps69
  go_wp2_with fail
  go_loopw [3] (fun iv wr => ∃ (k : Nat), iv = .int .i64 ((r + k : Nat) : Int) ∧ k ≤ ℓ ∧ w = wr) (fun iv _ => r + ℓ - (intOf iv).toNat)
  case atStart => exact ⟨0, rfl, Nat.zero_le _, rfl⟩
  case round =>
  obtain ⟨k, rfl, hk, hwe⟩ := hrel
  subst hwe
  have hat := l5At_any w B base x z s v got HB.out (r + k) (by omega)
  have e1 : (s.read + k - x).toNat = r + k := by have := hr.out; omega
  by_cases hlt : k < ℓ
  · have hp := HR.out k hlt
    rw [e1] at hp
    obtain ⟨y, hy⟩ : ∃ y, Hid (y = got.getD (r + k) (-1)) := ⟨_, rfl⟩
    rw [← hy.out] at hp hat
    have d : decide (0 ≤ y) = true := by rw [decide_eq_true_iff]; exact hp
    go_wp2_with fail
    refine hat.mono ?_
    rintro e w1 ⟨rfl, hw⟩
    subst hw
    go_wp2_with fail
    go_roundw
    case rel => exact ⟨k + 1, by go_num, by omega, trivial⟩
    case measure => simp [intOf]; omega
  · obtain rfl : k = ℓ := by omega
    have hp := HS.out
    rw [e1] at hp
    obtain ⟨y, hy⟩ : ∃ y, Hid (y = got.getD (r + k) (-1)) := ⟨_, rfl⟩
    rw [← hy.out] at hp hat
    have d : decide (0 ≤ y) = false := by rw [decide_eq_false_iff_not]; omega
    go_wp2_with fail
    refine hat.mono ?_
    rintro e w1 ⟨rfl, hw⟩
    subst hw
    go_wp2_with fail
    go_ret
    exact ⟨by push_cast; rfl, rfl⟩
end Go.Proofs.Ytpeecjoadgefjaa
