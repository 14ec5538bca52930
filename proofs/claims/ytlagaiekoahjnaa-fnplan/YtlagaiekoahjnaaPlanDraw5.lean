import Derived.Test.YtlagaiekoahjnaaPlanDraw4
import Derived.Deep.RegionLaw
namespace Go.Proofs.Ytlagaiekoahjnaa
open Go.ChangeShapes Go.WideShapes Go.ChangeAt Go.RowKit
set_option linter.unusedVariables false

/-- The scheduler's input. -/
structure Inp where
  pol : Int
  tur : Int
  pk : List Int
  V : Vws
  S : Mps
  mx : Int
  mp : Int
  wt : Int
  ed : Int
  cl : Int
  fm : Int
  pl : Int
def next0 (zs : List Int) (σ : Src) (n : Nat) : Int × Src := if n = 0 then (0, σ) else nextF zs σ n
def picksF (zs : List Int) : Nat → Src → List Int → List Int × Src
  | 0, σ, out => (out, σ)
  | k + 1, σ, out => picksF zs k (nextF zs σ 10).2 (out ++ [(nextF zs σ 10).1])
def unq (m : Mp) : Mp := ⟨m.off, m.len, m.fin, m.car, 0⟩
def maxF (zs : List Int) (n : Nat) (mx : Int) (σ : Src) : Int × Src :=
  if mx < n then (if 0 < (nextF zs σ 6).1 then ((n : Int) + (nextF zs (nextF zs σ 6).2 3).1, (nextF zs (nextF zs σ 6).2 3).2) else (mx, (nextF zs σ 6).2)) else (mx, σ)
def topF (S : Mps) : Int × Int :=
  if 0 < S.length then (IntKind.u64.wrap ((mAt S (S.length - 1)).off + IntKind.u64.wrap (mAt S (S.length - 1)).len), (mAt S (S.length - 1)).fin) else (0, 0)
def prodF (zs : List Int) (x : Int) (σ : Src) : Int × Src :=
  (IntKind.u64.wrap (x + (nextF zs σ 3).1 * (nextF zs (nextF zs σ 3).2 40).1), (nextF zs (nextF zs σ 3).2 40).2)
def moreP (zs : List Int) (pk : List Int) (σ : Src) : List Int :=
  if (nextF zs σ 2).1 = 0 then pk ++ List.replicate (1000 - pk.length) 1 ++ [1] else pk ++ List.replicate (1000 - pk.length) 1
def turnF (zs : List Int) (x : Inp) (k : Int) (σ : Src) : Inp :=
  if k = 0 then { x with pol := 5 * (nextF zs σ 2).1 }
  else if k = 1 then { x with tur := x.V.length }
  else if k = 2 then { x with mx := 257 }
  else if k = 3 then { x with pl := 0 }
  else if k = 4 then { x with wt := IntKind.u64.wrap (x.mp - 1) }
  else if k = 5 then { x with ed := 4611686018427387905 }
  else if k = 6 then { x with cl := 2 }
  else if k = 7 then { x with S := (spoilF zs x.S σ).1 }
  else if k = 8 then { x with pk := moreP zs x.pk σ }
  else if k = 9 then { x with mx := 0 }
  else x
def planF (zs : List Int) : Inp :=
  let x1 := nextF zs (0, seedTo zs zs.length) 4
  let p := pathsF zs x1.2
  let m := mapsF zs p.2
  let x4 := nextF zs m.2 12
  let x5 := nextF zs x4.2 32
  let t := next0 zs x5.2 p.1.length
  let n := nextF zs t.2 4
  let pk := picksF zs n.1.toNat n.2 []
  let u := nextF zs pk.2 2
  let S := if u.1 = 0 then m.1.map unq else m.1
  let mx := maxF zs S.length (1 + x4.1) u.2
  let wt := prodF zs (topF S).1 mx.2
  let ed := prodF zs (topF S).1 wt.2
  let cl := nextF zs ed.2 2
  let k := nextF zs cl.2 40
  turnF zs ⟨1 + x1.1, t.1, pk.1, p.1, S, mx.1, (topF S).1, wt.1, ed.1, cl.1, (topF S).2, 1 + x5.1⟩ k.1 k.2

set_option maxHeartbeats 400000 in
/-- A draw of a number below n, n = 0 too. -/
theorem next0_at (w0 w : World) (b : Nat) (a : Option Addr) (zs : List Int) (cap : Nat) (σ : Src) (n : Nat) (hd : DrawAt w0 w b a zs.length cap σ) (hz : Ints .u8 w0 a zs) (hv : ∀ x ∈ zs, 0 ≤ x ∧ x ≤ 255) (hl : zs.length ≤ 2000000) (h2 : n ≤ 1000) :
    Calls Try.prog 54 #[.pointer (some ⟨b, 0, none⟩), .int .i64 (n : Int)] w fun e w' => ∃ (r : Int) (σ' : Src), e = .returned (.int .i64 r) ∧ Hid (next0 zs σ n = (r, σ')) ∧ 0 ≤ r ∧ r ≤ 1000 ∧ DrawAt w0 w' b a zs.length cap σ' ∧ w.grownBy w' (some b) := by
  by_cases h0 : n = 0
  · subst h0
    go_enter Try.func54, Try.ntmps54
    go_wp2
    go_ret
    exact ⟨0, σ, rfl, by unfold Hid next0; simp, by omega, by omega, hd, ⟨rfl, rfl, rfl, Nat.le_refl _, fun _ _ _ => rfl⟩⟩
  · refine (next_at w0 w b a zs cap σ (n : Int) hd hz hv hl (by omega) (by omega)).mono ?_
    rintro e w' ⟨r, σ', rfl, N, l, u, h3, h4⟩
    exact ⟨r, σ', rfl, by unfold Hid next0; rw [if_neg h0]; exact N.out, l, by omega, h3, h4⟩
def boxLen (w : World) (I : Nat) : Nat := match w.cell? ⟨I, 2, none⟩ with
  | some (.slice _ n _) => n
  | _ => 0
/-- The mappings, the first k of them unqueued. -/
def partU (S : Mps) (k : Nat) : Mps := (S.take k).map unq ++ S.drop k
theorem partU_zero (S : Mps) : partU S 0 = S := by simp [partU]
theorem partU_all (S : Mps) : partU S S.length = S.map unq := by simp [partU]
theorem partU_length (S : Mps) (k : Nat) (h : k ≤ S.length) : (partU S k).length = S.length := by simp [partU]; omega
theorem partU_at (S : Mps) (k : Nat) (h : k < S.length) (h' : k < (partU S k).length) : (partU S k)[k] = S[k] := by
  have : ((S.take k).map unq).length = k := by simp; omega
  simp only [partU]
  rw [List.getElem_append_right (by omega)]
  simp only [List.getElem_drop, this, Nat.sub_self, Nat.add_zero]
theorem partU_succ (S : Mps) (k : Nat) (h : k < S.length) : (partU S k).set k (unq S[k]) = partU S (k + 1) := by
  have hl : ((S.take k).map unq).length = k := by simp; omega
  unfold partU
  rw [List.set_append_right _ _ (by omega), hl, Nat.sub_self, List.take_succ_eq_append_getElem h, List.map_append, List.map_singleton, List.append_assoc]
  congr 1
  rw [List.drop_eq_getElem_cons h]
  rfl
theorem unq_fits {S : Mps} (h : FitsM S) (k : Nat) : FitsM (partU S k) := by
  intro m hm
  rcases List.mem_append.1 hm with h' | h'
  · obtain ⟨m', h1, rfl⟩ := List.mem_map.1 h'
    have := h m' (List.mem_of_mem_take h1)
    exact ⟨this.1, this.2.1, this.2.2.1, this.2.2.2.1, by simp [unq]⟩
  · exact h m (List.mem_of_mem_drop h')

abbrev put12 (w : World) (R : Nat) (x0 x1 x2 x3 x4 x5 x6 x7 x8 x9 x10 x11 : Value) : World := ((((((((((((w.setCell ⟨R, 0, none⟩ x0).setCell ⟨R, 1, none⟩ x1).setCell ⟨R, 2, none⟩ x2).setCell ⟨R, 3, none⟩ x3).setCell ⟨R, 4, none⟩ x4).setCell ⟨R, 5, none⟩ x5).setCell ⟨R, 6, none⟩ x6).setCell ⟨R, 7, none⟩ x7).setCell ⟨R, 8, none⟩ x8).setCell ⟨R, 9, none⟩ x9).setCell ⟨R, 10, none⟩ x10).setCell ⟨R, 11, none⟩ x11)
theorem put12_block {w : World} {R : Nat} {t : TypeId} {y0 y1 y2 y3 y4 y5 y6 y7 y8 y9 y10 y11 : Value} (h : w.heap[R]? = some (.cells #[y0, y1, y2, y3, y4, y5, y6, y7, y8, y9, y10, y11] t (0, 0))) (x0 x1 x2 x3 x4 x5 x6 x7 x8 x9 x10 x11 : Value) : (put12 w R x0 x1 x2 x3 x4 x5 x6 x7 x8 x9 x10 x11).heap[R]? = some (.cells #[x0, x1, x2, x3, x4, x5, x6, x7, x8, x9, x10, x11] t (0, 0)) := by
  have h0 : (w.setCell ⟨R, 0, none⟩ x0).heap[R]? = some (.cells #[x0, y1, y2, y3, y4, y5, y6, y7, y8, y9, y10, y11] t (0, 0)) := by rw [Go.Joins.block_setCell h _]; rfl
  have h1 : ((w.setCell ⟨R, 0, none⟩ x0).setCell ⟨R, 1, none⟩ x1).heap[R]? = some (.cells #[x0, x1, y2, y3, y4, y5, y6, y7, y8, y9, y10, y11] t (0, 0)) := by rw [Go.Joins.block_setCell h0 _]; rfl
  have h2 : (((w.setCell ⟨R, 0, none⟩ x0).setCell ⟨R, 1, none⟩ x1).setCell ⟨R, 2, none⟩ x2).heap[R]? = some (.cells #[x0, x1, x2, y3, y4, y5, y6, y7, y8, y9, y10, y11] t (0, 0)) := by rw [Go.Joins.block_setCell h1 _]; rfl
  have h3 : ((((w.setCell ⟨R, 0, none⟩ x0).setCell ⟨R, 1, none⟩ x1).setCell ⟨R, 2, none⟩ x2).setCell ⟨R, 3, none⟩ x3).heap[R]? = some (.cells #[x0, x1, x2, x3, y4, y5, y6, y7, y8, y9, y10, y11] t (0, 0)) := by rw [Go.Joins.block_setCell h2 _]; rfl
  have h4 : (((((w.setCell ⟨R, 0, none⟩ x0).setCell ⟨R, 1, none⟩ x1).setCell ⟨R, 2, none⟩ x2).setCell ⟨R, 3, none⟩ x3).setCell ⟨R, 4, none⟩ x4).heap[R]? = some (.cells #[x0, x1, x2, x3, x4, y5, y6, y7, y8, y9, y10, y11] t (0, 0)) := by rw [Go.Joins.block_setCell h3 _]; rfl
  have h5 : ((((((w.setCell ⟨R, 0, none⟩ x0).setCell ⟨R, 1, none⟩ x1).setCell ⟨R, 2, none⟩ x2).setCell ⟨R, 3, none⟩ x3).setCell ⟨R, 4, none⟩ x4).setCell ⟨R, 5, none⟩ x5).heap[R]? = some (.cells #[x0, x1, x2, x3, x4, x5, y6, y7, y8, y9, y10, y11] t (0, 0)) := by rw [Go.Joins.block_setCell h4 _]; rfl
  have h6 : (((((((w.setCell ⟨R, 0, none⟩ x0).setCell ⟨R, 1, none⟩ x1).setCell ⟨R, 2, none⟩ x2).setCell ⟨R, 3, none⟩ x3).setCell ⟨R, 4, none⟩ x4).setCell ⟨R, 5, none⟩ x5).setCell ⟨R, 6, none⟩ x6).heap[R]? = some (.cells #[x0, x1, x2, x3, x4, x5, x6, y7, y8, y9, y10, y11] t (0, 0)) := by rw [Go.Joins.block_setCell h5 _]; rfl
  have h7 : ((((((((w.setCell ⟨R, 0, none⟩ x0).setCell ⟨R, 1, none⟩ x1).setCell ⟨R, 2, none⟩ x2).setCell ⟨R, 3, none⟩ x3).setCell ⟨R, 4, none⟩ x4).setCell ⟨R, 5, none⟩ x5).setCell ⟨R, 6, none⟩ x6).setCell ⟨R, 7, none⟩ x7).heap[R]? = some (.cells #[x0, x1, x2, x3, x4, x5, x6, x7, y8, y9, y10, y11] t (0, 0)) := by rw [Go.Joins.block_setCell h6 _]; rfl
  have h8 : (((((((((w.setCell ⟨R, 0, none⟩ x0).setCell ⟨R, 1, none⟩ x1).setCell ⟨R, 2, none⟩ x2).setCell ⟨R, 3, none⟩ x3).setCell ⟨R, 4, none⟩ x4).setCell ⟨R, 5, none⟩ x5).setCell ⟨R, 6, none⟩ x6).setCell ⟨R, 7, none⟩ x7).setCell ⟨R, 8, none⟩ x8).heap[R]? = some (.cells #[x0, x1, x2, x3, x4, x5, x6, x7, x8, y9, y10, y11] t (0, 0)) := by rw [Go.Joins.block_setCell h7 _]; rfl
  have h9 : ((((((((((w.setCell ⟨R, 0, none⟩ x0).setCell ⟨R, 1, none⟩ x1).setCell ⟨R, 2, none⟩ x2).setCell ⟨R, 3, none⟩ x3).setCell ⟨R, 4, none⟩ x4).setCell ⟨R, 5, none⟩ x5).setCell ⟨R, 6, none⟩ x6).setCell ⟨R, 7, none⟩ x7).setCell ⟨R, 8, none⟩ x8).setCell ⟨R, 9, none⟩ x9).heap[R]? = some (.cells #[x0, x1, x2, x3, x4, x5, x6, x7, x8, x9, y10, y11] t (0, 0)) := by rw [Go.Joins.block_setCell h8 _]; rfl
  have h10 : (((((((((((w.setCell ⟨R, 0, none⟩ x0).setCell ⟨R, 1, none⟩ x1).setCell ⟨R, 2, none⟩ x2).setCell ⟨R, 3, none⟩ x3).setCell ⟨R, 4, none⟩ x4).setCell ⟨R, 5, none⟩ x5).setCell ⟨R, 6, none⟩ x6).setCell ⟨R, 7, none⟩ x7).setCell ⟨R, 8, none⟩ x8).setCell ⟨R, 9, none⟩ x9).setCell ⟨R, 10, none⟩ x10).heap[R]? = some (.cells #[x0, x1, x2, x3, x4, x5, x6, x7, x8, x9, x10, y11] t (0, 0)) := by rw [Go.Joins.block_setCell h9 _]; rfl
  have h11 : ((((((((((((w.setCell ⟨R, 0, none⟩ x0).setCell ⟨R, 1, none⟩ x1).setCell ⟨R, 2, none⟩ x2).setCell ⟨R, 3, none⟩ x3).setCell ⟨R, 4, none⟩ x4).setCell ⟨R, 5, none⟩ x5).setCell ⟨R, 6, none⟩ x6).setCell ⟨R, 7, none⟩ x7).setCell ⟨R, 8, none⟩ x8).setCell ⟨R, 9, none⟩ x9).setCell ⟨R, 10, none⟩ x10).setCell ⟨R, 11, none⟩ x11).heap[R]? = some (.cells #[x0, x1, x2, x3, x4, x5, x6, x7, x8, x9, x10, x11] t (0, 0)) := by rw [Go.Joins.block_setCell h10 _]; rfl
  exact h11
section
variable {w wi : World} {b I : Nat} {a : Option Addr} {n cap : Nat} {σ : Src} {pol tur : Int} {pa : Option Addr} {np pc : Nat} {pk : List Int} {va : Option Addr} {nv vc : Nat} {V : Vws} {ma : Option Addr} {nm mc : Nat} {S : Mps} {mx mp wt ed cl fm pl : Int}
theorem CarP.rcells (h : CarP w wi b I a n cap σ pol tur pa np pc pk va nv vc V ma nm mc S mx mp wt ed cl fm pl) : (wi.cell? ⟨w.heap.size, 0, none⟩ = some (.int .i64 0) ∧ wi.cell? ⟨w.heap.size, 1, none⟩ = some (.int .i64 0) ∧ wi.cell? ⟨w.heap.size, 2, none⟩ = some (.slice none 0 0) ∧ wi.cell? ⟨w.heap.size, 3, none⟩ = some (.slice none 0 0) ∧ wi.cell? ⟨w.heap.size, 4, none⟩ = some (.slice none 0 0) ∧ wi.cell? ⟨w.heap.size, 5, none⟩ = some (.int .i64 0) ∧ wi.cell? ⟨w.heap.size, 6, none⟩ = some (.int .u64 0) ∧ wi.cell? ⟨w.heap.size, 7, none⟩ = some (.int .u64 0) ∧ wi.cell? ⟨w.heap.size, 8, none⟩ = some (.int .u64 0) ∧ wi.cell? ⟨w.heap.size, 9, none⟩ = some (.int .i64 0) ∧ wi.cell? ⟨w.heap.size, 10, none⟩ = some (.int .i64 0) ∧ wi.cell? ⟨w.heap.size, 11, none⟩ = some (.int .i64 0)) ∧ (∀ j, wi.frozen? ⟨w.heap.size, j, none⟩ = false) :=
  ⟨⟨Go.Joins.cell_of_block h.r 0, Go.Joins.cell_of_block h.r 1, Go.Joins.cell_of_block h.r 2, Go.Joins.cell_of_block h.r 3, Go.Joins.cell_of_block h.r 4, Go.Joins.cell_of_block h.r 5, Go.Joins.cell_of_block h.r 6, Go.Joins.cell_of_block h.r 7, Go.Joins.cell_of_block h.r 8, Go.Joins.cell_of_block h.r 9, Go.Joins.cell_of_block h.r 10, Go.Joins.cell_of_block h.r 11⟩, fun j => Go.Joins.unfrozen_of_block h.r j⟩
theorem keep12 {base : Nat} {e : TypeId} {size : Nat} {u : Value} {k R : Nat} {xs : List Value} (h : wi.ownsRow base e size u k xs) (hR : u.ownBlock ≠ some R) (x0 x1 x2 x3 x4 x5 x6 x7 x8 x9 x10 x11 : Value) : (put12 wi R x0 x1 x2 x3 x4 x5 x6 x7 x8 x9 x10 x11).ownsRow base e size u k xs := by
  have st : ∀ (wa : World) (i : Nat) (y : Value), wa.ownsRow base e size u k xs → (wa.setCell ⟨R, i, none⟩ y).ownsRow base e size u k xs := by
    intro wa i y hw
    refine hw.kept (grown_set wa R i y) ?_
    cases hv : u.ownBlock with
    | none => exact .inl rfl
    | some j => exact .inr fun e' => hR (by rw [hv, e'])
  exact (st _ _ _ (st _ _ _ (st _ _ _ (st _ _ _ (st _ _ _ (st _ _ _ (st _ _ _ (st _ _ _ (st _ _ _ (st _ _ _ (st _ _ _ (st _ _ _ h))))))))))))
/-- The answer's box is filled. -/
theorem CarP.fill (h : CarP w wi b I a n cap σ pol tur pa np pc pk va nv vc V ma nm mc S mx mp wt ed cl fm pl) : ((put12 wi w.heap.size (.int .i64 pol) (.int .i64 tur) (.slice pa np pc) (.slice va nv vc) (.slice ma nm mc) (.int .i64 mx) (.int .u64 mp) (.int .u64 wt) (.int .u64 ed) (.int .i64 cl) (.int .i64 fm) (.int .i64 pl)).cell? ⟨w.heap.size, 0, none⟩ = some (.int .i64 pol) ∧ (put12 wi w.heap.size (.int .i64 pol) (.int .i64 tur) (.slice pa np pc) (.slice va nv vc) (.slice ma nm mc) (.int .i64 mx) (.int .u64 mp) (.int .u64 wt) (.int .u64 ed) (.int .i64 cl) (.int .i64 fm) (.int .i64 pl)).cell? ⟨w.heap.size, 1, none⟩ = some (.int .i64 tur) ∧ (put12 wi w.heap.size (.int .i64 pol) (.int .i64 tur) (.slice pa np pc) (.slice va nv vc) (.slice ma nm mc) (.int .i64 mx) (.int .u64 mp) (.int .u64 wt) (.int .u64 ed) (.int .i64 cl) (.int .i64 fm) (.int .i64 pl)).cell? ⟨w.heap.size, 2, none⟩ = some (.slice pa np pc) ∧ (put12 wi w.heap.size (.int .i64 pol) (.int .i64 tur) (.slice pa np pc) (.slice va nv vc) (.slice ma nm mc) (.int .i64 mx) (.int .u64 mp) (.int .u64 wt) (.int .u64 ed) (.int .i64 cl) (.int .i64 fm) (.int .i64 pl)).cell? ⟨w.heap.size, 3, none⟩ = some (.slice va nv vc) ∧ (put12 wi w.heap.size (.int .i64 pol) (.int .i64 tur) (.slice pa np pc) (.slice va nv vc) (.slice ma nm mc) (.int .i64 mx) (.int .u64 mp) (.int .u64 wt) (.int .u64 ed) (.int .i64 cl) (.int .i64 fm) (.int .i64 pl)).cell? ⟨w.heap.size, 4, none⟩ = some (.slice ma nm mc) ∧ (put12 wi w.heap.size (.int .i64 pol) (.int .i64 tur) (.slice pa np pc) (.slice va nv vc) (.slice ma nm mc) (.int .i64 mx) (.int .u64 mp) (.int .u64 wt) (.int .u64 ed) (.int .i64 cl) (.int .i64 fm) (.int .i64 pl)).cell? ⟨w.heap.size, 5, none⟩ = some (.int .i64 mx) ∧ (put12 wi w.heap.size (.int .i64 pol) (.int .i64 tur) (.slice pa np pc) (.slice va nv vc) (.slice ma nm mc) (.int .i64 mx) (.int .u64 mp) (.int .u64 wt) (.int .u64 ed) (.int .i64 cl) (.int .i64 fm) (.int .i64 pl)).cell? ⟨w.heap.size, 6, none⟩ = some (.int .u64 mp) ∧ (put12 wi w.heap.size (.int .i64 pol) (.int .i64 tur) (.slice pa np pc) (.slice va nv vc) (.slice ma nm mc) (.int .i64 mx) (.int .u64 mp) (.int .u64 wt) (.int .u64 ed) (.int .i64 cl) (.int .i64 fm) (.int .i64 pl)).cell? ⟨w.heap.size, 7, none⟩ = some (.int .u64 wt) ∧ (put12 wi w.heap.size (.int .i64 pol) (.int .i64 tur) (.slice pa np pc) (.slice va nv vc) (.slice ma nm mc) (.int .i64 mx) (.int .u64 mp) (.int .u64 wt) (.int .u64 ed) (.int .i64 cl) (.int .i64 fm) (.int .i64 pl)).cell? ⟨w.heap.size, 8, none⟩ = some (.int .u64 ed) ∧ (put12 wi w.heap.size (.int .i64 pol) (.int .i64 tur) (.slice pa np pc) (.slice va nv vc) (.slice ma nm mc) (.int .i64 mx) (.int .u64 mp) (.int .u64 wt) (.int .u64 ed) (.int .i64 cl) (.int .i64 fm) (.int .i64 pl)).cell? ⟨w.heap.size, 9, none⟩ = some (.int .i64 cl) ∧ (put12 wi w.heap.size (.int .i64 pol) (.int .i64 tur) (.slice pa np pc) (.slice va nv vc) (.slice ma nm mc) (.int .i64 mx) (.int .u64 mp) (.int .u64 wt) (.int .u64 ed) (.int .i64 cl) (.int .i64 fm) (.int .i64 pl)).cell? ⟨w.heap.size, 10, none⟩ = some (.int .i64 fm) ∧ (put12 wi w.heap.size (.int .i64 pol) (.int .i64 tur) (.slice pa np pc) (.slice va nv vc) (.slice ma nm mc) (.int .i64 mx) (.int .u64 mp) (.int .u64 wt) (.int .u64 ed) (.int .i64 cl) (.int .i64 fm) (.int .i64 pl)).cell? ⟨w.heap.size, 11, none⟩ = some (.int .i64 pl)) ∧ (put12 wi w.heap.size (.int .i64 pol) (.int .i64 tur) (.slice pa np pc) (.slice va nv vc) (.slice ma nm mc) (.int .i64 mx) (.int .u64 mp) (.int .u64 wt) (.int .u64 ed) (.int .i64 cl) (.int .i64 fm) (.int .i64 pl)).ownsRow w.heap.size 2 1 (.slice pa np pc) np (pk.map (.int .i64)) ∧ (put12 wi w.heap.size (.int .i64 pol) (.int .i64 tur) (.slice pa np pc) (.slice va nv vc) (.slice ma nm mc) (.int .i64 mx) (.int .u64 mp) (.int .u64 wt) (.int .u64 ed) (.int .i64 cl) (.int .i64 fm) (.int .i64 pl)).ownsRow w.heap.size 57 3 (.slice va nv vc) nv (flatV V) ∧ (put12 wi w.heap.size (.int .i64 pol) (.int .i64 tur) (.slice pa np pc) (.slice va nv vc) (.slice ma nm mc) (.int .i64 mx) (.int .u64 mp) (.int .u64 wt) (.int .u64 ed) (.int .i64 cl) (.int .i64 fm) (.int .i64 pl)).ownsRow w.heap.size 55 5 (.slice ma nm mc) nm (flatM S) ∧ Below w.heap.size w (put12 wi w.heap.size (.int .i64 pol) (.int .i64 tur) (.slice pa np pc) (.slice va nv vc) (.slice ma nm mc) (.int .i64 mx) (.int .u64 mp) (.int .u64 wt) (.int .u64 ed) (.int .i64 cl) (.int .i64 fm) (.int .i64 pl)) := by
  have hb := put12_block h.r (.int .i64 pol) (.int .i64 tur) (.slice pa np pc) (.slice va nv vc) (.slice ma nm mc) (.int .i64 mx) (.int .u64 mp) (.int .u64 wt) (.int .u64 ed) (.int .i64 cl) (.int .i64 fm) (.int .i64 pl)
  refine ⟨⟨Go.Joins.cell_of_block hb 0, Go.Joins.cell_of_block hb 1, Go.Joins.cell_of_block hb 2, Go.Joins.cell_of_block hb 3, Go.Joins.cell_of_block hb 4, Go.Joins.cell_of_block hb 5, Go.Joins.cell_of_block hb 6, Go.Joins.cell_of_block hb 7, Go.Joins.cell_of_block hb 8, Go.Joins.cell_of_block hb 9, Go.Joins.cell_of_block hb 10, Go.Joins.cell_of_block hb 11⟩, keep12 h.p (own_ne h.p h.r (by decide)) _ _ _ _ _ _ _ _ _ _ _ _, keep12 h.v (own_ne h.v h.r (by decide)) _ _ _ _ _ _ _ _ _ _ _ _, keep12 h.m (own_ne h.m h.r (by decide)) _ _ _ _ _ _ _ _ _ _ _ _, ?_⟩
  have hr : w.heap.size ≤ w.heap.size := Nat.le_refl _
  unfold put12
  iterate 12 refine Below.setCell ?_ hr _
  exact h.d.bel
end

set_option maxHeartbeats 8000000 in
set_option maxRecDepth 100000 in
theorem drawPlan_at (a : Option Addr) (zs : List Int) (cap : Nat) (w : World) (hz : Ints .u8 w a zs) (hv : ∀ x ∈ zs, 0 ≤ x ∧ x ≤ 255) (hl : zs.length ≤ 2000000) :
    Calls Try.prog 26 #[.slice a zs.length cap] w fun e w' => ∃ (pol tur : Int) (pa : Option Addr) (np pc : Nat) (pk : List Int) (va : Option Addr) (nv vc : Nat) (V : Vws) (ma : Option Addr) (nm mc : Nat) (S : Mps) (mx mp wt ed cl fm pl : Int), e = .returned (.agg #[.int .i64 pol, .int .i64 tur, .slice pa np pc, .slice va nv vc, .slice ma nm mc, .int .i64 mx, .int .u64 mp, .int .u64 wt, .int .u64 ed, .int .i64 cl, .int .i64 fm, .int .i64 pl]) ∧ Hid (planF zs = ⟨pol, tur, pk, V, S, mx, mp, wt, ed, cl, fm, pl⟩) ∧ (pk.length = np ∧ np ≤ 1001 ∧ V.length = nv ∧ nv ≤ 9 ∧ S.length = nm ∧ nm ≤ 6 ∧ FitsV V ∧ FitsM S ∧ (0 ≤ mp ∧ mp ≤ 18446744073709551615) ∧ (0 ≤ wt ∧ wt ≤ 18446744073709551615) ∧ (0 ≤ ed ∧ ed ≤ 18446744073709551615)) ∧
      w'.ownsRow w.heap.size 2 1 (.slice pa np pc) np (pk.map (.int .i64)) ∧ w'.ownsRow w.heap.size 57 3 (.slice va nv vc) nv (flatV V) ∧ w'.ownsRow w.heap.size 55 5 (.slice ma nm mc) nm (flatM S) ∧ Below w.heap.size w w' := by
  have hb0 : Below w.heap.size w (w.alloc (.cells #[.int .i64 0, .int .i64 0, .slice none 0 0, .slice none 0 0, .slice none 0 0, .int .i64 0, .int .u64 0, .int .u64 0, .int .u64 0, .int .i64 0, .int .i64 0, .int .i64 0] 48)) := (Below.refl _ _).alloc (Nat.le_refl _) _
  have hR0 := heap_alloc_new w (.cells #[.int .i64 0, .int .i64 0, .slice none 0 0, .slice none 0 0, .slice none 0 0, .int .i64 0, .int .u64 0, .int .u64 0, .int .u64 0, .int .i64 0, .int .i64 0, .int .i64 0] 48)
  have hs0 : (w.alloc (.cells #[.int .i64 0, .int .i64 0, .slice none 0 0, .slice none 0 0, .slice none 0 0, .int .i64 0, .int .u64 0, .int .u64 0, .int .u64 0, .int .i64 0, .int .i64 0, .int .i64 0] 48)).heap.size = w.heap.size + 1 := by simp
  obtain ⟨V0, hV0⟩ : ∃ V0, V0 = w.alloc (.cells #[.int .i64 0, .int .i64 0, .slice none 0 0, .slice none 0 0, .slice none 0 0, .int .i64 0, .int .u64 0, .int .u64 0, .int .u64 0, .int .i64 0, .int .i64 0, .int .i64 0] 48) := ⟨_, rfl⟩
  rw [← hV0] at hb0 hR0 hs0
  have hbeg := begin_at V0 a zs cap (hz.moved hb0) hv hl
  go_enter Try.func26, Try.ntmps26
  go_wp2_with fail
  rw [← hV0]
  clear hV0
  refine hbeg.mono ?_
  rintro e w1 ⟨rfl, hb1⟩
  have hbw1 := hb0.trans (hb1.mono hb0.size)
  have hd1 := drawAt_start hbw1 a zs zs.length cap
  have hs1 := hb1.size
  have hR1 := (Below.heap_alloc w1 (.cells #[.slice a zs.length cap, .int .i64 0, .int .u64 (seedTo zs zs.length)] 94) _ (by omega)).trans ((hb1.block _ (by omega)).trans hR0)
  obtain ⟨b, hb⟩ : ∃ b, b = w1.heap.size := ⟨_, rfl⟩
  obtain ⟨W1, hW1⟩ : ∃ W1, W1 = w1.alloc (.cells #[.slice a zs.length cap, .int .i64 0, .int .u64 (seedTo zs zs.length)] 94) := ⟨_, rfl⟩
  rw [← hb, ← hW1] at hd1
  rw [← hW1] at hR1
  have hwb : w.heap.size < b := by omega
  clear hbeg hb0 hR0 hb1 hbw1
  go_wp2_with fail
  rw [← hW1, ← hb]
  clear hW1 hb hs0 hs1
  refine (next_at w _ b a zs cap _ 4 hd1 hz hv hl (by omega) (by omega)).mono ?_
  rintro e w2 ⟨r1, σ1, rfl, N1, l1, u1, hd2, g2⟩
  have hR2 := (g2.block _ (Array.getElem?_eq_some_iff.1 hR1).1 (by simp; omega)).trans hR1
  clear hR1 hd1 g2
  go_wp2_with fail
  refine (drawPaths_at w w2 b a zs cap σ1 hd2 hz hv hl).mono ?_
  rintro e w3 ⟨va, vc, nv, V, σ2, rfl, N2, hVn, hv9, hfV, hrv, hd3, g3⟩
  have hR3 := (g3.block _ (Array.getElem?_eq_some_iff.1 hR2).1 (by simp; omega)).trans hR2
  have hrv3 : w3.ownsRow w.heap.size 57 3 (.slice va nv vc) nv (flatV V) := owned_base hrv hd2.bel.size
  clear hR2 hd2 g3 hrv
  go_wp2_with fail
  refine (drawMaps_at w w3 b a zs cap σ2 hd3 hz hv hl).mono ?_
  rintro e w4 ⟨ma, mc, nm, S0, σ3, rfl, N3, hSn, hm6, hfS, hrm, hd4, g4⟩
  have hR4 := (g4.block _ (Array.getElem?_eq_some_iff.1 hR3).1 (by simp; omega)).trans hR3
  have hrm4 : w4.ownsRow w.heap.size 55 5 (.slice ma nm mc) nm (flatM S0) := owned_base hrm hd3.bel.size
  have hrv4 := keep_src hd3 hrv3 (by decide) g4
  clear hR3 hd3 g4 hrm hrv3
  go_wp2_with fail
  refine (next_at w _ b a zs cap σ3 12 hd4 hz hv hl (by omega) (by omega)).mono ?_
  rintro e w5 ⟨r4, σ4, rfl, N4, l4, u4, hd5, g5⟩
  have hR5 := (g5.block _ (Array.getElem?_eq_some_iff.1 hR4).1 (by simp; omega)).trans hR4
  have hrm5 := keep_src hd4 hrm4 (by decide) g5
  have hrv5 := keep_src hd4 hrv4 (by decide) g5
  clear hR4 hd4 g5 hrm4 hrv4
  go_wp2_with fail
  refine (next_at w _ b a zs cap σ4 32 hd5 hz hv hl (by omega) (by omega)).mono ?_
  rintro e w6 ⟨r5, σ5, rfl, N5, l5, u5, hd6, g6⟩
  have hR6 := (g6.block _ (Array.getElem?_eq_some_iff.1 hR5).1 (by simp; omega)).trans hR5
  have hrm6 := keep_src hd5 hrm5 (by decide) g6
  have hrv6 := keep_src hd5 hrv5 (by decide) g6
  clear hR5 hd5 g6 hrm5 hrv5
  obtain ⟨W7, hW7⟩ : ∃ W, W = w6.alloc (.cells #[.int .i64 (1 + r1), .int .i64 0, .slice none 0 0, .slice va nv vc, .slice ma nm mc, .int .i64 (1 + r4), .int .u64 0, .int .u64 0, .int .u64 0, .int .i64 0, .int .i64 0, .int .i64 (1 + r5)] 48) := ⟨_, rfl⟩
  obtain ⟨I, hI⟩ : ∃ I, I = w6.heap.size := ⟨_, rfl⟩
  have hR6l := (Array.getElem?_eq_some_iff.1 hR6).1
  have hC : CarP w W7 b I a zs.length cap σ5 (1 + r1) 0 none 0 0 [] va nv vc V ma nm mc S0 (1 + r4) 0 0 0 0 0 (1 + r5) := by
    rw [hW7, hI]
    exact ⟨hd6.grown (World.grownBy_alloc w6 _ none) (by simp), (Below.heap_alloc _ _ _ hR6l).trans hR6, heap_alloc_new w6 _, World.ownsRow_nil _ _ _ _, hrv6.alloc _, hrm6.alloc _, hR6l⟩
  have HVN : Hid (V.length = nv) := hVn
  have HSN : Hid (S0.length = nm) := hSn
  clear hR6 hR6l hd6 hrm6 hrv6 hVn hSn
  go_wp2_with fail
  rw [← hW7, ← hI]
  clear hW7 hI
  refine (next0_at w _ b a zs cap σ5 nv hC.d hz hv hl (by omega)).mono ?_
  rintro e w8 ⟨r6, σ6, rfl, N6, l6, u6, hd8, g8⟩
  have hC8 := (hC.call hd8 g8).put1 r6
  obtain ⟨⟨c0, c1, c2, c3, c4, c5, c6, c7, c8, c9, c10, c11⟩, cf⟩ := (hC.call hd8 g8).cells
  have f1 := cf 1
  clear hC hd8 g8
  obtain ⟨W9, hW9⟩ : ∃ W, W = w8.setCell ⟨I, 1, none⟩ (.int .i64 r6) := ⟨_, rfl⟩
  rw [← hW9] at hC8
  go_wp2_with fail
  rw [← hW9]
  clear hW9 c0 c1 c2 c3 c4 c5 c6 c7 c8 c9 c10 c11 cf f1
  refine (next_at w _ b a zs cap σ6 4 hC8.d hz hv hl (by omega) (by omega)).mono ?_
  rintro e w10 ⟨r7, σ7, rfl, N7, l7, u7, hd10, g10⟩
  have hC10 := hC8.call hd10 g10
  obtain ⟨N, rfl⟩ : ∃ N : Nat, r7 = (N : Int) := ⟨r7.toNat, by omega⟩
  have hN3 : N ≤ 3 := by omega
  clear hC8 hd10 g10
  go_wp2_with fail
  go_loopw [6] (fun iv wr => ∃ (k : Nat) (pa : Option Addr) (pc : Nat) (pk : List Int) (τ : Src), k ≤ N ∧ iv = .int .i64 (k : Int) ∧ pk.length = k ∧ Hid (picksF zs N σ7 [] = picksF zs (N - k) τ pk) ∧ CarP w wr b I a zs.length cap τ (1 + r1) r6 pa k pc pk va nv vc V ma nm mc S0 (1 + r4) 0 0 0 0 0 (1 + r5)) (fun iv _ => N - (intOf iv).toNat)
  case atStart => exact ⟨0, none, 0, [], σ7, Nat.zero_le _, rfl, rfl, rfl, hC10⟩
  case round =>
  clear hC10
  obtain ⟨k, pa, pc, pk, τ, hk, rfl, hpk, HRk, hC⟩ := hrel
  have HPK : Hid (pk.length = k) := hpk
  clear hpk
  by_cases hlt : k < N
  case pos =>
    have hki : (k : Int) < (N : Int) := by omega
    obtain ⟨⟨c0, c1, c2, c3, c4, c5, c6, c7, c8, c9, c10, c11⟩, cf⟩ := hC.cells
    have L1 := next_at w wr.drew b a zs cap τ 10 hC.drew.d hz hv hl (by omega) (by omega)
    have HK : Hid (∀ (w9 : World) (r9 : Int) (τ9 : Src), DrawAt w w9 b a zs.length cap τ9 → wr.drew.grownBy w9 (some b) → CarP w w9 b I a zs.length cap τ9 (1 + r1) r6 pa k pc pk va nv vc V ma nm mc S0 (1 + r4) 0 0 0 0 0 (1 + r5)) := by
      unfold Hid
      intro w9 r9 τ9 hd9 g9
      exact hC.drew.call hd9 g9
    have c2d : wr.drew.cell? ⟨I, 2, none⟩ = some (.slice pa k pc) := c2
    clear c0 c1 c3 c4 c5 c6 c7 c8 c9 c10 c11 cf
    go_wp2_with fail
    go_region_law (first
      | (go_simp; go_at_call 54; with_reducible (refine Calls.mono L1 ?_); rintro e w9 ⟨r9, τ9, rfl, M9, m9, n9, hd9, g9⟩; dsimp only; have hC9 := HK.out w9 r9 τ9 hd9 g9; have x2 := hC9.cells.1.2.2.1; have xf := hC9.cells.2 2; have hI9 : I < w9.heap.size := World.block_lt_of_cell? _ _ x2; have hIn : ¬ I = w9.heap.size := (by omega))
      | (refine step_one64 (w9.alloc (.cells #[.int .i64 r9] 2)) (by rfl) _ _ (by rfl) w.heap.size pa k pc pk HPK.out r9 (by rfl) (hC9.p.alloc _) w9.heap.size (by rfl) (Go.Joins.cell_of_block (heap_alloc_new w9 (.cells #[.int .i64 r9] 2)) 0) (by omega) (by have := hC9.d.bel.size; simp; omega) ?_; intro g11 cap11 w11 ho11 hg11; have hi11 := (hg11.block I (by simp; omega) (fun e => own_ne hC9.p hC9.i (by decide) e.symm)).trans ((Below.heap_alloc w9 _ I hI9).trans hC9.i); have y2 := Go.Joins.cell_of_block hi11 2; have yf := Go.Joins.unfrozen_of_block hi11 2))
    all_goals
      have hNk : Hid (N - k = (N - (k + 1)) + 1) := by unfold Hid; omega
      have HE : Hid (picksF zs N σ7 [] = picksF zs (N - (k + 1)) τ9 (pk ++ [r9])) := by unfold Hid; rw [HRk.out, hNk.out, picksF, M9.out]
      have hC12 := (hC9.alloc (.cells #[.int .i64 r9] 2)).growP hg11 ho11
      go_wp2_with fail
      go_roundw
      case rel => exact ⟨k + 1, _, _, pk ++ [r9], τ9, by omega, by go_num, by rw [List.length_append, HPK.out]; rfl, HE, hC12⟩
      case measure => simp [intOf]; omega
  case neg =>
  obtain rfl : k = N := by omega
  have hkk : ¬ (k : Int) < (k : Int) := by omega
  have HP : Hid (picksF zs k σ7 [] = (pk, τ)) := by unfold Hid; rw [HRk.out, Nat.sub_self, picksF]
  clear HRk
  go_wp2_with fail
  refine (next_at w _ b a zs cap τ 2 hC.d hz hv hl (by omega) (by omega)).mono ?_
  rintro e w11 ⟨r8, σ8, rfl, N8, l8, u8, hd11, g11⟩
  have hC11 := hC.call hd11 g11
  clear hC hd11 g11
  go_upto_if 38 with fail
  go_cut [7] from 38 to 50 (fun _ wx => ∃ S : Mps, Hid ((if r8 = 0 then S0.map unq else S0) = S) ∧ S.length = nm ∧ FitsM S ∧ CarP w wx b I a zs.length cap σ8 (1 + r1) r6 pa k pc pk va nv vc V ma nm mc S (1 + r4) 0 0 0 0 0 (1 + r5))
  case first =>
    by_cases h8 : r8 = 0
    case neg =>
      have b8 : (r8 == 0) = false := by simpa using h8
      go_wp2_with fail
      go_meet
      case rel => exact ⟨S0, by unfold Hid; rw [if_neg h8], HSN.out, hfS, hC11⟩
    case pos =>
    have b8 : (r8 == 0) = true := by simpa using h8
    have H8 : Hid (r8 = 0) := h8
    clear h8
    go_wp2_with fail
    rename_i hh
    clear hh b8
    go_loopw [7] (fun iv wr => ∃ j : Nat, j ≤ nm ∧ iv = .int .i64 (j : Int) ∧ CarP w wr b I a zs.length cap σ8 (1 + r1) r6 pa k pc pk va nv vc V ma nm mc (partU S0 j) (1 + r4) 0 0 0 0 0 (1 + r5)) (fun iv _ => nm - (intOf iv).toNat)
    case atStart => exact ⟨0, Nat.zero_le _, rfl, by rw [partU_zero]; exact hC11⟩
    case round =>
    clear hC11
    obtain ⟨j, hj, rfl, hCj⟩ := hrel
    obtain ⟨⟨c0, c1, c2, c3, c4, c5, c6, c7, c8, c9, c10, c11⟩, cf⟩ := hCj.cells
    by_cases hltj : j < nm
    case pos =>
      have hji : (j : Int) < (nm : Int) := by omega
      obtain ⟨g, rfl⟩ := row_some hCj.m (by omega)
      have hjS : j < S0.length := by rw [HSN.out]; exact hltj
      have hjP : j < (partU S0 j).length := by rw [partU_length S0 j (by omega)]; exact hjS
      have hPn : (partU S0 j).length = nm := by rw [partU_length S0 j (by omega)]; exact HSN.out
      obtain ⟨x0, x1, x2, x3, x4⟩ := rowM_at hPn hCj.m hjP
      have xf := hCj.m.frozenAt (j * 5 + 4)
      have hst := hCj.putM (j * 5 + 4) (.int .i64 0) (S' := partU S0 (j + 1)) (by rw [flatM_que _ j hjP, ← partU_succ S0 j hjS, partU_at S0 j hjS hjP]; rfl)
      clear hPn
      go_wp2_with fail
      go_roundw
      case rel => exact ⟨j + 1, by omega, by go_num, hst⟩
      case measure => simp [intOf]; omega
    case neg =>
    obtain rfl : j = nm := by omega
    have hjj : ¬ (j : Int) < (j : Int) := by omega
    have hQ : Hid (partU S0 j = S0.map unq) := by unfold Hid; rw [← HSN.out]; exact partU_all S0
    have hfQ := unq_fits hfS j
    rw [hQ.out] at hCj hfQ
    go_wp2_with fail
    go_meet
    case rel => exact ⟨_, by unfold Hid; rw [if_pos H8.out], by rw [List.length_map]; exact HSN.out, hfQ, hCj⟩
  case rest =>
  clear hC11
  obtain ⟨S, HS, hSn, hfS', hC⟩ := hcut
  have HSM : Hid (S.length = nm) := hSn
  clear hSn
  obtain ⟨⟨c0, c1, c2, c3, c4, c5, c6, c7, c8, c9, c10, c11⟩, cf⟩ := hC.cells
  go_upto_region 14 with fail
  go_cut [60] from 51 to 59 (fun v wx => ∃ (bb : Bool) (τ' : Src), v = .bool bb ∧ (bb = true → 1 + r4 < (nm : Int) ∧ ∃ r9 : Int, 0 < r9 ∧ Hid (nextF zs σ8 6 = (r9, τ'))) ∧ (bb = false → Hid (maxF zs nm (1 + r4) σ8 = (1 + r4, τ'))) ∧ CarP w wx b I a zs.length cap τ' (1 + r1) r6 pa k pc pk va nv vc V ma nm mc S (1 + r4) 0 0 0 0 0 (1 + r5))
  case first =>
    by_cases hmx : 1 + r4 < (nm : Int)
    case neg =>
      have dm : decide (1 + r4 < (nm : Int)) = false := by rw [decide_eq_false_iff_not]; exact hmx
      have HM : Hid (maxF zs nm (1 + r4) σ8 = (1 + r4, σ8)) := by unfold Hid maxF; rw [if_neg hmx]
      go_wp2_with fail
      go_meet
      case rel => exact ⟨_, σ8, rfl, by simp, fun _ => HM, hC⟩
    case pos =>
    have dm : decide (1 + r4 < (nm : Int)) = true := by rw [decide_eq_true_iff]; exact hmx
    go_wp2_with fail
    refine (next_at w _ b a zs cap σ8 6 hC.d hz hv hl (by omega) (by omega)).mono ?_
    rintro e w12 ⟨r9, σ9, rfl, N9, l9, u9, hd12, g12⟩
    have hC12 := hC.call hd12 g12
    by_cases h9 : 0 < r9
    case neg =>
      have d9 : decide ((0 : Int) < r9) = false := by rw [decide_eq_false_iff_not]; exact h9
      have HM : Hid (maxF zs nm (1 + r4) σ8 = (1 + r4, σ9)) := by unfold Hid maxF; rw [if_pos hmx]; simp only [N9.out]; rw [if_neg h9]
      go_wp2_with fail
      go_meet
      case rel => exact ⟨_, σ9, rfl, by simp, fun _ => HM, hC12⟩
    case pos =>
      have d9 : decide ((0 : Int) < r9) = true := by rw [decide_eq_true_iff]; exact h9
      go_wp2_with fail
      go_meet
      case rel => exact ⟨_, σ9, rfl, fun _ => ⟨hmx, r9, h9, N9⟩, by simp, hC12⟩
  case rest =>
  clear hC c0 c1 c2 c3 c4 c5 c6 c7 c8 c9 c10 c11 cf
  obtain ⟨bb, σ9, rfl, hbt, hbf, hC⟩ := hcut
  go_upto_if 60 with fail
  go_cut [] from 61 to 70 (fun wx => ∃ (mx : Int) (τ' : Src), Hid (maxF zs nm (1 + r4) σ8 = (mx, τ')) ∧ CarP w wx b I a zs.length cap τ' (1 + r1) r6 pa k pc pk va nv vc V ma nm mc S mx 0 0 0 0 0 (1 + r5))
  case first =>
    cases bb
    case false =>
      have HM := hbf rfl
      clear hbt hbf
      go_wp2_with fail
      go_meet
      case rel => exact ⟨_, _, HM, hC⟩
    case true =>
    obtain ⟨hmx, r9, h9, N9⟩ := hbt rfl
    clear hbt hbf
    obtain ⟨⟨c0, c1, c2, c3, c4, c5, c6, c7, c8, c9, c10, c11⟩, cf⟩ := hC.cells
    have L1 := next_at w wc.drew b a zs cap σ9 3 hC.drew.d hz hv hl (by omega) (by omega)
    have HK : Hid (∀ (wa : World) (τa : Src), DrawAt w wa b a zs.length cap τa → wc.drew.grownBy wa (some b) → CarP w wa b I a zs.length cap τa (1 + r1) r6 pa k pc pk va nv vc V ma nm mc S (1 + r4) 0 0 0 0 0 (1 + r5)) := by
      unfold Hid
      intro wa τa hda ga
      exact hC.drew.call hda ga
    have c4d : wc.drew.cell? ⟨I, 4, none⟩ = some (.slice ma nm mc) := c4
    clear c0 c1 c2 c3 c5 c6 c7 c8 c9 c10 c11 cf
    go_wp2_with fail
    go_region_held3 (fun w' => w'.cell? ⟨I, 4, none⟩ = some (.slice ma nm mc))
      (first | assumption | (rw [World.cell?_setCell_other _ _ _ _ (by simp)]; assumption) | (go_keep; done))
      (first
        | (go_at_call 54; with_reducible (refine Calls.mono L1 ?_); rintro e wa ⟨ra, τa, rfl, Na, la, ua, hda, ga⟩; have hCa := HK.out wa τa hda ga; have x4 := hCa.cells.1.2.2.2.2.1; have x5 := hCa.cells.1.2.2.2.2.2.1; have xf := hCa.cells.2 5; have hwr : IntKind.i64.wrap ((nm : Int) + ra) = (nm : Int) + ra := (by rw [IntKind.wrap_i64]; omega)))
    have HM : Hid (maxF zs nm (1 + r4) σ8 = ((nm : Int) + ra, τa)) := by unfold Hid maxF; rw [if_pos hmx]; simp only [N9.out]; rw [if_pos h9]; simp only [Na.out]
    have hC13 := hCa.put5 ((nm : Int) + ra)
    have b0 : ((nm : Int) + ra == 0) = false := by simp; omega
    go_wp2_with fail
    go_meet
    case rel => exact ⟨_, _, HM, hC13⟩
  case rest =>
  clear hC hbt hbf
  obtain ⟨mx, σ10, HMX, hC⟩ := hcut
  obtain ⟨⟨c0, c1, c2, c3, c4, c5, c6, c7, c8, c9, c10, c11⟩, cf⟩ := hC.cells
  go_upto_if 74 with fail
  go_cut [8] from 74 to 92 (fun _ wx => ∃ (mp fm : Int), Hid (topF S = (mp, fm)) ∧ (0 ≤ mp ∧ mp ≤ 18446744073709551615) ∧ CarP w wx b I a zs.length cap σ10 (1 + r1) r6 pa k pc pk va nv vc V ma nm mc S mx mp 0 0 0 fm (1 + r5))
  case first =>
    by_cases hn0 : 0 < nm
    case neg =>
      have d0 : decide ((0 : Int) < (nm : Int)) = false := by rw [decide_eq_false_iff_not]; omega
      have HT : Hid (topF S = (0, 0)) := by unfold Hid topF; rw [if_neg (by rw [HSM.out]; omega)]
      go_wp2_with fail
      go_meet
      case rel => exact ⟨0, 0, HT, ⟨by omega, by omega⟩, hC⟩
    case pos =>
    have d0 : decide ((0 : Int) < (nm : Int)) = true := by rw [decide_eq_true_iff]; omega
    obtain ⟨J, hJ⟩ : ∃ J, Hid (nm = J + 1) := ⟨nm - 1, by unfold Hid; omega⟩
    have hJn : J < nm := by have := hJ.out; omega
    have hJi : (J : Int) < (nm : Int) := by omega
    have hJa : (nm : Int) - 1 = (J : Int) := by have := hJ.out; omega
    have hJS : J < S.length := by rw [HSM.out]; exact hJn
    obtain ⟨g, rfl⟩ := row_some hC.m (by omega)
    obtain ⟨x0, x1, x2, x3, x4⟩ := rowM_at HSM.out hC.m hJS
    have hok := hfS' _ (List.getElem_mem hJS)
    have hmt : mAt S J = S[J] := by simp [mAt, hJS]
    obtain ⟨⟨o1, o2, o3, o4, o5⟩, hm0⟩ : ∃ m, S[J] = m := ⟨_, rfl⟩
    rw [hm0] at x0 x1 x2 x3 x4 hok hmt
    simp only at x0 x1 x2 x3 x4
    obtain ⟨X, hX⟩ : ∃ X, IntKind.u64.wrap (o1 + IntKind.u64.wrap o2) = X := ⟨_, rfl⟩
    have hXf := wrap64_fits (o1 + IntKind.u64.wrap o2)
    rw [hX] at hXf
    have HT : Hid (topF S = (X, o3)) := by
      unfold Hid topF
      rw [if_pos (by omega), show S.length - 1 = J by rw [HSM.out]; have := hJ.out; omega, hmt]
      simp only [hX]
    have hCa := hC.alloc (.cells #[.int .u64 o1, .int .i64 o2, .int .i64 o3, .int .i64 o4, .int .i64 o5] 55)
    have hC14 := ((hC.put6 X).put10 o3).alloc (.cells #[.int .u64 o1, .int .i64 o2, .int .i64 o3, .int .i64 o4, .int .i64 o5] 55)
    obtain ⟨⟨a0, a1, a2, a3, a4, a5, a6, a7, a8, a9, a10, a11⟩, af⟩ := hCa.cells
    have f6 := af 6
    have f10 := cf 10
    have hIl : I < wc.heap.size := (Array.getElem?_eq_some_iff.1 hC.i).1
    have hIn : ¬ I = wc.heap.size := by omega
    have hIm : ¬ wc.heap.size = I := by omega
    have f6w := cf 6
    clear hm0 hmt hok af a0 a1 a2 a3 a4 a5 a7 a8 a9
    go_wp2_with fail
    go_meet
    case rel => exact ⟨_, _, HT, hXf, hC14⟩
  case rest =>
  clear hC c0 c1 c2 c3 c4 c5 c6 c7 c8 c9 c10 c11 cf
  obtain ⟨mp, fm, HTP, hmpf, hC⟩ := hcut
  have L1 := next_at w wc.drew b a zs cap σ10 3 hC.drew.d hz hv hl (by omega) (by omega)
  have HK : Hid (∀ (wa : World) (τa : Src), DrawAt w wa b a zs.length cap τa → wc.drew.grownBy wa (some b) → CarP w wa b I a zs.length cap τa (1 + r1) r6 pa k pc pk va nv vc V ma nm mc S mx mp 0 0 0 fm (1 + r5)) := by
    unfold Hid
    intro wa τa hda ga
    exact hC.drew.call hda ga
  have c6d : wc.drew.cell? ⟨I, 6, none⟩ = some (.int .u64 mp) := hC.cells.1.2.2.2.2.2.2.1
  go_upto_region 22 with fail
  go_cut [] from 93 to 100 (fun wx => ∃ (wt : Int) (τ' : Src), Hid (prodF zs mp σ10 = (wt, τ')) ∧ (0 ≤ wt ∧ wt ≤ 18446744073709551615) ∧ CarP w wx b I a zs.length cap τ' (1 + r1) r6 pa k pc pk va nv vc V ma nm mc S mx mp wt 0 0 fm (1 + r5))
  case first =>
    go_region_held3 (fun w' => w'.cell? ⟨I, 6, none⟩ = some (.int .u64 mp))
      (first | assumption | (rw [World.cell?_setCell_other _ _ _ _ (by simp)]; assumption) | (go_keep; done))
      (first
        | (go_at_call 54; with_reducible (refine Calls.mono L1 ?_); rintro e wa ⟨ra, τa, rfl, Na, la, ua, hda, ga⟩; have hCa := HK.out wa τa hda ga; have x6 := hCa.cells.1.2.2.2.2.2.2.1; have L2 := next_at w wa b a zs cap τa 40 hCa.d hz hv hl (by omega) (by omega))
        | (go_at_call 54; with_reducible (refine Calls.mono L2 ?_); rintro e wd ⟨rd, τd, rfl, Nd, ld, ud, hdd, gd⟩; have hCd := hCa.call hdd gd; have y6 := hCd.cells.1.2.2.2.2.2.2.1; have y7 := hCd.cells.1.2.2.2.2.2.2.2.1; have y8 := hCd.cells.1.2.2.2.2.2.2.2.2.1; have yf := hCd.cells.2 7; obtain ⟨P, hP⟩ : ∃ P, ra * rd = P := ⟨_, rfl⟩; have hPb : 0 ≤ P ∧ P ≤ 78 := (by rw [← hP]; rcases (show ra = 0 ∨ ra = 1 ∨ ra = 2 by omega) with h | h | h <;> subst h <;> omega); have hPw : IntKind.i64.wrap P = P := (by rw [IntKind.wrap_i64]; omega); have hPu : IntKind.u64.wrap P = P := (by rw [IntKind.wrap_u64]; omega); obtain ⟨X, hX⟩ : ∃ X, IntKind.u64.wrap (mp + P) = X := ⟨_, rfl⟩))
    have HW : Hid (prodF zs mp σ10 = (X, τd)) := by unfold Hid prodF; simp only [Na.out, Nd.out, hP, hX]
    have hXf := wrap64_fits (mp + P)
    rw [hX] at hXf
    have hCe := hCd.put7 X
    clear x6 y6 y7 y8 yf L1 L2 HK
    go_wp2_with fail
    go_meet
    case rel => exact ⟨_, _, HW, hXf, hCe⟩
  case rest =>
  clear hC L1 HK c6d
  obtain ⟨wt, σ11, HWT, hwtf, hC⟩ := hcut
  have L1 := next_at w wc.drew b a zs cap σ11 3 hC.drew.d hz hv hl (by omega) (by omega)
  have HK : Hid (∀ (wa : World) (τa : Src), DrawAt w wa b a zs.length cap τa → wc.drew.grownBy wa (some b) → CarP w wa b I a zs.length cap τa (1 + r1) r6 pa k pc pk va nv vc V ma nm mc S mx mp wt 0 0 fm (1 + r5)) := by
    unfold Hid
    intro wa τa hda ga
    exact hC.drew.call hda ga
  have c6d : wc.drew.cell? ⟨I, 6, none⟩ = some (.int .u64 mp) := hC.cells.1.2.2.2.2.2.2.1
  go_upto_region 23 with fail
  go_cut [] from 101 to 108 (fun wx => ∃ (ed : Int) (τ' : Src), Hid (prodF zs mp σ11 = (ed, τ')) ∧ (0 ≤ ed ∧ ed ≤ 18446744073709551615) ∧ CarP w wx b I a zs.length cap τ' (1 + r1) r6 pa k pc pk va nv vc V ma nm mc S mx mp wt ed 0 fm (1 + r5))
  case first =>
    go_region_held3 (fun w' => w'.cell? ⟨I, 6, none⟩ = some (.int .u64 mp))
      (first | assumption | (rw [World.cell?_setCell_other _ _ _ _ (by simp)]; assumption) | (go_keep; done))
      (first
        | (go_at_call 54; with_reducible (refine Calls.mono L1 ?_); rintro e wa ⟨ra, τa, rfl, Na, la, ua, hda, ga⟩; have hCa := HK.out wa τa hda ga; have x6 := hCa.cells.1.2.2.2.2.2.2.1; have L2 := next_at w wa b a zs cap τa 40 hCa.d hz hv hl (by omega) (by omega))
        | (go_at_call 54; with_reducible (refine Calls.mono L2 ?_); rintro e wd ⟨rd, τd, rfl, Nd, ld, ud, hdd, gd⟩; have hCd := hCa.call hdd gd; have y6 := hCd.cells.1.2.2.2.2.2.2.1; have y7 := hCd.cells.1.2.2.2.2.2.2.2.1; have y8 := hCd.cells.1.2.2.2.2.2.2.2.2.1; have yf := hCd.cells.2 8; obtain ⟨P, hP⟩ : ∃ P, ra * rd = P := ⟨_, rfl⟩; have hPb : 0 ≤ P ∧ P ≤ 78 := (by rw [← hP]; rcases (show ra = 0 ∨ ra = 1 ∨ ra = 2 by omega) with h | h | h <;> subst h <;> omega); have hPw : IntKind.i64.wrap P = P := (by rw [IntKind.wrap_i64]; omega); have hPu : IntKind.u64.wrap P = P := (by rw [IntKind.wrap_u64]; omega); obtain ⟨X, hX⟩ : ∃ X, IntKind.u64.wrap (mp + P) = X := ⟨_, rfl⟩))
    have HW : Hid (prodF zs mp σ11 = (X, τd)) := by unfold Hid prodF; simp only [Na.out, Nd.out, hP, hX]
    have hXf := wrap64_fits (mp + P)
    rw [hX] at hXf
    have hCe := hCd.put8 X
    clear x6 y6 y7 y8 yf L1 L2 HK
    go_wp2_with fail
    go_meet
    case rel => exact ⟨_, _, HW, hXf, hCe⟩
  case rest =>
  clear hC L1 HK c6d
  obtain ⟨ed, σ12, HED, hedf, hC⟩ := hcut
  go_wp2_with fail
  refine (next_at w _ b a zs cap σ12 2 hC.d hz hv hl (by omega) (by omega)).mono ?_
  rintro e w15 ⟨cl, σ13, rfl, N13, l13, u13, hd15, g15⟩
  have hC15 := (hC.call hd15 g15).put9 cl
  have f9 := (hC.call hd15 g15).cells.2 9
  have x9 := (hC.call hd15 g15).cells.1.2.2.2.2.2.2.2.2.2.1
  obtain ⟨W15, hW15⟩ : ∃ W, W = w15.setCell ⟨I, 9, none⟩ (.int .i64 cl) := ⟨_, rfl⟩
  rw [← hW15] at hC15
  clear hC hd15 g15
  go_wp2_with fail
  rw [← hW15]
  clear hW15 f9 x9
  refine (next_at w _ b a zs cap σ13 40 hC15.d hz hv hl (by omega) (by omega)).mono ?_
  rintro e w16 ⟨kk, σ14, rfl, N14, l14, u14, hd16, g16⟩
  have hC := hC15.call hd16 g16
  clear hC15 hd16 g16
  have HPL : Hid (planF zs = turnF zs ⟨1 + r1, r6, pk, V, S, mx, mp, wt, ed, cl, fm, 1 + r5⟩ kk σ14) := by
    unfold Hid planF
    simp only [N1.out, N2.out, N3.out, N4.out, N5.out, HVN.out, N6.out, N7.out, Int.toNat_natCast, HP.out, N8.out, HS.out, HSM.out, HMX.out, HTP.out, HWT.out, HED.out, N13.out, N14.out]
  clear N1 N2 N3 N4 N5 N6 N7 HP N8 HS HMX HTP HWT HED N13 N14
  by_cases q0 : kk = 0
  case pos =>
    have b0 : (kk == 0) = true := by simpa using q0
    have Q0 : Hid (kk = 0) := q0
    clear q0
    go_wp2_with fail
    refine (next_at w _ b a zs cap σ14 2 hC.d hz hv hl (by omega) (by omega)).mono ?_
    rintro e w17 ⟨r9, σ15, rfl, N15, l15, u15, hd17, g17⟩
    have hC17 := hC.call hd17 g17
    have HE : Hid (planF zs = ⟨(5 * r9), r6, pk, V, S, mx, mp, wt, ed, cl, fm, (1 + r5)⟩) := by unfold Hid; rw [HPL.out, turnF, if_pos Q0.out]; simp only [N15.out]
    obtain ⟨⟨c0, c1, c2, c3, c4, c5, c6, c7, c8, c9, c10, c11⟩, cf⟩ := hC17.cells
    obtain ⟨⟨s0, s1, s2, s3, s4, s5, s6, s7, s8, s9, s10, s11⟩, sf⟩ := hC17.rcells
    have g0 := sf 0
    have g1 := sf 1
    have g2 := sf 2
    have g3 := sf 3
    have g4 := sf 4
    have g5 := sf 5
    have g6 := sf 6
    have g7 := sf 7
    have g8 := sf 8
    have g9 := sf 9
    have g10 := sf 10
    have g11 := sf 11
    have hlI := hC17.lt
    have hnI : ¬ w.heap.size = I := by omega
    have hnJ : ¬ I = w.heap.size := by omega
    clear sf
    have f := cf 0
    obtain ⟨⟨z0, z1, z2, z3, z4, z5, z6, z7, z8, z9, z10, z11⟩, hpF, hvF, hmF, hbF⟩ := (hC17.put0 (5 * r9)).fill
    go_wp2_with fail
    exact bodyPost_ret (v := .agg #[.int .i64 (5 * r9), .int .i64 r6, .slice pa k pc, .slice va nv vc, .slice ma nm mc, .int .i64 mx, .int .u64 mp, .int .u64 wt, .int .u64 ed, .int .i64 cl, .int .i64 fm, .int .i64 (1 + r5)]) (by simp [results, Try.results26, go_sem, z0, z1, z2, z3, z4, z5, z6, z7, z8, z9, z10, z11]) rfl ⟨(5 * r9), r6, pa, k, pc, pk, va, nv, vc, V, ma, nm, mc, S, mx, mp, wt, ed, cl, fm, (1 + r5), rfl, HE, ⟨HPK.out, by omega, HVN.out, hv9, HSM.out, hm6, hfV, hfS', hmpf, hwtf, hedf⟩, hpF, hvF, hmF, hbF⟩
  case neg =>
  have b0 : (kk == 0) = false := by simpa using q0
  by_cases q1 : kk = 1
  case pos =>
    have b1 : (kk == 1) = true := by simpa using q1
    have Q1 : Hid (kk = 1) := q1
    have HE : Hid (planF zs = ⟨(1 + r1), (nv : Int), pk, V, S, mx, mp, wt, ed, cl, fm, (1 + r5)⟩) := by unfold Hid; rw [HPL.out, turnF, if_neg q0, if_pos Q1.out]; simp only [HVN.out]
    clear q1
    obtain ⟨⟨c0, c1, c2, c3, c4, c5, c6, c7, c8, c9, c10, c11⟩, cf⟩ := hC.cells
    obtain ⟨⟨s0, s1, s2, s3, s4, s5, s6, s7, s8, s9, s10, s11⟩, sf⟩ := hC.rcells
    have g0 := sf 0
    have g1 := sf 1
    have g2 := sf 2
    have g3 := sf 3
    have g4 := sf 4
    have g5 := sf 5
    have g6 := sf 6
    have g7 := sf 7
    have g8 := sf 8
    have g9 := sf 9
    have g10 := sf 10
    have g11 := sf 11
    have hlI := hC.lt
    have hnI : ¬ w.heap.size = I := by omega
    have hnJ : ¬ I = w.heap.size := by omega
    clear sf
    have f := cf 1
    obtain ⟨⟨z0, z1, z2, z3, z4, z5, z6, z7, z8, z9, z10, z11⟩, hpF, hvF, hmF, hbF⟩ := (hC.put1 (nv : Int)).fill
    go_wp2_with fail
    exact bodyPost_ret (v := .agg #[.int .i64 (1 + r1), .int .i64 (nv : Int), .slice pa k pc, .slice va nv vc, .slice ma nm mc, .int .i64 mx, .int .u64 mp, .int .u64 wt, .int .u64 ed, .int .i64 cl, .int .i64 fm, .int .i64 (1 + r5)]) (by simp [results, Try.results26, go_sem, z0, z1, z2, z3, z4, z5, z6, z7, z8, z9, z10, z11]) rfl ⟨(1 + r1), (nv : Int), pa, k, pc, pk, va, nv, vc, V, ma, nm, mc, S, mx, mp, wt, ed, cl, fm, (1 + r5), rfl, HE, ⟨HPK.out, by omega, HVN.out, hv9, HSM.out, hm6, hfV, hfS', hmpf, hwtf, hedf⟩, hpF, hvF, hmF, hbF⟩
  case neg =>
  have b1 : (kk == 1) = false := by simpa using q1
  by_cases q2 : kk = 2
  case pos =>
    have b2 : (kk == 2) = true := by simpa using q2
    have Q2 : Hid (kk = 2) := q2
    have HE : Hid (planF zs = ⟨(1 + r1), r6, pk, V, S, 257, mp, wt, ed, cl, fm, (1 + r5)⟩) := by unfold Hid; rw [HPL.out, turnF, if_neg q0, if_neg q1, if_pos Q2.out]
    clear q2
    obtain ⟨⟨c0, c1, c2, c3, c4, c5, c6, c7, c8, c9, c10, c11⟩, cf⟩ := hC.cells
    obtain ⟨⟨s0, s1, s2, s3, s4, s5, s6, s7, s8, s9, s10, s11⟩, sf⟩ := hC.rcells
    have g0 := sf 0
    have g1 := sf 1
    have g2 := sf 2
    have g3 := sf 3
    have g4 := sf 4
    have g5 := sf 5
    have g6 := sf 6
    have g7 := sf 7
    have g8 := sf 8
    have g9 := sf 9
    have g10 := sf 10
    have g11 := sf 11
    have hlI := hC.lt
    have hnI : ¬ w.heap.size = I := by omega
    have hnJ : ¬ I = w.heap.size := by omega
    clear sf
    have f := cf 5
    obtain ⟨⟨z0, z1, z2, z3, z4, z5, z6, z7, z8, z9, z10, z11⟩, hpF, hvF, hmF, hbF⟩ := (hC.put5 257).fill
    go_wp2_with fail
    exact bodyPost_ret (v := .agg #[.int .i64 (1 + r1), .int .i64 r6, .slice pa k pc, .slice va nv vc, .slice ma nm mc, .int .i64 257, .int .u64 mp, .int .u64 wt, .int .u64 ed, .int .i64 cl, .int .i64 fm, .int .i64 (1 + r5)]) (by simp [results, Try.results26, go_sem, z0, z1, z2, z3, z4, z5, z6, z7, z8, z9, z10, z11]) rfl ⟨(1 + r1), r6, pa, k, pc, pk, va, nv, vc, V, ma, nm, mc, S, 257, mp, wt, ed, cl, fm, (1 + r5), rfl, HE, ⟨HPK.out, by omega, HVN.out, hv9, HSM.out, hm6, hfV, hfS', hmpf, hwtf, hedf⟩, hpF, hvF, hmF, hbF⟩
  case neg =>
  have b2 : (kk == 2) = false := by simpa using q2
  by_cases q3 : kk = 3
  case pos =>
    have b3 : (kk == 3) = true := by simpa using q3
    have Q3 : Hid (kk = 3) := q3
    have HE : Hid (planF zs = ⟨(1 + r1), r6, pk, V, S, mx, mp, wt, ed, cl, fm, 0⟩) := by unfold Hid; rw [HPL.out, turnF, if_neg q0, if_neg q1, if_neg q2, if_pos Q3.out]
    clear q3
    obtain ⟨⟨c0, c1, c2, c3, c4, c5, c6, c7, c8, c9, c10, c11⟩, cf⟩ := hC.cells
    obtain ⟨⟨s0, s1, s2, s3, s4, s5, s6, s7, s8, s9, s10, s11⟩, sf⟩ := hC.rcells
    have g0 := sf 0
    have g1 := sf 1
    have g2 := sf 2
    have g3 := sf 3
    have g4 := sf 4
    have g5 := sf 5
    have g6 := sf 6
    have g7 := sf 7
    have g8 := sf 8
    have g9 := sf 9
    have g10 := sf 10
    have g11 := sf 11
    have hlI := hC.lt
    have hnI : ¬ w.heap.size = I := by omega
    have hnJ : ¬ I = w.heap.size := by omega
    clear sf
    have f := cf 11
    obtain ⟨⟨z0, z1, z2, z3, z4, z5, z6, z7, z8, z9, z10, z11⟩, hpF, hvF, hmF, hbF⟩ := (hC.put11 0).fill
    go_wp2_with fail
    exact bodyPost_ret (v := .agg #[.int .i64 (1 + r1), .int .i64 r6, .slice pa k pc, .slice va nv vc, .slice ma nm mc, .int .i64 mx, .int .u64 mp, .int .u64 wt, .int .u64 ed, .int .i64 cl, .int .i64 fm, .int .i64 0]) (by simp [results, Try.results26, go_sem, z0, z1, z2, z3, z4, z5, z6, z7, z8, z9, z10, z11]) rfl ⟨(1 + r1), r6, pa, k, pc, pk, va, nv, vc, V, ma, nm, mc, S, mx, mp, wt, ed, cl, fm, 0, rfl, HE, ⟨HPK.out, by omega, HVN.out, hv9, HSM.out, hm6, hfV, hfS', hmpf, hwtf, hedf⟩, hpF, hvF, hmF, hbF⟩
  case neg =>
  have b3 : (kk == 3) = false := by simpa using q3
  by_cases q4 : kk = 4
  case pos =>
    have b4 : (kk == 4) = true := by simpa using q4
    have Q4 : Hid (kk = 4) := q4
    have HE : Hid (planF zs = ⟨(1 + r1), r6, pk, V, S, mx, mp, (IntKind.u64.wrap (mp - 1)), ed, cl, fm, (1 + r5)⟩) := by unfold Hid; rw [HPL.out, turnF, if_neg q0, if_neg q1, if_neg q2, if_neg q3, if_pos Q4.out]
    clear q4
    obtain ⟨⟨c0, c1, c2, c3, c4, c5, c6, c7, c8, c9, c10, c11⟩, cf⟩ := hC.cells
    obtain ⟨⟨s0, s1, s2, s3, s4, s5, s6, s7, s8, s9, s10, s11⟩, sf⟩ := hC.rcells
    have g0 := sf 0
    have g1 := sf 1
    have g2 := sf 2
    have g3 := sf 3
    have g4 := sf 4
    have g5 := sf 5
    have g6 := sf 6
    have g7 := sf 7
    have g8 := sf 8
    have g9 := sf 9
    have g10 := sf 10
    have g11 := sf 11
    have hlI := hC.lt
    have hnI : ¬ w.heap.size = I := by omega
    have hnJ : ¬ I = w.heap.size := by omega
    clear sf
    have f := cf 7
    obtain ⟨⟨z0, z1, z2, z3, z4, z5, z6, z7, z8, z9, z10, z11⟩, hpF, hvF, hmF, hbF⟩ := (hC.put7 (IntKind.u64.wrap (mp - 1))).fill
    go_wp2_with fail
    exact bodyPost_ret (v := .agg #[.int .i64 (1 + r1), .int .i64 r6, .slice pa k pc, .slice va nv vc, .slice ma nm mc, .int .i64 mx, .int .u64 mp, .int .u64 (IntKind.u64.wrap (mp - 1)), .int .u64 ed, .int .i64 cl, .int .i64 fm, .int .i64 (1 + r5)]) (by simp [results, Try.results26, go_sem, z0, z1, z2, z3, z4, z5, z6, z7, z8, z9, z10, z11]) rfl ⟨(1 + r1), r6, pa, k, pc, pk, va, nv, vc, V, ma, nm, mc, S, mx, mp, (IntKind.u64.wrap (mp - 1)), ed, cl, fm, (1 + r5), rfl, HE, ⟨HPK.out, by omega, HVN.out, hv9, HSM.out, hm6, hfV, hfS', hmpf, wrap64_fits _, hedf⟩, hpF, hvF, hmF, hbF⟩
  case neg =>
  have b4 : (kk == 4) = false := by simpa using q4
  by_cases q5 : kk = 5
  case pos =>
    have b5 : (kk == 5) = true := by simpa using q5
    have Q5 : Hid (kk = 5) := q5
    have HE : Hid (planF zs = ⟨(1 + r1), r6, pk, V, S, mx, mp, wt, 4611686018427387905, cl, fm, (1 + r5)⟩) := by unfold Hid; rw [HPL.out, turnF, if_neg q0, if_neg q1, if_neg q2, if_neg q3, if_neg q4, if_pos Q5.out]
    clear q5
    obtain ⟨⟨c0, c1, c2, c3, c4, c5, c6, c7, c8, c9, c10, c11⟩, cf⟩ := hC.cells
    obtain ⟨⟨s0, s1, s2, s3, s4, s5, s6, s7, s8, s9, s10, s11⟩, sf⟩ := hC.rcells
    have g0 := sf 0
    have g1 := sf 1
    have g2 := sf 2
    have g3 := sf 3
    have g4 := sf 4
    have g5 := sf 5
    have g6 := sf 6
    have g7 := sf 7
    have g8 := sf 8
    have g9 := sf 9
    have g10 := sf 10
    have g11 := sf 11
    have hlI := hC.lt
    have hnI : ¬ w.heap.size = I := by omega
    have hnJ : ¬ I = w.heap.size := by omega
    clear sf
    have f := cf 8
    obtain ⟨⟨z0, z1, z2, z3, z4, z5, z6, z7, z8, z9, z10, z11⟩, hpF, hvF, hmF, hbF⟩ := (hC.put8 4611686018427387905).fill
    go_wp2_with fail
    exact bodyPost_ret (v := .agg #[.int .i64 (1 + r1), .int .i64 r6, .slice pa k pc, .slice va nv vc, .slice ma nm mc, .int .i64 mx, .int .u64 mp, .int .u64 wt, .int .u64 4611686018427387905, .int .i64 cl, .int .i64 fm, .int .i64 (1 + r5)]) (by simp [results, Try.results26, go_sem, z0, z1, z2, z3, z4, z5, z6, z7, z8, z9, z10, z11]) rfl ⟨(1 + r1), r6, pa, k, pc, pk, va, nv, vc, V, ma, nm, mc, S, mx, mp, wt, 4611686018427387905, cl, fm, (1 + r5), rfl, HE, ⟨HPK.out, by omega, HVN.out, hv9, HSM.out, hm6, hfV, hfS', hmpf, hwtf, ⟨by omega, by omega⟩⟩, hpF, hvF, hmF, hbF⟩
  case neg =>
  have b5 : (kk == 5) = false := by simpa using q5
  by_cases q6 : kk = 6
  case pos =>
    have b6 : (kk == 6) = true := by simpa using q6
    have Q6 : Hid (kk = 6) := q6
    have HE : Hid (planF zs = ⟨(1 + r1), r6, pk, V, S, mx, mp, wt, ed, 2, fm, (1 + r5)⟩) := by unfold Hid; rw [HPL.out, turnF, if_neg q0, if_neg q1, if_neg q2, if_neg q3, if_neg q4, if_neg q5, if_pos Q6.out]
    clear q6
    obtain ⟨⟨c0, c1, c2, c3, c4, c5, c6, c7, c8, c9, c10, c11⟩, cf⟩ := hC.cells
    obtain ⟨⟨s0, s1, s2, s3, s4, s5, s6, s7, s8, s9, s10, s11⟩, sf⟩ := hC.rcells
    have g0 := sf 0
    have g1 := sf 1
    have g2 := sf 2
    have g3 := sf 3
    have g4 := sf 4
    have g5 := sf 5
    have g6 := sf 6
    have g7 := sf 7
    have g8 := sf 8
    have g9 := sf 9
    have g10 := sf 10
    have g11 := sf 11
    have hlI := hC.lt
    have hnI : ¬ w.heap.size = I := by omega
    have hnJ : ¬ I = w.heap.size := by omega
    clear sf
    have f := cf 9
    obtain ⟨⟨z0, z1, z2, z3, z4, z5, z6, z7, z8, z9, z10, z11⟩, hpF, hvF, hmF, hbF⟩ := (hC.put9 2).fill
    go_wp2_with fail
    exact bodyPost_ret (v := .agg #[.int .i64 (1 + r1), .int .i64 r6, .slice pa k pc, .slice va nv vc, .slice ma nm mc, .int .i64 mx, .int .u64 mp, .int .u64 wt, .int .u64 ed, .int .i64 2, .int .i64 fm, .int .i64 (1 + r5)]) (by simp [results, Try.results26, go_sem, z0, z1, z2, z3, z4, z5, z6, z7, z8, z9, z10, z11]) rfl ⟨(1 + r1), r6, pa, k, pc, pk, va, nv, vc, V, ma, nm, mc, S, mx, mp, wt, ed, 2, fm, (1 + r5), rfl, HE, ⟨HPK.out, by omega, HVN.out, hv9, HSM.out, hm6, hfV, hfS', hmpf, hwtf, hedf⟩, hpF, hvF, hmF, hbF⟩
  case neg =>
  have b6 : (kk == 6) = false := by simpa using q6
  by_cases q7 : kk = 7
  case pos =>
    have b7 : (kk == 7) = true := by simpa using q7
    have Q7 : Hid (kk = 7) := q7
    clear q7
    obtain ⟨⟨c0, c1, c2, c3, c4, c5, c6, c7, c8, c9, c10, c11⟩, cf⟩ := hC.cells
    go_wp2_with fail
    refine (spoil_at w _ b a zs cap σ14 hC.d hz hv hl ma mc nm S HSM.out hm6 hfS' hC.m).mono ?_
    rintro e w17 ⟨ma', mc', nm', S', σ15, rfl, N15, hn', hn6', hft', hrow', hd17, hT17⟩
    have HE : Hid (planF zs = ⟨(1 + r1), r6, pk, V, S', mx, mp, wt, ed, cl, fm, (1 + r5)⟩) := by unfold Hid; rw [HPL.out, turnF, if_neg q0, if_neg q1, if_neg q2, if_neg q3, if_neg q4, if_neg q5, if_neg q6, if_pos Q7.out]; simp only [N15.out]
    have hi17 := (hT17.bl I (Array.getElem?_eq_some_iff.1 hC.i).1 hC.ne (fun e => own_ne hC.m hC.i (by decide) e.symm)).trans hC.i
    have hr17 := (hT17.bl w.heap.size (Array.getElem?_eq_some_iff.1 hC.r).1 hC.rne (fun e => own_ne hC.m hC.r (by decide) e.symm)).trans hC.r
    have hlI := hC.lt
    have hnI : ¬ w.heap.size = I := by omega
    have hnJ : ¬ I = w.heap.size := by omega
    clear c0 c1 c2 c3 c4 c5 c6 c7 c8 c9 c10 c11 cf
    have c0 := Go.Joins.cell_of_block hi17 0
    have s0 := Go.Joins.cell_of_block hr17 0
    have g0 := Go.Joins.unfrozen_of_block hr17 0
    have c1 := Go.Joins.cell_of_block hi17 1
    have s1 := Go.Joins.cell_of_block hr17 1
    have g1 := Go.Joins.unfrozen_of_block hr17 1
    have c2 := Go.Joins.cell_of_block hi17 2
    have s2 := Go.Joins.cell_of_block hr17 2
    have g2 := Go.Joins.unfrozen_of_block hr17 2
    have c3 := Go.Joins.cell_of_block hi17 3
    have s3 := Go.Joins.cell_of_block hr17 3
    have g3 := Go.Joins.unfrozen_of_block hr17 3
    have c4 := Go.Joins.cell_of_block hi17 4
    have s4 := Go.Joins.cell_of_block hr17 4
    have g4 := Go.Joins.unfrozen_of_block hr17 4
    have c5 := Go.Joins.cell_of_block hi17 5
    have s5 := Go.Joins.cell_of_block hr17 5
    have g5 := Go.Joins.unfrozen_of_block hr17 5
    have c6 := Go.Joins.cell_of_block hi17 6
    have s6 := Go.Joins.cell_of_block hr17 6
    have g6 := Go.Joins.unfrozen_of_block hr17 6
    have c7 := Go.Joins.cell_of_block hi17 7
    have s7 := Go.Joins.cell_of_block hr17 7
    have g7 := Go.Joins.unfrozen_of_block hr17 7
    have c8 := Go.Joins.cell_of_block hi17 8
    have s8 := Go.Joins.cell_of_block hr17 8
    have g8 := Go.Joins.unfrozen_of_block hr17 8
    have c9 := Go.Joins.cell_of_block hi17 9
    have s9 := Go.Joins.cell_of_block hr17 9
    have g9 := Go.Joins.unfrozen_of_block hr17 9
    have c10 := Go.Joins.cell_of_block hi17 10
    have s10 := Go.Joins.cell_of_block hr17 10
    have g10 := Go.Joins.unfrozen_of_block hr17 10
    have c11 := Go.Joins.cell_of_block hi17 11
    have s11 := Go.Joins.cell_of_block hr17 11
    have g11 := Go.Joins.unfrozen_of_block hr17 11
    have f := Go.Joins.unfrozen_of_block hi17 4
    obtain ⟨⟨z0, z1, z2, z3, z4, z5, z6, z7, z8, z9, z10, z11⟩, hpF, hvF, hmF, hbF⟩ := (hC.growM hT17 hd17 hrow').fill
    go_wp2_with fail
    exact bodyPost_ret (v := .agg #[.int .i64 (1 + r1), .int .i64 r6, .slice pa k pc, .slice va nv vc, .slice ma' nm' mc', .int .i64 mx, .int .u64 mp, .int .u64 wt, .int .u64 ed, .int .i64 cl, .int .i64 fm, .int .i64 (1 + r5)]) (by simp [results, Try.results26, go_sem, z0, z1, z2, z3, z4, z5, z6, z7, z8, z9, z10, z11]) rfl ⟨(1 + r1), r6, pa, k, pc, pk, va, nv, vc, V, ma', nm', mc', S', mx, mp, wt, ed, cl, fm, (1 + r5), rfl, HE, ⟨HPK.out, by omega, HVN.out, hv9, hn', hn6', hfV, hft', hmpf, hwtf, hedf⟩, hpF, hvF, hmF, hbF⟩
  case neg =>
  have b7 : (kk == 7) = false := by simpa using q7
  by_cases q8 : kk = 8
  case pos =>
    have b8 : (kk == 8) = true := by simpa using q8
    have Q8 : Hid (kk = 8) := q8
    clear q8
    obtain ⟨⟨c0, c1, c2, c3, c4, c5, c6, c7, c8, c9, c10, c11⟩, cf⟩ := hC.cells
    go_wp2_with fail
    clear c0 c1 c2 c3 c4 c5 c6 c7 c8 c9 c10 c11 cf
    go_loopw [] (fun wr => ∃ (j : Nat) (pa' : Option Addr) (np' pc' : Nat), np' = k + j ∧ np' ≤ 1000 ∧ CarP w wr b I a zs.length cap σ14 (1 + r1) r6 pa' np' pc' (pk ++ List.replicate j 1) va nv vc V ma nm mc S mx mp wt ed cl fm (1 + r5)) (fun wr => 1000 - boxLen wr I)
    case atStart => exact ⟨0, pa, k, pc, rfl, by omega, by simpa using hC⟩
    case round =>
    clear hC
    obtain ⟨j, pa', np', pc', hnp, hn1000, hCj⟩ := hrel
    have HNP : Hid (np' = k + j) := hnp
    have hnk : k ≤ np' := by omega
    clear hnp
    have HLJ : Hid ((pk ++ List.replicate j 1).length = np') := by unfold Hid; rw [List.length_append, List.length_replicate, HPK.out, HNP.out]
    obtain ⟨⟨c0, c1, c2, c3, c4, c5, c6, c7, c8, c9, c10, c11⟩, cf⟩ := hCj.cells
    have hIl : I < wr.heap.size := (Array.getElem?_eq_some_iff.1 hCj.i).1
    have hlI := hCj.lt
    by_cases hlt : np' < 1000
    case pos =>
      have hdl : decide ((np' : Int) < 1000) = true := by rw [decide_eq_true_iff]; omega
      go_wp2_with (at_builtin; refine wpList_app1 _ (by rfl) _ _ 36 2 (by rfl) .i64 8 Try.underlying36 info64 (by decide) w.heap.size pa' np' pc' (pk ++ List.replicate j 1) 1 (by rfl) (hCj.p.alloc _) ⟨wr.heap.size, 0, none⟩ (by rfl) (by simp) (by omega) (by have := hCj.d.bel.size; simp; omega) ?_; intro g9 cap9 w9 ho9 hg9; have hi9 := (hg9.block I (by simp; omega) (fun e => own_ne hCj.p hCj.i (by decide) e.symm)).trans ((Below.heap_alloc wr _ I (by omega)).trans hCj.i); have hr9 := (hg9.block w.heap.size (by simp; omega) (fun e => own_ne hCj.p hCj.r (by decide) e.symm)).trans ((Below.heap_alloc wr _ w.heap.size (by omega)).trans hCj.r); have y2 := Go.Joins.cell_of_block hi9 2; have yf := Go.Joins.unfrozen_of_block hi9 2)
      have hCn := (hCj.alloc (.cells #[.int .i64 1] 2)).growP hg9 ho9
      have hbl0 : boxLen wr I = np' := by unfold boxLen; rw [c2]
      have hbl1 : boxLen (w9.setCell ⟨I, 2, none⟩ (.slice (some ⟨g9, 0, none⟩) (np' + 1) cap9)) I = np' + 1 := by unfold boxLen; rw [hCn.cells.1.2.2.1]
      have hE : pk ++ List.replicate j 1 ++ [1] = pk ++ List.replicate (j + 1) 1 := by rw [List.replicate_succ', ← List.append_assoc]
      rw [hE] at hCn
      go_wp2_with fail
      go_roundw
      case rel => exact ⟨j + 1, _, _, _, by have := HNP.out; omega, by omega, hCn⟩
      case measure => rw [hbl0, hbl1]; omega
    case neg =>
    have hdl : decide ((np' : Int) < 1000) = false := by rw [decide_eq_false_iff_not]; omega
    have hnp0 : Hid (1000 - pk.length = j) := by unfold Hid; rw [HPK.out]; have := HNP.out; omega
    go_wp2_with fail
    clear c0 c1 c2 c3 c4 c5 c6 c7 c8 c9 c10 c11 cf
    refine (next_at w _ b a zs cap σ14 2 hCj.d hz hv hl (by omega) (by omega)).mono ?_
    rintro e w17 ⟨r9, σ15, rfl, N15, l15, u15, hd17, g17⟩
    have hC17 := hCj.call hd17 g17
    have hI17 : I < w17.heap.size := (Array.getElem?_eq_some_iff.1 hC17.i).1
    by_cases h9 : r9 = 0
    case pos =>
      have b9 : (r9 == 0) = true := by simpa using h9
      have H9 : Hid (r9 = 0) := h9
      clear h9
      have HE : Hid (planF zs = ⟨(1 + r1), r6, (pk ++ List.replicate j 1 ++ [1]), V, S, mx, mp, wt, ed, cl, fm, (1 + r5)⟩) := by
        unfold Hid
        rw [HPL.out, turnF, if_neg q0, if_neg q1, if_neg q2, if_neg q3, if_neg q4, if_neg q5, if_neg q6, if_neg q7, if_pos Q8.out]
        unfold moreP
        simp only [N15.out]
        rw [if_pos H9.out, hnp0.out]
      obtain ⟨⟨c0, c1, c2, c3, c4, c5, c6, c7, c8, c9, c10, c11⟩, cf⟩ := hC17.cells
      have hnI : ¬ w.heap.size = I := by omega
      have hnJ : ¬ I = w.heap.size := by omega
      go_wp2_with (first
        | (at_builtin; refine wpList_app1 _ (by rfl) _ _ 36 2 (by rfl) .i64 8 Try.underlying36 info64 (by decide) w.heap.size pa' np' pc' (pk ++ List.replicate j 1) 1 (by rfl) (hC17.p.alloc _) ⟨w17.heap.size, 0, none⟩ (by rfl) (by simp) (by omega) (by have := hC17.d.bel.size; simp; omega) ?_; intro g9 cap9 w9 ho9 hg9; have hi9 := (hg9.block I (by simp; omega) (fun e => own_ne hC17.p hC17.i (by decide) e.symm)).trans ((Below.heap_alloc w17 _ I (by omega)).trans hC17.i); have hr9 := (hg9.block w.heap.size (by simp; omega) (fun e => own_ne hC17.p hC17.r (by decide) e.symm)).trans ((Below.heap_alloc w17 _ w.heap.size (by omega)).trans hC17.r); have y2 := Go.Joins.cell_of_block hi9 2; have yf := Go.Joins.unfrozen_of_block hi9 2; clear c0 c1 c2 c3 c4 c5 c6 c7 c8 c9 c10 c11 cf; have c0 := Go.Joins.cell_of_block hi9 0; have s0 := Go.Joins.cell_of_block hr9 0; have gz0 := Go.Joins.unfrozen_of_block hr9 0; have c1 := Go.Joins.cell_of_block hi9 1; have s1 := Go.Joins.cell_of_block hr9 1; have gz1 := Go.Joins.unfrozen_of_block hr9 1; have c2 := Go.Joins.cell_of_block hi9 2; have s2 := Go.Joins.cell_of_block hr9 2; have gz2 := Go.Joins.unfrozen_of_block hr9 2; have c3 := Go.Joins.cell_of_block hi9 3; have s3 := Go.Joins.cell_of_block hr9 3; have gz3 := Go.Joins.unfrozen_of_block hr9 3; have c4 := Go.Joins.cell_of_block hi9 4; have s4 := Go.Joins.cell_of_block hr9 4; have gz4 := Go.Joins.unfrozen_of_block hr9 4; have c5 := Go.Joins.cell_of_block hi9 5; have s5 := Go.Joins.cell_of_block hr9 5; have gz5 := Go.Joins.unfrozen_of_block hr9 5; have c6 := Go.Joins.cell_of_block hi9 6; have s6 := Go.Joins.cell_of_block hr9 6; have gz6 := Go.Joins.unfrozen_of_block hr9 6; have c7 := Go.Joins.cell_of_block hi9 7; have s7 := Go.Joins.cell_of_block hr9 7; have gz7 := Go.Joins.unfrozen_of_block hr9 7; have c8 := Go.Joins.cell_of_block hi9 8; have s8 := Go.Joins.cell_of_block hr9 8; have gz8 := Go.Joins.unfrozen_of_block hr9 8; have c9 := Go.Joins.cell_of_block hi9 9; have s9 := Go.Joins.cell_of_block hr9 9; have gz9 := Go.Joins.unfrozen_of_block hr9 9; have c10 := Go.Joins.cell_of_block hi9 10; have s10 := Go.Joins.cell_of_block hr9 10; have gz10 := Go.Joins.unfrozen_of_block hr9 10; have c11 := Go.Joins.cell_of_block hi9 11; have s11 := Go.Joins.cell_of_block hr9 11; have gz11 := Go.Joins.unfrozen_of_block hr9 11)
        | fail)
      have hF := (hC17.alloc (.cells #[.int .i64 1] 2)).growP hg9 ho9
      obtain ⟨⟨z0, z1, z2, z3, z4, z5, z6, z7, z8, z9, z10, z11⟩, hpF, hvF, hmF, hbF⟩ := hF.fill
      exact bodyPost_ret (v := .agg #[.int .i64 (1 + r1), .int .i64 r6, .slice (some ⟨g9, 0, none⟩) (np' + 1) cap9, .slice va nv vc, .slice ma nm mc, .int .i64 mx, .int .u64 mp, .int .u64 wt, .int .u64 ed, .int .i64 cl, .int .i64 fm, .int .i64 (1 + r5)]) (by simp [results, Try.results26, go_sem, z0, z1, z2, z3, z4, z5, z6, z7, z8, z9, z10, z11]) rfl ⟨(1 + r1), r6, (some ⟨g9, 0, none⟩), (np' + 1), cap9, (pk ++ List.replicate j 1 ++ [1]), va, nv, vc, V, ma, nm, mc, S, mx, mp, wt, ed, cl, fm, (1 + r5), rfl, HE, ⟨by rw [List.length_append, HLJ.out]; rfl, by omega, HVN.out, hv9, HSM.out, hm6, hfV, hfS', hmpf, hwtf, hedf⟩, hpF, hvF, hmF, hbF⟩
    case neg =>
      have b9 : (r9 == 0) = false := by simpa using h9
      have HE : Hid (planF zs = ⟨(1 + r1), r6, (pk ++ List.replicate j 1), V, S, mx, mp, wt, ed, cl, fm, (1 + r5)⟩) := by
        unfold Hid
        rw [HPL.out, turnF, if_neg q0, if_neg q1, if_neg q2, if_neg q3, if_neg q4, if_neg q5, if_neg q6, if_neg q7, if_pos Q8.out]
        unfold moreP
        simp only [N15.out]
        rw [if_neg h9, hnp0.out]
      obtain ⟨⟨c0, c1, c2, c3, c4, c5, c6, c7, c8, c9, c10, c11⟩, cf⟩ := hC17.cells
      obtain ⟨⟨s0, s1, s2, s3, s4, s5, s6, s7, s8, s9, s10, s11⟩, sf⟩ := hC17.rcells
      have g0 := sf 0
      have g1 := sf 1
      have g2 := sf 2
      have g3 := sf 3
      have g4 := sf 4
      have g5 := sf 5
      have g6 := sf 6
      have g7 := sf 7
      have g8 := sf 8
      have g9 := sf 9
      have g10 := sf 10
      have g11 := sf 11
      have hlI2 := hC17.lt
      have hnI : ¬ w.heap.size = I := by omega
      have hnJ : ¬ I = w.heap.size := by omega
      clear sf
      obtain ⟨⟨z0, z1, z2, z3, z4, z5, z6, z7, z8, z9, z10, z11⟩, hpF, hvF, hmF, hbF⟩ := (hC17).fill
      go_wp2_with fail
      exact bodyPost_ret (v := .agg #[.int .i64 (1 + r1), .int .i64 r6, .slice pa' np' pc', .slice va nv vc, .slice ma nm mc, .int .i64 mx, .int .u64 mp, .int .u64 wt, .int .u64 ed, .int .i64 cl, .int .i64 fm, .int .i64 (1 + r5)]) (by simp [results, Try.results26, go_sem, z0, z1, z2, z3, z4, z5, z6, z7, z8, z9, z10, z11]) rfl ⟨(1 + r1), r6, pa', np', pc', (pk ++ List.replicate j 1), va, nv, vc, V, ma, nm, mc, S, mx, mp, wt, ed, cl, fm, (1 + r5), rfl, HE, ⟨HLJ.out, by omega, HVN.out, hv9, HSM.out, hm6, hfV, hfS', hmpf, hwtf, hedf⟩, hpF, hvF, hmF, hbF⟩
  case neg =>
  have b8 : (kk == 8) = false := by simpa using q8
  by_cases q9 : kk = 9
  case pos =>
    have b9 : (kk == 9) = true := by simpa using q9
    have Q9 : Hid (kk = 9) := q9
    have HE : Hid (planF zs = ⟨(1 + r1), r6, pk, V, S, 0, mp, wt, ed, cl, fm, (1 + r5)⟩) := by unfold Hid; rw [HPL.out, turnF, if_neg q0, if_neg q1, if_neg q2, if_neg q3, if_neg q4, if_neg q5, if_neg q6, if_neg q7, if_neg q8, if_pos Q9.out]
    clear q9
    obtain ⟨⟨c0, c1, c2, c3, c4, c5, c6, c7, c8, c9, c10, c11⟩, cf⟩ := hC.cells
    obtain ⟨⟨s0, s1, s2, s3, s4, s5, s6, s7, s8, s9, s10, s11⟩, sf⟩ := hC.rcells
    have g0 := sf 0
    have g1 := sf 1
    have g2 := sf 2
    have g3 := sf 3
    have g4 := sf 4
    have g5 := sf 5
    have g6 := sf 6
    have g7 := sf 7
    have g8 := sf 8
    have g9 := sf 9
    have g10 := sf 10
    have g11 := sf 11
    have hlI := hC.lt
    have hnI : ¬ w.heap.size = I := by omega
    have hnJ : ¬ I = w.heap.size := by omega
    clear sf
    have f := cf 5
    obtain ⟨⟨z0, z1, z2, z3, z4, z5, z6, z7, z8, z9, z10, z11⟩, hpF, hvF, hmF, hbF⟩ := (hC.put5 0).fill
    go_wp2_with fail
    exact bodyPost_ret (v := .agg #[.int .i64 (1 + r1), .int .i64 r6, .slice pa k pc, .slice va nv vc, .slice ma nm mc, .int .i64 0, .int .u64 mp, .int .u64 wt, .int .u64 ed, .int .i64 cl, .int .i64 fm, .int .i64 (1 + r5)]) (by simp [results, Try.results26, go_sem, z0, z1, z2, z3, z4, z5, z6, z7, z8, z9, z10, z11]) rfl ⟨(1 + r1), r6, pa, k, pc, pk, va, nv, vc, V, ma, nm, mc, S, 0, mp, wt, ed, cl, fm, (1 + r5), rfl, HE, ⟨HPK.out, by omega, HVN.out, hv9, HSM.out, hm6, hfV, hfS', hmpf, hwtf, hedf⟩, hpF, hvF, hmF, hbF⟩
  case neg =>
  have b9 : (kk == 9) = false := by simpa using q9
  have HE : Hid (planF zs = ⟨(1 + r1), r6, pk, V, S, mx, mp, wt, ed, cl, fm, (1 + r5)⟩) := by unfold Hid; rw [HPL.out, turnF, if_neg q0, if_neg q1, if_neg q2, if_neg q3, if_neg q4, if_neg q5, if_neg q6, if_neg q7, if_neg q8, if_neg q9]
  obtain ⟨⟨c0, c1, c2, c3, c4, c5, c6, c7, c8, c9, c10, c11⟩, cf⟩ := hC.cells
  obtain ⟨⟨s0, s1, s2, s3, s4, s5, s6, s7, s8, s9, s10, s11⟩, sf⟩ := hC.rcells
  have g0 := sf 0
  have g1 := sf 1
  have g2 := sf 2
  have g3 := sf 3
  have g4 := sf 4
  have g5 := sf 5
  have g6 := sf 6
  have g7 := sf 7
  have g8 := sf 8
  have g9 := sf 9
  have g10 := sf 10
  have g11 := sf 11
  have hlI := hC.lt
  have hnI : ¬ w.heap.size = I := by omega
  have hnJ : ¬ I = w.heap.size := by omega
  clear sf
  obtain ⟨⟨z0, z1, z2, z3, z4, z5, z6, z7, z8, z9, z10, z11⟩, hpF, hvF, hmF, hbF⟩ := (hC).fill
  go_wp2_with fail
  exact bodyPost_ret (v := .agg #[.int .i64 (1 + r1), .int .i64 r6, .slice pa k pc, .slice va nv vc, .slice ma nm mc, .int .i64 mx, .int .u64 mp, .int .u64 wt, .int .u64 ed, .int .i64 cl, .int .i64 fm, .int .i64 (1 + r5)]) (by simp [results, Try.results26, go_sem, z0, z1, z2, z3, z4, z5, z6, z7, z8, z9, z10, z11]) rfl ⟨(1 + r1), r6, pa, k, pc, pk, va, nv, vc, V, ma, nm, mc, S, mx, mp, wt, ed, cl, fm, (1 + r5), rfl, HE, ⟨HPK.out, by omega, HVN.out, hv9, HSM.out, hm6, hfV, hfS', hmpf, hwtf, hedf⟩, hpF, hvF, hmF, hbF⟩
end Go.Proofs.Ytlagaiekoahjnaa
