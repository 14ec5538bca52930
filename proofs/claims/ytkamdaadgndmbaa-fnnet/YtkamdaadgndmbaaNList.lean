import Derived.Test.YtkamdaadgndmbaaNDraw5
import Derived.Test.YtkamdaadgndmbaaNMath1
import Derived.Test.YtkamdaadgndmbaaNFl8
import Derived.Deep.AppendLies
namespace Go.Proofs.Ytkamdaadgndmbaa
open Go.ChangeShapes Go.WideShapes Go.ChangeAt Go.RowKit
set_option linter.unusedVariables false

/-! ### FnNet's own lists in memory -/
def upd {α : Type} (V : Nat → α) (b : Nat) (v : α) : Nat → α := fun j => if j = b then v else V j
theorem upd_same {α : Type} (V : Nat → α) (b : Nat) (v : α) : upd V b v b = v := if_pos rfl
theorem upd_other {α : Type} (V : Nat → α) {b j : Nat} (v : α) (h : j ≠ b) : upd V b v j = V j := if_neg h
theorem range_upd {α β : Type} (N : Nat) (V : Nat → α) (f : α → β) (b : Nat) (v : α) (hb : b < N) : ((List.range N).map fun j => f (upd V b v j)) = ((List.range N).map fun j => f (V j)).set b (f v) := by
  apply List.ext_getElem
  · simp
  · intro i h1 h2
    simp at h1 h2
    rw [List.getElem_set]
    simp only [List.getElem_map, List.getElem_range]
    by_cases e : b = i
    · rw [if_pos e, ← e, upd_same]
    · rw [if_neg e, upd_other V v (Ne.symm e)]
theorem range_at {α : Type} (N : Nat) (V : Nat → α) {b : Nat} (hb : b < N) : ((List.range N).map V)[b]? = some (V b) := by
  rw [List.getElem?_map, List.getElem?_range hb]
  rfl
/-- One datagram of a list: its bytes lie in the first world, and nobody writes there. -/
def Dg (W : World) (q : List Int × Value) : Prop := ∃ a c, q.2 = .slice a q.1.length c ∧ Ints .u8 W a q.1
structure ListsAt (W w : World) (lb lc cb cc N : Nat) (V : Nat → Value) (B : Nat → Bg) (C : Nat → Int) : Prop where
  row : w.ownsRow W.heap.size 38 1 (.slice (some ⟨lb, 0, none⟩) N lc) N ((List.range N).map V)
  cut : w.ownsRow W.heap.size 2 1 (.slice (some ⟨cb, 0, none⟩) N cc) N ((List.range N).map fun j => .int .i64 (C j))
  bag : ∀ j, j < N → w.ownsRow W.heap.size 22 1 (V j) (B j).length ((B j).map (·.2))
  apart : ∀ i j, i < N → j < N → i ≠ j → ∀ k, (V i).ownBlock = some k → (V j).ownBlock ≠ some k
  dat : ∀ j, j < N → ∀ q ∈ B j, Dg W q
  bel : Below W.heap.size W w
section
variable {W w w' : World} {lb lc cb cc N : Nat} {V : Nat → Value} {B : Nat → Bg} {C : Nat → Int}
theorem ListsAt.keep (h : ListsAt W w lb lc cb cc N V B C) (hbl : Below W.heap.size W w') (hk : ∀ k, W.heap.size ≤ k → k < w.heap.size → w'.heap[k]? = w.heap[k]?) : ListsAt W w' lb lc cb cc N V B C :=
  ⟨row_stays h.row fun k e => hk k (h.row.lt k e).1 (h.row.lt k e).2, row_stays h.cut fun k e => hk k (h.cut.lt k e).1 (h.cut.lt k e).2, fun j hj => row_stays (h.bag j hj) fun k e => hk k ((h.bag j hj).lt k e).1 ((h.bag j hj).lt k e).2, h.apart, h.dat, hbl⟩
theorem ListsAt.moved (h : ListsAt W w lb lc cb cc N V B C) (hb : Below w.heap.size w w') : ListsAt W w' lb lc cb cc N V B C := h.keep (h.bel.trans (hb.mono h.bel.size)) fun k _ hk => hb.block k hk
theorem ListsAt.lblk (h : ListsAt W w lb lc cb cc N V B C) : ∃ cs, w.heap[lb]? = some (.cells cs 38 (0, 0)) := row_block h.row rfl
theorem ListsAt.cblk (h : ListsAt W w lb lc cb cc N V B C) : ∃ cs, w.heap[cb]? = some (.cells cs 2 (0, 0)) := row_block h.cut rfl
theorem ListsAt.cellL (h : ListsAt W w lb lc cb cc N V B C) {b : Nat} (hb : b < N) : w.cell? ⟨lb, b, none⟩ = some (V b) ∧ w.frozen? ⟨lb, b, none⟩ = false :=
  ⟨by rw [h.row.cellAt b (by omega)]; exact range_at N V hb, h.row.frozenAt b⟩
theorem ListsAt.cellC (h : ListsAt W w lb lc cb cc N V B C) {b : Nat} (hb : b < N) : w.cell? ⟨cb, b, none⟩ = some (.int .i64 (C b)) ∧ w.frozen? ⟨cb, b, none⟩ = false :=
  ⟨by rw [h.cut.cellAt b (by omega)]; exact range_at N (fun j => Value.int .i64 (C j)) hb, h.cut.frozenAt b⟩
/-- What lies in a block of another type is not moved by a store into the lists' row. -/
theorem rowL_stays (hl : ∃ cs, w.heap[lb]? = some (.cells cs 38 (0, 0))) {base : Nat} {e : TypeId} {size : Nat} {v : Value} {n : Nat} {xs : List Value} (h : w.ownsRow base e size v n xs) (hne : e ≠ 38) (b : Nat) (x : Value) : (w.setCell ⟨lb, b, none⟩ x).ownsRow base e size v n xs := by
  refine row_stays h fun k hk => heap_setCell_other _ _ _ _ fun e1 => ?_
  obtain ⟨c1, h1⟩ := row_block h hk
  obtain ⟨c2, h2⟩ := hl
  exact type_ne h1 h2 hne e1
theorem rowC_stays (hl : ∃ cs, w.heap[cb]? = some (.cells cs 2 (0, 0))) {base : Nat} {e : TypeId} {size : Nat} {v : Value} {n : Nat} {xs : List Value} (h : w.ownsRow base e size v n xs) (hne : e ≠ 2) (b : Nat) (x : Value) : (w.setCell ⟨cb, b, none⟩ x).ownsRow base e size v n xs := by
  refine row_stays h fun k hk => heap_setCell_other _ _ _ _ fun e1 => ?_
  obtain ⟨c1, h1⟩ := row_block h hk
  obtain ⟨c2, h2⟩ := hl
  exact type_ne h1 h2 hne e1
theorem own_put {base : Nat} {e : TypeId} {g n cap : Nat} {xs ys : List Value} (h : w.ownsRow base e 1 (.slice (some ⟨g, 0, none⟩) n cap) n xs) (j : Nat) (v : Value) (he : xs.set j v = ys) : (w.setCell ⟨g, j, none⟩ v).ownsRow base e 1 (.slice (some ⟨g, 0, none⟩) n cap) n ys := by
  have h1 := (h.stored j v).1
  rw [he] at h1
  exact h1
/-- Another row into the lists. -/
theorem ListsAt.setL (h : ListsAt W w lb lc cb cc N V B C) {b : Nat} (hb : b < N) (v : Value) (bg : Bg) (ho : w.ownsRow W.heap.size 22 1 v bg.length (bg.map (·.2))) (hap : ∀ k, v.ownBlock = some k → ∀ j, j < N → j ≠ b → (V j).ownBlock ≠ some k) (hd : ∀ q ∈ bg, Dg W q) :
    ListsAt W (w.setCell ⟨lb, b, none⟩ v) lb lc cb cc N (upd V b v) (upd B b bg) C := by
  have hlb : W.heap.size ≤ lb := (h.row.lt lb rfl).1
  refine ⟨own_put h.row b v (range_upd N V id b v hb).symm, rowL_stays h.lblk h.cut (by decide) _ _, fun j hj => ?_, fun i j hi hj hij k hk => ?_, fun j hj q hq => ?_, h.bel.setCell (p := ⟨lb, b, none⟩) hlb _⟩
  · by_cases e : j = b
    · subst e; rw [upd_same, upd_same]; exact rowL_stays h.lblk ho (by decide) _ _
    · rw [upd_other V v e, upd_other B bg e]; exact rowL_stays h.lblk (h.bag j hj) (by decide) _ _
  · by_cases e : i = b
    · subst e
      rw [upd_same] at hk
      rw [upd_other V v (Ne.symm hij)]
      exact hap k hk j hj (Ne.symm hij)
    · rw [upd_other V v e] at hk
      by_cases e2 : j = b
      · subst e2
        rw [upd_same]
        exact fun e3 => hap k e3 i hi e hk
      · rw [upd_other V v e2]
        exact h.apart i j hi hj hij k hk
  · by_cases e : j = b
    · subst e; rw [upd_same] at hq; exact hd q hq
    · rw [upd_other B bg e] at hq; exact h.dat j hj q hq
/-- Another number into cut. -/
theorem ListsAt.setC (h : ListsAt W w lb lc cb cc N V B C) {b : Nat} (hb : b < N) (x : Int) : ListsAt W (w.setCell ⟨cb, b, none⟩ (.int .i64 x)) lb lc cb cc N V B (upd C b x) := by
  have hcb : W.heap.size ≤ cb := (h.cut.lt cb rfl).1
  exact ⟨rowC_stays h.cblk h.row (by decide) _ _, own_put h.cut b _ (range_upd N C (fun y => Value.int .i64 y) b x hb).symm, fun j hj => rowC_stays h.cblk (h.bag j hj) (by decide) _ _, h.apart, h.dat, h.bel.setCell (p := ⟨cb, b, none⟩) hcb _⟩
/-- One more datagram on a list: an append and the store of its answer. -/
theorem ListsAt.more (h : ListsAt W w lb lc cb cc N V B C) {b : Nat} (hb : b < N) {g cap H : Nat} {y : List Int} {x : Value} (hg : w.grownBy w' (V b).ownBlock) (ho : w'.ownsRow W.heap.size 22 1 (.slice (some ⟨g, 0, none⟩) ((B b).length + 1) cap) ((B b).length + 1) ((B b).map (·.2) ++ [x])) (hfr : (V b).ownBlock = some g ∨ g = H) (hH : w.heap.size = H) (hx : Dg W (y, x)) :
    ListsAt W (w'.setCell ⟨lb, b, none⟩ (.slice (some ⟨g, 0, none⟩) ((B b).length + 1) cap)) lb lc cb cc N (upd V b (.slice (some ⟨g, 0, none⟩) ((B b).length + 1) cap)) (upd B b (B b ++ [(y, x)])) C := by
  obtain ⟨cl, hcl⟩ := h.lblk
  obtain ⟨cs, hcs⟩ := h.cblk
  have n1 : (V b).ownBlock ≠ some lb := fun e => by
    obtain ⟨c1, h1⟩ := row_block (h.bag b hb) e
    exact type_ne h1 hcl (by decide) rfl
  have n2 : (V b).ownBlock ≠ some cb := fun e => by
    obtain ⟨c1, h1⟩ := row_block (h.bag b hb) e
    exact type_ne h1 hcs (by decide) rfl
  have hbel : Below W.heap.size W w' := h.bel.grown hg h.bel.size fun k hk => ((h.bag b hb).lt k hk).1
  have hap : ∀ k, (Value.slice (some ⟨g, 0, none⟩) ((B b).length + 1) cap).ownBlock = some k → ∀ j, j < N → j ≠ b → (V j).ownBlock ≠ some k := by
    intro k hk j hj hjb e
    simp [Value.ownBlock] at hk
    subst hk
    rcases hfr with e2 | e2
    · exact h.apart b j hb hj (Ne.symm hjb) g e2 e
    · have := ((h.bag j hj).lt g e).2; omega
  have hl2 : w'.heap[lb]? = some (.cells cl 38 (0, 0)) := (hg.block lb (Array.getElem?_eq_some_iff.1 hcl).1 (fun e => n1 e.symm)).trans hcl
  have hrow : w'.ownsRow W.heap.size 38 1 (.slice (some ⟨lb, 0, none⟩) N lc) N ((List.range N).map V) := row_stays h.row fun k e => by
    have e2 : lb = k := by simpa [Value.ownBlock] using e
    subst e2
    exact hl2.trans hcl.symm
  have hcut : w'.ownsRow W.heap.size 2 1 (.slice (some ⟨cb, 0, none⟩) N cc) N ((List.range N).map fun j => .int .i64 (C j)) := row_stays h.cut fun k e => by
    have e2 : cb = k := by simpa [Value.ownBlock] using e
    subst e2
    exact hg.block cb (Array.getElem?_eq_some_iff.1 hcs).1 (fun e => n2 e.symm)
  have hlb : W.heap.size ≤ lb := (h.row.lt lb rfl).1
  refine ⟨own_put hrow b _ (range_upd N V id b _ hb).symm, rowL_stays ⟨cl, hl2⟩ hcut (by decide) _ _, fun j hj => ?_, fun i j hi hj hij k hk => ?_, fun j hj q hq => ?_, hbel.setCell (p := ⟨lb, b, none⟩) hlb _⟩
  · by_cases e : j = b
    · subst e
      rw [upd_same, upd_same]
      refine rowL_stays ⟨cl, hl2⟩ ?_ (by decide) _ _
      rw [List.length_append, List.map_append]
      exact ho
    · rw [upd_other V _ e, upd_other B _ e]
      refine rowL_stays ⟨cl, hl2⟩ (row_stays (h.bag j hj) fun k hk => hg.block k ((h.bag j hj).lt k hk).2 fun e2 => ?_) (by decide) _ _
      exact h.apart b j hb hj (Ne.symm e) k e2.symm hk
  · by_cases e : i = b
    · subst e
      rw [upd_same] at hk
      rw [upd_other V _ (Ne.symm hij)]
      exact hap k hk j hj (Ne.symm hij)
    · rw [upd_other V _ e] at hk
      by_cases e2 : j = b
      · subst e2
        rw [upd_same]
        exact fun e3 => hap k e3 i hi e hk
      · rw [upd_other V _ e2]
        exact h.apart i j hi hj hij k hk
  · by_cases e : j = b
    · subst e
      rw [upd_same] at hq
      rcases List.mem_append.1 hq with hq | hq
      · exact h.dat j hj q hq
      · simp at hq; subst hq; exact hx
    · rw [upd_other B _ e] at hq; exact h.dat j hj q hq
end
/-! ### What the lists hold is what is in flight -/
structure Agree (n : Nat) (s : NS) (B : Nat → Bg) (C : Nat → Int) : Prop where
  bag : ∀ p d : Nat, p < n → d < 2 → (B (2 * p + d)).map (·.1) = s.bag p d
  cut : ∀ p d : Nat, p < n → d < 2 → C (2 * p + d) = s.cut p
section
variable {n : Nat} {s : NS} {B : Nat → Bg} {C : Nat → Int}
theorem Agree.start (n : Nat) : Agree n startN (fun _ => []) (fun _ => 0) := ⟨fun _ _ _ _ => rfl, fun _ _ _ _ => rfl⟩
theorem Agree.put (h : Agree n s B C) {p d : Nat} (hp : p < n) (hd : d < 2) {bg : Bg} {l : List (List Int)} (hl : bg.map (·.1) = l) : Agree n (s.put p d l) (upd B (2 * p + d) bg) C := by
  refine ⟨fun p' d' hp' hd' => ?_, h.cut⟩
  simp only [NS.put]
  by_cases e : p' = p ∧ d' = d
  · obtain ⟨rfl, rfl⟩ := e
    rw [upd_same, if_pos ⟨rfl, rfl⟩]
    exact hl
  · rw [upd_other B bg (by omega), if_neg (by omega)]
    exact h.bag p' d' hp' hd'
theorem Agree.cutOff (h : Agree n s B C) {p : Nat} (hp : p < n) : Agree n (s.cutOff p) (upd (upd B (2 * p) []) (2 * p + 1) []) (upd (upd C (2 * p) 1) (2 * p + 1) 1) := by
  refine ⟨fun p' d' hp' hd' => ?_, fun p' d' hp' hd' => ?_⟩
  · simp only [NS.cutOff, upd]
    by_cases e : p' = p
    · subst e
      rw [if_pos rfl]
      split
      · rfl
      · rw [if_pos (by omega)]; rfl
    · rw [if_neg (by omega), if_neg (by omega), if_neg (by omega)]
      exact h.bag p' d' hp' hd'
  · simp only [NS.cutOff, upd]
    by_cases e : p' = p
    · subst e
      rw [if_pos rfl]
      split
      · rfl
      · rw [if_pos (by omega)]
    · rw [if_neg (by omega), if_neg (by omega), if_neg (by omega)]
      exact h.cut p' d' hp' hd'
theorem Agree.up (h : Agree n s B C) {p : Nat} (hp : p < n) : Agree n (s.up p) B (upd (upd C (2 * p) 0) (2 * p + 1) 0) := by
  refine ⟨h.bag, fun p' d' hp' hd' => ?_⟩
  simp only [NS.up, upd]
  by_cases e : p' = p
  · subst e
    rw [if_pos rfl]
    split
    · rfl
    · rw [if_pos (by omega)]
  · rw [if_neg (by omega), if_neg (by omega), if_neg (by omega)]
    exact h.cut p' d' hp' hd'
end
/-! ### The rest of a list, without one -/
theorem rest_at {α : Type} (l : List α) (ix k : Nat) (hk : k < l.length) (h : k ≠ ix) : (l.take (k + 1)).eraseIdx ix = (l.take k).eraseIdx ix ++ [l[k]] := by
  rw [List.take_succ_eq_append_getElem hk]
  have hlen : (l.take k).length = k := by rw [List.length_take]; omega
  by_cases e : ix < k
  · rw [List.eraseIdx_append_of_lt_length (by omega)]
  · rw [List.eraseIdx_of_length_le (by rw [List.length_append, hlen]; simp; omega), List.eraseIdx_of_length_le (by omega)]
theorem rest_skip {α : Type} (l : List α) (k : Nat) (hk : k < l.length) : (l.take (k + 1)).eraseIdx k = (l.take k).eraseIdx k := by
  have hlen : (l.take k).length = k := by rw [List.length_take]; omega
  have h2 : (l.take k).eraseIdx k = l.take k := List.eraseIdx_of_length_le (by omega)
  rw [h2, List.take_succ_eq_append_getElem hk, List.eraseIdx_append_of_length_le (by omega), hlen]
  simp
end Go.Proofs.Ytkamdaadgndmbaa
