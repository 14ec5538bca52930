import Derived.Test.YtkamdaadgndmbaaNFl5
import Derived.Test.YtkamdaadgndmbaaNTop
namespace Go.Proofs.Ytkamdaadgndmbaa
open Go.ChangeShapes Go.WideShapes Go.ChangeAt Go.RowKit
set_option linter.unusedVariables false

/-! ### A bag that is being told -/
theorem info_bag : (Try.prog.info? 41).map (fun i => (i.zero, i.size, i.bytes)) = some (some (.agg #[.int .i64 0, .int .i64 0, .int .i64 0, .slice none 0 0]), 4, 48) := by kernel_rfl
/-- One append of one bag that lies in block b, in a walk. -/
theorem wpList_appF (w : World) {ops : Array Oper} {rest : List Oper} {o : Oper} {a : Act} {Q : Exit → Act → World → Prop} (hgd : o.guard = none) (s x : Operand)
    (ho : o.op = .call { callee := .builtin .append, args := #[s, x], argTypes := #[29, 29] })
    (base : Nat) (av : Option Addr) (n cap : Nat) (xs : List Value) (hs : a.eval s = .slice av n cap) (hown : w.ownsRow base 41 4 (.slice av n cap) n xs)
    (b : Nat) (u0 u1 u2 u3 : Value) (hx : a.eval x = .slice (some ⟨b, 0, none⟩) 1 1) (hb : w.heap[b]? = some (.cells #[u0, u1, u2, u3] 41)) (h1 : ∀ u ∈ [u0, u1, u2, u3], u.oneCell' = true) (hl : n ≤ 1048576) (hbase : base ≤ w.heap.size)
    (h : ∀ g cap' w', w'.ownsRow base 41 4 (.slice (some ⟨g, 0, none⟩) (n + 1) cap') (n + 1) (xs ++ [u0, u1, u2, u3]) → w.grownBy w' (Value.slice av n cap).ownBlock →
      wpList Try.prog ops Q rest (a.put o.dst (.slice (some ⟨g, 0, none⟩) (n + 1) cap')) w') : wpList Try.prog ops Q (o :: rest) a w := by
  obtain ⟨i0, hi, hz0, hz1, hz2⟩ := info_parts info_bag
  obtain ⟨⟨f0, f1, f2, f3⟩, _⟩ := cells4r hb
  refine wpList_append_own w hgd s x 29 ho base 41 i0 (.agg #[.int .i64 0, .int .i64 0, .int .i64 0, .slice none 0 0]) 4 48 Try.underlying29 hi hz0 hz1 hz2 rfl (by decide) (.slice av n cap) n xs hs hown ⟨b, 0, none⟩ 1 1 [u0, u1, u2, u3] hx rfl ?_ h1 ?_ ?_ hbase ?_
  · intro j u hj
    match j, hj with
    | 0, hj => simp at hj; subst hj; exact f0
    | 1, hj => simp at hj; subst hj; exact f1
    | 2, hj => simp at hj; subst hj; exact f2
    | 3, hj => simp at hj; subst hj; exact f3
  · unfold maxLen; omega
  · omega
  · intro v' w' h2 h3 h4
    rcases h2.2 with ⟨rfl, h0⟩ | ⟨g, cap', cur, rfl, rest⟩
    · omega
    · exact h g cap' w' h2 h3
/-- One append of one datagram that lies in block b, in a region that draws. -/
theorem step_appB (w : World) {ops : Array Oper} {o : Oper} {a : Act} {K : Act → World → Prop} {Q : Exit → Act → World → Prop} {E : Prop} (hgd : o.guard = none) (s x : Operand)
    (ho : o.op = .call { callee := .builtin .append, args := #[s, x], argTypes := #[38, 38] })
    (base : Nat) (av : Option Addr) (n cap : Nat) (xs : List Value) (hs : a.eval s = .slice av n cap) (hown : w.ownsRow base 22 1 (.slice av n cap) n xs)
    (b : Nat) (u0 : Value) (hx : a.eval x = .slice (some ⟨b, 0, none⟩) 1 1) (hb : w.heap[b]? = some (.cells #[u0] 22 (0, 0))) (h1 : u0.oneCell' = true) (hl : n ≤ 1048576) (hbase : base ≤ w.heap.size)
    (h : ∀ g cap' w', w'.ownsRow base 22 1 (.slice (some ⟨g, 0, none⟩) (n + 1) cap') (n + 1) (xs ++ [u0]) → w.grownBy w' (Value.slice av n cap).ownBlock → K (a.put o.dst (.slice (some ⟨g, 0, none⟩) (n + 1) cap')) w') :
    if Region.wanted o (yielded ops a.tmps) = true then Oper.wp Try.prog o a w K Q else E := by
  obtain ⟨i0, hi, hz0, hz1, hz2⟩ := info_parts info_bs
  have f0 := Go.Joins.cell_of_block hb 0
  refine step_append_lies w hgd s x 38 ho base 22 i0 (.slice none 0 0) 1 24 Try.underlying38 hi hz0 hz1 hz2 rfl (by decide) (.slice av n cap) n xs hs hown ⟨b, 0, none⟩ 1 1 [u0] hx rfl ?_ (by simpa using h1) (by omega) (by unfold maxLen; omega) (by omega) hbase w.heap.size rfl ?_
  · intro j u hj
    match j, hj with
    | 0, hj => simp at hj; subst hj; exact f0
  · intro g cap' w' h2 h3 _ _
    exact h g cap' w' h2 h3
structure ToldB (w : World) (lim T : Nat) (p d c : Int) (ta : Option Addr) (tc : Nat) (G : Bg) : Prop where
  box : w.heap[T]? = some (.cells #[.int .i64 p, .int .i64 d, .int .i64 c, .slice ta G.length tc] 41 (0, 0))
  row : RowB w lim (.slice ta G.length tc) G
  ap : (G.filterMap fun q => q.2.ownBlock).Nodup
  ge : lim ≤ T
section
variable {w w' : World} {lim T : Nat} {p d c : Int} {ta : Option Addr} {tc : Nat} {G : Bg}
theorem ToldB.below (h : ToldB w lim T p d c ta tc G) (hb : Below w.heap.size w w') : ToldB w' lim T p d c ta tc G :=
  ⟨(hb.block T (Array.getElem?_eq_some_iff.1 h.box).1).trans h.box, h.row.below hb, h.ap, h.ge⟩
theorem ToldB.push (h : ToldB w lim T p d c ta tc G) {n : Nat} (hn : G.length = n) {L : Nat} {y : List Int} {dv : Value} (hd : w.ownsRow L 5 1 dv y.length (y.map (.int .u8))) (hL : lim ≤ L) (hlt : ∀ q ∈ G, ∀ k, q.2.ownBlock = some k → k < L) {o : Obj} {w1 : World} {g cap : Nat} (hg : (w.alloc o).grownBy w1 (Value.slice ta n tc).ownBlock)
    (hrow : w1.ownsRow lim 22 1 (.slice (some ⟨g, 0, none⟩) (n + 1) cap) (n + 1) (G.map (·.2) ++ [dv])) :
    ToldB (w1.setCell ⟨T, 3, none⟩ (.slice (some ⟨g, 0, none⟩) (n + 1) cap)) lim T p d c (some ⟨g, 0, none⟩) cap (G ++ [(y, dv)]) ∧ ∀ k, k < lim → k < w.heap.size → (w1.setCell ⟨T, 3, none⟩ (.slice (some ⟨g, 0, none⟩) (n + 1) cap)).heap[k]? = w.heap[k]? := by
  subst hn
  have hTl := (Array.getElem?_eq_some_iff.1 h.box).1
  have ho : ∀ (k : Nat) (cs : Array Value) (t : TypeId), t ≠ 22 → w.heap[k]? = some (.cells cs t (0, 0)) → w1.heap[k]? = w.heap[k]? := fun k cs t ht hk => by
    have hkl := (Array.getElem?_eq_some_iff.1 hk).1
    refine (hg.block k (by simp; omega) fun e => ?_).trans (Below.heap_alloc _ _ _ hkl)
    obtain ⟨c2, hc2⟩ := row_block h.row.row e.symm
    exact type_ne hk hc2 ht rfl
  have hT1 := (ho T _ _ (by decide) h.box).trans h.box
  have ho2 : ∀ (k : Nat) (cs : Array Value) (t : TypeId), t ≠ 22 → t ≠ 41 → w.heap[k]? = some (.cells cs t (0, 0)) → (w1.setCell ⟨T, 3, none⟩ (.slice (some ⟨g, 0, none⟩) (G.length + 1) cap)).heap[k]? = w.heap[k]? := fun k cs t ht ht2 hk =>
    (heap_setCell_other _ _ _ _ (type_ne hk h.box ht2)).trans (ho k cs t ht hk)
  refine ⟨⟨?_, ⟨?_, fun q hq => ?_⟩, ?_, h.ge⟩, fun k hk hks => ?_⟩
  · rw [heap_setCell_same _ _ 3 _ _ _ hT1, List.length_append]
    rfl
  · rw [List.length_append, List.map_append]
    refine row_stays hrow fun k hk => heap_setCell_other _ _ _ _ ?_
    obtain ⟨cs, hc⟩ := row_block hrow hk
    exact type_ne hc hT1 (by decide)
  · have : w.ownsRow lim 5 1 q.2 q.1.length (q.1.map (.int .u8)) := by
      rcases List.mem_append.1 hq with hq | hq
      · exact h.row.dat q hq
      · simp at hq; subst hq; exact owned_base hd hL
    refine row_stays this fun k hk => ?_
    obtain ⟨cs, hc⟩ := row_block this hk
    exact ho2 k cs _ (by decide) (by decide) hc
  · rw [List.filterMap_append, List.nodup_append]
    refine ⟨h.ap, by simp only [List.filterMap_cons, List.filterMap_nil]; split <;> simp, ?_⟩
    intro x hx z hz e
    subst e
    obtain ⟨q, hq, hqx⟩ := List.mem_filterMap.1 hx
    simp at hz
    have h1 := hlt q hq x hqx
    have h2 := (hd.lt x hz).1
    omega
  · have hTk : k ≠ T := by have := h.ge; omega
    refine (heap_setCell_other _ _ _ _ hTk).trans ((hg.block k (by simp; omega) fun e => ?_).trans (Below.heap_alloc _ _ _ hks))
    have := (h.row.row.lt k e.symm).1
    omega
/-- A bag that is told joins the others. -/
theorem OutsF.add {base : Nat} {ov : Value} {F : List FB} (hF : OutsF w base ov F) (hbl : base ≤ lim) (hlt : ∀ k cs (t : TypeId), (t = 41 ∨ t = 22 ∨ t = 5) → base ≤ k → (∃ b, b ∈ bgs F ∧ (b.1.ownBlock = some k ∨ ∃ q ∈ b.2, q.2.ownBlock = some k)) → w.heap[k]? = some (.cells cs t (0, 0)) → k < lim) (h : ToldB w lim T p d c ta tc G) {g cap : Nat} (hg : w.grownBy w' ov.ownBlock)
    (hrow : w'.ownsRow base 41 4 (.slice (some ⟨g, 0, none⟩) (F.length + 1) cap) (F.length + 1) (flatF F ++ [.int .i64 p, .int .i64 d, .int .i64 c, .slice ta G.length tc])) : OutsF w' base (.slice (some ⟨g, 0, none⟩) (F.length + 1) cap) (F ++ [⟨p, d, c, .slice ta G.length tc, G⟩]) := by
  have ho : ∀ (k : Nat) (cs : Array Value) (t : TypeId), t ≠ 41 → w.heap[k]? = some (.cells cs t (0, 0)) → w'.heap[k]? = w.heap[k]? := fun k cs t ht hk => by
    refine hg.block k (Array.getElem?_eq_some_iff.1 hk).1 fun e => ?_
    obtain ⟨c2, hc2⟩ := row_block hF.row e.symm
    exact type_ne hk hc2 ht rfl
  have eb : bgs (F ++ [⟨p, d, c, .slice ta G.length tc, G⟩]) = bgs F ++ [(.slice ta G.length tc, G)] := by simp [bgs]
  have hFl : ∀ b ∈ bgs F, ∀ k, (b.1.ownBlock = some k ∨ ∃ q ∈ b.2, q.2.ownBlock = some k) → k < lim := fun b hb k hk => by
    rcases hk with hk | ⟨q, hq, hk⟩
    · obtain ⟨cs, hc⟩ := row_block (hF.bags.row b hb) hk
      exact hlt k cs _ (.inr (.inl rfl)) ((hF.bags.row b hb).lt k hk).1 ⟨b, hb, .inl hk⟩ hc
    · obtain ⟨cs, hc⟩ := row_block (hF.bags.dat b hb q hq) hk
      exact hlt k cs _ (.inr (.inr rfl)) ((hF.bags.dat b hb q hq).lt k hk).1 ⟨b, hb, .inr ⟨q, hq, hk⟩⟩ hc
  refine ⟨by rw [flatF_snoc, List.length_append]; exact hrow, ?_⟩
  rw [eb]
  refine ⟨fun b hb => ?_, fun b hb q hq => ?_, ?_, ?_⟩
  · have : w.ownsRow base 22 1 b.1 b.2.length (b.2.map (·.2)) := by
      rcases List.mem_append.1 hb with hb | hb
      · exact hF.bags.row b hb
      · simp at hb; subst hb; exact owned_base h.row.row hbl
    refine row_stays this fun k hk => ?_
    obtain ⟨cs, hc⟩ := row_block this hk
    exact ho k cs _ (by decide) hc
  · have : w.ownsRow base 5 1 q.2 q.1.length (q.1.map (.int .u8)) := by
      rcases List.mem_append.1 hb with hb | hb
      · exact hF.bags.dat b hb q hq
      · simp at hb; subst hb; exact owned_base (h.row.dat q hq) hbl
    refine row_stays this fun k hk => ?_
    obtain ⟨cs, hc⟩ := row_block this hk
    exact ho k cs _ (by decide) hc
  · rw [List.filterMap_append, List.nodup_append]
    refine ⟨hF.bags.apB, by simp only [List.filterMap_cons, List.filterMap_nil]; split <;> simp, ?_⟩
    intro x hx z hz e
    subst e
    obtain ⟨b, hb, hbx⟩ := List.mem_filterMap.1 hx
    have h1 := hFl b hb x (.inl hbx)
    have h2 : (Value.slice ta G.length tc).ownBlock = some x := by
      cases hv : (Value.slice ta G.length tc).ownBlock <;> simp [hv] at hz
      rw [hz]
    have := (h.row.row.lt x h2).1
    omega
  · rw [List.flatMap_append, List.filterMap_append, List.nodup_append]
    refine ⟨hF.bags.apD, by simpa using h.ap, ?_⟩
    intro x hx z hz e
    subst e
    obtain ⟨q, hq, hqx⟩ := List.mem_filterMap.1 hx
    obtain ⟨b, hb, hqb⟩ := List.mem_flatMap.1 hq
    have h1 := hFl b hb x (.inr ⟨q, hqb, hqx⟩)
    obtain ⟨q2, hq2, hqx2⟩ := List.mem_filterMap.1 hz
    have hq2 : q2 ∈ G := by simpa using hq2
    have := ((h.row.dat q2 hq2).lt x hqx2).1
    omega
end
end Go.Proofs.Ytkamdaadgndmbaa
