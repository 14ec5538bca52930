import Derived.Test.YtkamdaadgndmbaaNQ1
namespace Go.Proofs.Ytkamdaadgndmbaa
open Go.ChangeShapes Go.WideShapes Go.ChangeAt Go.RowKit
set_option linter.unusedVariables false

/-- The first so many of a row are a row. -/
theorem row_take {w : World} {base : Nat} {e : TypeId} {g n cap : Nat} {xs : List Value} (h : w.ownsRow base e 1 (.slice (some ⟨g, 0, none⟩) n cap) n xs) (p : Nat) (hp : p ≤ n) : w.ownsRow base e 1 (.slice (some ⟨g, 0, none⟩) p cap) p (xs.take p) := by
  have hl := h.1
  rcases h.2 with ⟨e0, _⟩ | ⟨g', cap', cur, e0, hb, hg, h1, h2, h3, h4⟩
  · cases e0
  · simp only [Value.slice.injEq, Option.some.injEq, Addr.mk.injEq, and_true] at e0
    obtain ⟨rfl, _, rfl⟩ := e0
    refine ⟨by rw [List.length_take, hl]; omega, .inr ⟨g, cap, cur, rfl, hb, hg, by omega, h2, h3, ?_⟩⟩
    rw [← h4, List.take_take]
    congr 1
    omega
/-- 'append(q[:p], q[p+1:]...)': the place p is gone. -/
theorem run_gone (w : World) (ty : TypeId) (base g n cap p : Nat) (xs : List Value) (hown : w.ownsRow base 22 1 (.slice (some ⟨g, 0, none⟩) n cap) n xs) (hp : p < n) (hl : n ≤ 64) (h1 : ∀ u ∈ xs, u.oneCell' = true) (hb : base ≤ w.heap.size) (o c : Nat) (ho : n = p + 1 ∨ o = p + 1) :
    ∃ v' w', (Builtin.append_ #[38, 38] ty #[.slice (some ⟨g, 0, none⟩) p cap, .slice (some ⟨g, o, none⟩) (n - (p + 1)) c]).run Try.prog w = .ok v' w' ∧ w'.ownsRow base 22 1 v' (n - 1) (xs.eraseIdx p) ∧ w.grownBy w' (some g) ∧ (v'.ownBlock = some g ∨ v'.ownBlock = some w.heap.size) := by
  obtain ⟨i0, hi, hz0, hz1, hz2⟩ := info_parts info_bs
  have hxl : xs.length = n := by have := hown.1; omega
  obtain ⟨v', w', hr, r1, r2, _, r4⟩ := run_append_own_at (P := Try.prog) w base 38 ty 22 i0 (.slice none 0 0) 1 24 Try.underlying38 hi hz0 hz1 hz2 rfl (by decide) (.slice (some ⟨g, 0, none⟩) p cap) p (xs.take p) (row_take hown p (by omega)) ⟨g, o, none⟩ (n - (p + 1)) c (xs.drop (p + 1)) (by rw [List.length_drop]; omega) (fun j u hj => by
      have hjl : j < (xs.drop (p + 1)).length := (List.getElem?_eq_some_iff.1 hj).1
      rw [List.length_drop] at hjl
      rcases ho with ho | ho
      · omega
      · subst ho
        rw [Addr.add_lit]
        have := hown.cells (g := g) rfl (p + 1 + j) u (by rw [← hj, List.getElem?_drop])
        rw [Addr.add_lit, Nat.zero_add] at this
        exact this) (fun u hu => h1 u (List.mem_of_mem_drop hu)) (by unfold maxLen; omega) (by omega) hb
  refine ⟨v', w', hr, ?_, r2, r4⟩
  rw [List.eraseIdx_eq_take_drop_succ]
  have e : p + (n - (p + 1)) = n - 1 := by omega
  rw [e] at r1
  exact r1
theorem step_gone (w : World) {ops : Array Oper} {o : Oper} {a : Act} {K : Act → World → Prop} {Q : Exit → Act → World → Prop} {E : Prop} (hgd : o.guard = none) (s x : Operand)
    (ho : o.op = .call { callee := .builtin .append, args := #[s, x], argTypes := #[38, 38] })
    (base g n cap p : Nat) (xs : List Value) (of c : Nat) (hs : a.eval s = .slice (some ⟨g, 0, none⟩) p cap) (hx : a.eval x = .slice (some ⟨g, of, none⟩) (n - (p + 1)) c) (hown : w.ownsRow base 22 1 (.slice (some ⟨g, 0, none⟩) n cap) n xs) (hp : p < n) (hl : n ≤ 64) (h1 : ∀ u ∈ xs, u.oneCell' = true) (hb : base ≤ w.heap.size) (hof : n = p + 1 ∨ of = p + 1)
    (h : ∀ v' w', w'.ownsRow base 22 1 v' (n - 1) (xs.eraseIdx p) → w.grownBy w' (some g) → (v'.ownBlock = some g ∨ v'.ownBlock = some w.heap.size) → K (a.put o.dst v') w') :
    if Region.wanted o (yielded ops a.tmps) = true then Oper.wp Try.prog o a w K Q else E := by
  have hw : Region.wanted o (yielded ops a.tmps) = true := by simp [Region.wanted, hgd]
  rw [if_pos hw]
  obtain ⟨v', w', hr, h2, h3, h4⟩ := run_gone w o.type base g n cap p xs hown hp hl h1 hb of c hof
  unfold Oper.wp execOp
  simp only [ho, resolve, invoke, builtin, Sem.run_bind, Sem.run_pure, Result.andThen_ok, List.map_toArray, List.map_cons, List.map_nil, hs, hx, hr]
  exact h v' w' h2 h3 h4
set_option maxRecDepth 100000 in
set_option maxHeartbeats 400000 in
/-- The thing at a place leaves. -/
theorem qtake_any (X j base g n cap p : Nat) (xs : List Value) (w : World) (cs : Array Value) (t : TypeId) (ht : t ≠ 22) (hX : w.heap[X]? = some (.cells cs t (0, 0))) (hj : cs[j]? = some (.slice (some ⟨g, 0, none⟩) n cap)) (hown : w.ownsRow base 22 1 (.slice (some ⟨g, 0, none⟩) n cap) n xs) (hb : base ≤ w.heap.size) (hl : n ≤ 64) (hp : p < n) (h1 : ∀ u ∈ xs, u.oneCell' = true) (y : Value) (hy : xs[p]? = some y) :
    Calls Try.prog 57 #[.pointer (some ⟨X, j, none⟩), .int .i64 (p : Int)] w fun e w' => ∃ v', e = .returned y ∧ w'.ownsRow base 22 1 v' (n - 1) (xs.eraseIdx p) ∧ w'.heap[X]? = some (.cells (cs.setIfInBounds j v') t (0, 0)) ∧ (v'.ownBlock = some g ∨ v'.ownBlock = some w.heap.size) ∧ Mv w w' X (some g) := by
  have hXl : X < w.heap.size := (Array.getElem?_eq_some_iff.1 hX).1
  have k0 : w.cell? ⟨X, j, none⟩ = some (.slice (some ⟨g, 0, none⟩) n cap) := (Go.Joins.cell_of_block hX j).trans hj
  have c0 : w.cell? ⟨g, p, none⟩ = some y := by
    have := hown.cells (g := g) rfl p y hy
    rw [Addr.add_lit, Nat.zero_add] at this
    exact this
  have hgX : g ≠ X := by
    rintro rfl
    obtain ⟨c2, hc2⟩ := row_block hown (k := g) rfl
    exact type_ne hX hc2 ht rfl
  have hcap : n ≤ cap ∧ cap ≤ 9223372036854775807 := by
    rcases hown.2 with ⟨e0, _⟩ | ⟨g', cap', cur, e0, _, _, q1, q2, _⟩
    · cases e0
    · simp only [Value.slice.injEq] at e0
      obtain ⟨_, _, rfl⟩ := e0
      unfold maxLen at q2
      exact ⟨q1, by omega⟩
  have hpi : (p : Int) < (n : Int) := by omega
  have HC : Hid (∀ w0 w2 : World, w0.heap = w.heap → w0.grownBy w2 (some g) → w2.heap[X]? = some (.cells cs t (0, 0))) := by
    intro w0 w2 h0 hg
    exact (hg.block X (by rw [h0]; exact hXl) (fun e => hgX (Option.some.inj e).symm)).trans (by rw [h0]; exact hX)
  go_enter Try.func57, Try.ntmps57
  go_wp2_with fail
  have H1 : Hid _ := h1
  have HOWN : Hid _ := hown
  clear h1 hown
  have hpc : p ≤ cap := by omega
  have hpc1 : p + 1 ≤ cap := by omega
  have hpn : p + 1 ≤ n := by omega
  have hw1 : IntKind.i64.wrap ((p : Int) + 1) = ((p + 1 : Nat) : Int) := by rw [IntKind.wrap_i64]; omega
  have hi0 : (0 : Int) ≤ (p : Int) + 1 := by omega
  have hi1 : (p : Int) + 1 ≤ (n : Int) := by omega
  have HFIN : Hid (∀ (v' : Value) (w2 : World), w2.ownsRow base 22 1 v' (n - 1) (xs.eraseIdx p) → w.drew.grownBy w2 (some g) → (v'.ownBlock = some g ∨ v'.ownBlock = some w.drew.heap.size) → w2.heap[X]? = some (.cells cs t (0, 0)) → ∃ v'', (w2.setCell ⟨X, j, none⟩ v').ownsRow base 22 1 v'' (n - 1) (xs.eraseIdx p) ∧ (w2.setCell ⟨X, j, none⟩ v').heap[X]? = some (.cells (cs.setIfInBounds j v'') t (0, 0)) ∧ (v''.ownBlock = some g ∨ v''.ownBlock = some w.heap.size) ∧ Mv w (w2.setCell ⟨X, j, none⟩ v') X (some g)) := by
    intro v' w2 ho2 hg2 hat2 hX2
    refine ⟨v', row_stays ho2 fun k hk => ?_, heap_setCell_same _ _ _ _ _ _ hX2, hat2, ?_⟩
    · refine heap_setCell_other _ _ _ _ ?_
      obtain ⟨c2, hc2⟩ := row_block ho2 hk
      exact (type_ne hX2 hc2 ht).symm
    · exact (((show Mv w w.drew X (some g) from ⟨rfl, rfl, rfl, Nat.le_refl _, fun _ _ _ _ => rfl⟩)).grown hg2 (.inr (.inl rfl))).grown (grown_set w2 X j _) (.inr (.inr (.inl rfl)))
  by_cases hcp : cap = p + 1
  · have hcpT : (cap = p + 1) = True := eq_true hcp
    have HN1 : Hid (n = p + 1) := by unfold Hid; omega
    clear hcp
    go_region_law (first
      | (refine step_gone w.drew (by rfl) _ _ (by rfl) base g n cap p xs 0 (cap - (p + 1)) (by rfl) (by rfl) HOWN.out hp hl H1.out hb (.inl HN1.out) ?_; intro v' w2 ho2 hg2 hat2; have hX2 := HC.out w.drew w2 rfl hg2; have k2 : w2.cell? ⟨X, j, none⟩ = some (.slice (some ⟨g, 0, none⟩) n cap) := (Go.Joins.cell_of_block hX2 j).trans hj; have f2 := Go.Joins.unfrozen_of_block hX2 j; obtain ⟨av2, cp2, rfl⟩ := own_shape ho2))
    all_goals
      go_wp2_with fail
      go_ret
      obtain ⟨v3, q3⟩ := HFIN.out _ w2 ho2 hg2 hat2 hX2
      exact ⟨v3, rfl, q3⟩
  · go_region_law (first
      | (refine step_gone w.drew (by rfl) _ _ (by rfl) base g n cap p xs (p + 1) (cap - (p + 1)) (by rfl) (by rfl) HOWN.out hp hl H1.out hb (.inr rfl) ?_; intro v' w2 ho2 hg2 hat2; have hX2 := HC.out w.drew w2 rfl hg2; have k2 : w2.cell? ⟨X, j, none⟩ = some (.slice (some ⟨g, 0, none⟩) n cap) := (Go.Joins.cell_of_block hX2 j).trans hj; have f2 := Go.Joins.unfrozen_of_block hX2 j; obtain ⟨av2, cp2, rfl⟩ := own_shape ho2))
    all_goals
      go_wp2_with fail
      go_ret
      obtain ⟨v3, q3⟩ := HFIN.out _ w2 ho2 hg2 hat2 hX2
      exact ⟨v3, rfl, q3⟩
end Go.Proofs.Ytkamdaadgndmbaa
