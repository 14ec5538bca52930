import Derived.Test.YtincfdhfoaimbaaSubModel
import Derived.Test.YtincfdhfoaimbaaRows1
import Derived.ArgAppend
import Derived.Lib.SmallJoins
namespace Go.Proofs.Ytincfdhfoaimbaa
open Go.ChangeShapes Go.WideShapes Go.ChangeAt Go.RowKit
set_option linter.unusedVariables false

/-- A row of numbers of the call's own that may begin amid its block. -/
def Tags (w : World) (base : Nat) (v : Value) (ts : List Int) : Prop :=
  (v = .slice none 0 0 ∧ ts = []) ∨ ∃ g off cap cur, v = .slice (some ⟨g, off, none⟩) ts.length cap ∧ base ≤ g ∧ w.heap[g]? = some (.cells cur 2 (0, 0)) ∧ ts.length ≤ cap ∧ off + cap ≤ cur.size ∧ cap ≤ maxLen ∧ ∀ i, i < ts.length → cur[off + i]? = some (.int .i64 (ts.getD i 0))

theorem Tags.nil (w : World) (base : Nat) : Tags w base (.slice none 0 0) [] := .inl ⟨rfl, rfl⟩
theorem Tags.shape {w : World} {base : Nat} {v : Value} {ts : List Int} (h : Tags w base v ts) : ∃ a cap, v = .slice a ts.length cap ∧ ts.length ≤ cap ∧ cap ≤ maxLen ∧ (a = none → cap = 0) ∧ Ints .i64 w a ts := by
  rcases h with ⟨rfl, rfl⟩ | ⟨g, off, cap, cur, rfl, hb, hg, h1, h2, h3, hc⟩
  · exact ⟨none, 0, rfl, Nat.le_refl _, Nat.zero_le _, fun _ => rfl, .inl rfl⟩
  · refine ⟨some ⟨g, off, none⟩, cap, rfl, h1, h3, (fun h => by cases h), .inr ⟨g, off, rfl, fun i hi => ?_⟩⟩
    rw [cell_of_row w g (off + i) cur _ (0, 0) hg]
    exact hc i hi
theorem Tags.lt {w : World} {base : Nat} {v : Value} {ts : List Int} (h : Tags w base v ts) {k : Nat} (hk : v.ownBlock = some k) : base ≤ k ∧ k < w.heap.size := by
  rcases h with ⟨rfl, rfl⟩ | ⟨g, off, cap, cur, rfl, hb, hg, _⟩
  · cases hk
  · obtain rfl : g = k := by simpa [Value.ownBlock] using hk
    exact ⟨hb, (Array.getElem?_eq_some_iff.1 hg).1⟩
theorem Tags.kept {w w' : World} {base : Nat} {v : Value} {ts : List Int} (h : Tags w base v ts) (hk : ∀ k, v.ownBlock = some k → w'.heap[k]? = w.heap[k]?) : Tags w' base v ts := by
  rcases h with h | ⟨g, off, cap, cur, rfl, hb, hg, rest⟩
  · exact .inl h
  · exact .inr ⟨g, off, cap, cur, rfl, hb, (hk g rfl).trans hg, rest⟩
theorem Tags.base {w : World} {base b2 : Nat} {v : Value} {ts : List Int} (h : Tags w base v ts) (hb2 : b2 ≤ base) : Tags w b2 v ts := by
  rcases h with h | ⟨g, off, cap, cur, rfl, hb, rest⟩
  · exact .inl h
  · exact .inr ⟨g, off, cap, cur, rfl, Nat.le_trans hb2 hb, rest⟩
/-- Of a row that is owned. -/
theorem Tags.owned {w : World} {base : Nat} {v : Value} {n : Nat} {ts : List Int} (h : w.ownsRow base 2 1 v n (ts.map (.int .i64))) : Tags w base v ts := by
  have hl : ts.length = n := owned_length h
  rcases h.2 with ⟨rfl, rfl⟩ | ⟨g, cap, cur, rfl, hb, hg, h1, h2, h3, ht⟩
  · exact .inl ⟨rfl, List.eq_nil_of_length_eq_zero hl⟩
  · subst hl
    refine .inr ⟨g, 0, cap, cur, rfl, hb, hg, h1, by omega, h2, fun i hi => ?_⟩
    have h4 : (cur.toList.take (ts.length * 1))[i]? = (ts.map (.int .i64))[i]? := by rw [ht]
    rw [Nat.mul_one, List.getElem?_take_of_lt hi] at h4
    rw [Nat.zero_add, ← Array.getElem?_toList, h4]
    simp [hi]
/-- Its elder part and its younger part. -/
theorem Tags.drop {w : World} {base : Nat} {a : Option Addr} {n cap : Nat} {ts : List Int} (h : Tags w base (.slice a n cap) ts) (k : Nat) (hk : k ≤ ts.length) : Tags w base (.slice (if cap = k then a else a.map (·.add k)) (n - k) (cap - k)) (ts.drop k) := by
  rcases h with ⟨h1, rfl⟩ | ⟨g, off, cap, cur, h1, hb, hg, h2, h3, h4, hc⟩
  · simp only [Value.slice.injEq] at h1
    obtain ⟨rfl, rfl, rfl⟩ := h1
    obtain rfl : k = 0 := by simpa using hk
    exact .inl ⟨by simp, by simp⟩
  · simp only [Value.slice.injEq] at h1
    obtain ⟨rfl, rfl, rfl⟩ := h1
    by_cases e : cap = k
    · subst e
      rw [if_pos rfl]
      have e2 : ts.length = cap := by omega
      refine .inr ⟨g, off, cap - cap, cur, by simp, hb, hg, by simp; omega, by omega, by omega, fun i hi => ?_⟩
      simp at hi
      omega
    · rw [if_neg e]
      refine .inr ⟨g, off + k, cap - k, cur, by simp [Addr.add_lit], hb, hg, by simp; omega, by omega, by omega, fun i hi => ?_⟩
      simp at hi
      rw [show off + k + i = off + (k + i) by omega, hc (k + i) (by omega)]
      simp

theorem info_i64 : (Try.prog.info? 2).map (fun i => (i.zero, i.size, i.bytes)) = some (some (.int .i64 0), 1, 8) := by kernel_rfl

/-- One more number behind the row: where it lies, or in a block that is new. -/
theorem wpList_appTag (w : World) {ops : Array Oper} {rest : List Oper} {o : Oper} {a : Act} {Q : Exit → Act → World → Prop} (hgd : o.guard = none) (s x : Operand)
    (ho : o.op = .call { callee := .builtin .append, args := #[s, x], argTypes := #[44, 44] })
    (base : Nat) (v : Value) (ts : List Int) (c : Int) (hs : a.eval s = v) (hown : Tags w base v ts)
    (ad : Addr) (hx : a.eval x = .slice (some ad) 1 1) (hnew : w.cell? ad = some (.int .i64 c)) (hl : ts.length ≤ 4294967296) (hbase : base ≤ w.heap.size)
    (h : ∀ v' w', Tags w' base v' (ts ++ [c]) → w.grownBy w' v.ownBlock → (v'.ownBlock = v.ownBlock ∨ ∀ k, v'.ownBlock = some k → w.heap.size ≤ k) →
      wpList Try.prog ops Q rest (a.put o.dst v') w') : wpList Try.prog ops Q (o :: rest) a w := by
  obtain ⟨i0, hi, hz0, hz1, hz2⟩ := info_parts info_i64
  have hnews : ∀ j u, [Value.int .i64 c][j]? = some u → w.cell? (ad.add j) = some u := by
    intro j u hj
    match j, hj with
    | 0, hj => simp at hj; subst hj; rw [← hnew]; congr 1
  have hone : ∀ u ∈ [Value.int .i64 c], u.oneCell' = true := by intro u hu; simp at hu; subst hu; rfl
  have hnone : ∀ v' w', w'.ownsRow w.heap.size 2 1 v' (ts.length + 1) (ts.map (.int .i64) ++ [.int .i64 c]) → w.grownBy w' none → wpList Try.prog ops Q rest (a.put o.dst v') w' := by
    intro v' w' h1 h2
    have h3 : w'.ownsRow w.heap.size 2 1 v' (ts.length + 1) ((ts ++ [c]).map (.int .i64)) := by simpa using h1
    exact h v' w' ((Tags.owned h3).base hbase) ⟨h2.os, h2.tape, h2.output, h2.size, fun k hk _ => h2.block k hk (by simp)⟩ (.inr fun k hk => (h3.lt k hk).1)
  rcases hown with ⟨rfl, rfl⟩ | ⟨g, off, cap, cur, rfl, hb, hg, h1, h2, h3, hc⟩
  · exact wpList_append_grows w hgd s x 44 ho 2 i0 (.int .i64 0) 1 8 Try.underlying44 hi hz0 hz1 hz2 rfl (by decide) none 0 0 [] hs (fun _ => ⟨rfl, rfl⟩) rfl (fun b hb => by cases hb) ad 1 1 [.int .i64 c] hx rfl hnews hone (by omega) (by unfold maxLen; omega) (by omega) (by simpa using hnone)
  · have hcell : ∀ i, i < ts.length → w.cell? ⟨g, off + i, none⟩ = some (.int .i64 (ts.getD i 0)) := fun i hi => by
      rw [cell_of_row w g (off + i) cur _ (0, 0) hg]
      exact hc i hi
    refine wpList_append_arg w hgd s x 44 ho 2 i0 (.int .i64 0) 1 8 Try.underlying44 hi hz0 hz1 hz2 rfl (by decide) g off ts.length cap (ts.map (.int .i64)) hs (by simp) ?_ ad 1 1 [.int .i64 c] hx rfl hnews hone ?_ (by unfold maxLen; omega) (by omega) ?_ ?_
    · intro j u hj
      by_cases hjl : j < ts.length
      · rw [hcell j hjl]
        rw [← hj]
        simp [hjl]
      · simp [hjl] at hj
    · intro hr j hj
      simp at hj
      subst hj
      refine ⟨?_, Go.Joins.unfrozen_of_block hg _⟩
      rw [cell_of_row w g _ cur _ (0, 0) hg, Nat.mul_one, Nat.add_zero, Array.getElem?_eq_getElem (by omega)]
      rfl
    · intro hr
      rw [Nat.mul_one]
      show wpList Try.prog ops Q rest _ (w.setCell ⟨g, off + ts.length, none⟩ (.int .i64 c))
      refine h _ _ (.inr ⟨g, off, cap, cur.setIfInBounds (off + ts.length) (.int .i64 c), by simp, hb, heap_setCell_same w g _ cur _ _ hg, by simpa using hr, by simpa using h2, h3, fun i hi => ?_⟩) (grown_set w g _ _) (.inl rfl)
      simp at hi
      by_cases e : i = ts.length
      · subst e
        rw [Array.getElem?_setIfInBounds_self_of_lt (by omega)]
        simp
      · rw [Array.getElem?_setIfInBounds_ne (by omega), hc i (by omega)]
        have hil : i < ts.length := by omega
        rw [List.getD_eq_getElem?_getD, List.getD_eq_getElem?_getD, List.getElem?_append_left hil]
    · intro _ v' w' r1 r2
      exact hnone v' w' r1 r2

theorem run_appTag (w : World) (ty : TypeId) (base : Nat) (v : Value) (ts : List Int) (c : Int) (hown : Tags w base v ts)
    (ad : Addr) (hnew : w.cell? ad = some (.int .i64 c)) (hl : ts.length ≤ 4294967296) (hbase : base ≤ w.heap.size) :
    ∃ v' w', (Builtin.append_ #[44, 44] ty #[v, .slice (some ad) 1 1]).run Try.prog w = .ok v' w' ∧ Tags w' base v' (ts ++ [c]) ∧ w.grownBy w' v.ownBlock ∧ (v'.ownBlock = v.ownBlock ∨ ∀ k, v'.ownBlock = some k → w.heap.size ≤ k) := by
  obtain ⟨i0, hi, hz0, hz1, hz2⟩ := info_parts info_i64
  have hnews : ∀ j u, [Value.int .i64 c][j]? = some u → w.cell? (ad.add j) = some u := by
    intro j u hj
    match j, hj with
    | 0, hj => simp at hj; subst hj; rw [← hnew]; congr 1
  have hone : ∀ u ∈ [Value.int .i64 c], u.oneCell' = true := by intro u hu; simp at hu; subst hu; rfl
  have hnone : ∀ v' w', w'.ownsRow w.heap.size 2 1 v' (ts.length + 1) (ts.map (.int .i64) ++ [.int .i64 c]) → w.grownBy w' none → Tags w' base v' (ts ++ [c]) ∧ w.grownBy w' v.ownBlock ∧ (v'.ownBlock = v.ownBlock ∨ ∀ k, v'.ownBlock = some k → w.heap.size ≤ k) := by
    intro v' w' h1 h2
    have h3 : w'.ownsRow w.heap.size 2 1 v' (ts.length + 1) ((ts ++ [c]).map (.int .i64)) := by simpa using h1
    exact ⟨(Tags.owned h3).base hbase, ⟨h2.os, h2.tape, h2.output, h2.size, fun k hk _ => h2.block k hk (by simp)⟩, .inr fun k hk => (h3.lt k hk).1⟩
  rcases hown with ⟨rfl, rfl⟩ | ⟨g, off, cap, cur, rfl, hb, hg, h1, h2, h3, hc⟩
  · obtain ⟨v', w', hr, r1, r2, _⟩ := run_append_own (P := Try.prog) w w.heap.size 44 ty 2 i0 (.int .i64 0) 1 8 Try.underlying44 hi hz0 hz1 hz2 rfl (by decide) (.slice none 0 0) 0 [] (World.ownsRow_nil w _ _ _) ad 1 1 [.int .i64 c] rfl hnews hone (by unfold maxLen; omega) (by omega) (Nat.le_refl _)
    exact ⟨v', w', hr, hnone v' w' (by simpa using r1) (by simpa [Value.ownBlock] using r2)⟩
  · have hcell : ∀ i, i < ts.length → w.cell? ⟨g, off + i, none⟩ = some (.int .i64 (ts.getD i 0)) := fun i hi => by
      rw [cell_of_row w g (off + i) cur _ (0, 0) hg]
      exact hc i hi
    by_cases hr : ts.length + 1 ≤ cap
    · have hrun := run_append_room_cells (P := Try.prog) w 44 ty 2 i0 Try.underlying44 hi g off ts.length cap ad 1 1 [.int .i64 c] (by rw [hz1]; rfl) hnews hone hr (fun j hj => by
        simp at hj
        subst hj
        rw [cell_of_row w g _ cur _ (0, 0) hg, hz1, Nat.mul_one, Nat.add_zero, Array.getElem?_eq_getElem (by omega)]
        rfl) (fun j hj => Go.Joins.unfrozen_of_block hg _)
      rw [hz1, Nat.mul_one] at hrun
      refine ⟨_, _, hrun, .inr ⟨g, off, cap, cur.setIfInBounds (off + ts.length) (.int .i64 c), by simp, hb, heap_setCell_same w g _ cur _ _ hg, by simpa using hr, by simpa using h2, h3, fun i hi => ?_⟩, grown_set w g _ _, .inl rfl⟩
      simp at hi
      by_cases e : i = ts.length
      · subst e
        rw [Array.getElem?_setIfInBounds_self_of_lt (by omega)]
        simp
      · rw [Array.getElem?_setIfInBounds_ne (by omega), hc i (by omega)]
        have hil : i < ts.length := by omega
        rw [List.getD_eq_getElem?_getD, List.getD_eq_getElem?_getD, List.getElem?_append_left hil]
    · obtain ⟨v', w', hrun, r1, r2⟩ := run_append_arg_grows (P := Try.prog) w 44 ty 2 i0 (.int .i64 0) 1 8 Try.underlying44 hi hz0 hz1 hz2 rfl (by decide) ⟨g, off, none⟩ ts.length cap (ts.map (.int .i64)) (by simp) (fun j u hj => by
        have hjl : j < ts.length := by simpa using (List.getElem?_eq_some_iff.1 hj).1
        rw [Addr.add_lit, hcell j hjl, ← hj]
        simp [hjl]) ad 1 1 [.int .i64 c] rfl hnews (by omega) (by unfold maxLen; omega) (by omega)
      exact ⟨v', w', hrun, hnone v' w' r1 r2⟩

/-- The same in a region that draws. -/
theorem step_appTag (w : World) {ops : Array Oper} {o : Oper} {a : Act} {K : Act → World → Prop} {Q : Exit → Act → World → Prop} {E : Prop} (hgd : o.guard = none) (s x : Operand)
    (ho : o.op = .call { callee := .builtin .append, args := #[s, x], argTypes := #[44, 44] })
    (base : Nat) (v : Value) (ts : List Int) (c : Int) (hs : a.eval s = v) (hown : Tags w base v ts)
    (ad : Addr) (hx : a.eval x = .slice (some ad) 1 1) (hnew : w.cell? ad = some (.int .i64 c)) (hl : ts.length ≤ 4294967296) (hbase : base ≤ w.heap.size)
    (h : ∀ v' w', Tags w' base v' (ts ++ [c]) → w.grownBy w' v.ownBlock → (v'.ownBlock = v.ownBlock ∨ ∀ k, v'.ownBlock = some k → w.heap.size ≤ k) → K (a.put o.dst v') w') :
    if Region.wanted o (yielded ops a.tmps) = true then Oper.wp Try.prog o a w K Q else E := by
  have hw : Region.wanted o (yielded ops a.tmps) = true := by simp [Region.wanted, hgd]
  rw [if_pos hw]
  obtain ⟨v', w', hr, h2, h3, h4⟩ := run_appTag w o.type base v ts c hown ad hnew hl hbase
  unfold Oper.wp execOp
  simp only [ho, resolve, invoke, builtin, Sem.run_bind, Sem.run_pure, Result.andThen_ok, List.map_toArray, List.map_cons, List.map_nil, hs, hx, hr]
  exact h v' w' h2 h3 h4
end Go.Proofs.Ytincfdhfoaimbaa
