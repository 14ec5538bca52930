import Derived.Test.YtincfdhfoaimbaaDrawSub
import Derived.Test.YtincfdhfoaimbaaRunMark
import Derived.Test.YtincfdhfoaimbaaSentMath
import Derived.Test.YtincfdhfoaimbaaRecvI
namespace Go.Proofs.Ytincfdhfoaimbaa
open Go.ChangeShapes Go.WideShapes Go.ChangeAt Go.RowKit
set_option linter.unusedVariables false

/-- A row of events of one's own that is but the beginning of its block. -/
def EvRow (w : World) (base : Nat) (av : Option Addr) (n cap : Nat) (es : Triples) : Prop :=
  (av = none ∧ n = 0 ∧ cap = 0 ∧ es = []) ∨ ∃ g cur, av = some ⟨g, 0, none⟩ ∧ es.length = n ∧ base ≤ g ∧ w.heap[g]? = some (.cells cur 43 (0, 0)) ∧ n ≤ cap ∧ cap * 3 ≤ cur.size ∧ ∀ i, ∀ h : i < es.length, cur[i * 3]? = some (.int .i64 (es[i]).1) ∧ cur[i * 3 + 1]? = some (.int .i64 (es[i]).2.1) ∧ cur[i * 3 + 2]? = some (.int .u32 (es[i]).2.2)
theorem EvRow.owned {w : World} {base : Nat} {av : Option Addr} {n cap m : Nat} {es : Triples} (hn : es.length = n) (h : w.ownsRow base 43 3 (.slice av n cap) n (flat3 .i64 .i64 .u32 es)) (hm : m ≤ n) : EvRow w base av m cap (es.take m) := by
  rcases h.2 with ⟨e, h0⟩ | ⟨g, cap', cur, e, hb, hg, h1, h2, h3, ht⟩
  · simp only [Value.slice.injEq] at e
    obtain ⟨rfl, rfl, rfl⟩ := e
    obtain rfl : m = 0 := by omega
    exact .inl ⟨rfl, rfl, rfl, rfl⟩
  · simp only [Value.slice.injEq] at e
    obtain ⟨rfl, _, rfl⟩ := e
    refine .inr ⟨g, cur, rfl, by rw [List.length_take]; omega, hb, hg, by omega, by omega, fun i hi => ?_⟩
    rw [List.length_take] at hi
    have hk : ∀ j, j < n * 3 → cur[j]? = (flat3 .i64 .i64 .u32 es)[j]? := fun j hj => by
      rw [← ht, List.getElem?_take_of_lt hj, Array.getElem?_toList]
    obtain ⟨f0, f1, f2⟩ := flat3_at (ka := .i64) (kb := .i64) (kc := .u32) (S := es) (i := i) (by omega)
    rw [hk _ (by omega), hk _ (by omega), hk _ (by omega), f0, f1, f2]
    simp
theorem EvRow.lie {w : World} {base : Nat} {av : Option Addr} {n cap : Nat} {es : Triples} (h : EvRow w base av n cap es) : Lie3 .i64 .i64 .u32 w av es := by
  rcases h with ⟨_, _, _, rfl⟩ | ⟨g, cur, rfl, hn, hb, hg, h1, h2, hc⟩
  · exact .inl rfl
  · refine .inr ⟨g, 0, rfl, fun i hi => ?_⟩
    obtain ⟨f0, f1, f2⟩ := hc i hi
    rw [Nat.zero_add, cell_of_row w g _ cur _ (0, 0) hg, cell_of_row w g _ cur _ (0, 0) hg, cell_of_row w g _ cur _ (0, 0) hg]
    exact ⟨f0, f1, f2⟩
theorem EvRow.len {w : World} {base : Nat} {av : Option Addr} {n cap : Nat} {es : Triples} (h : EvRow w base av n cap es) : es.length = n := by
  rcases h with ⟨_, rfl, _, rfl⟩ | ⟨g, cur, rfl, hn, _⟩
  · rfl
  · exact hn
theorem EvRow.lt {w : World} {base : Nat} {av : Option Addr} {n cap : Nat} {es : Triples} (h : EvRow w base av n cap es) : ∀ k, (Value.slice av n cap).ownBlock = some k → base ≤ k ∧ k < w.heap.size ∧ ∃ cs, w.heap[k]? = some (.cells cs 43 (0, 0)) := by
  intro k hk
  rcases h with ⟨rfl, _⟩ | ⟨g, cur, rfl, _, hb, hg, _⟩
  · simp [Value.ownBlock] at hk
  · obtain rfl : g = k := by simpa [Value.ownBlock] using hk
    exact ⟨hb, (Array.getElem?_eq_some_iff.1 hg).1, cur, hg⟩
theorem EvRow.kept {w w' : World} {base : Nat} {av : Option Addr} {n cap : Nat} {es : Triples} (h : EvRow w base av n cap es) (hk : ∀ k, (Value.slice av n cap).ownBlock = some k → w'.heap[k]? = w.heap[k]?) : EvRow w' base av n cap es := by
  rcases h with h | ⟨g, cur, rfl, hn, hb, hg, rest⟩
  · exact .inl h
  · exact .inr ⟨g, cur, rfl, hn, hb, (hk g rfl).trans hg, rest⟩

theorem run_appEv (w : World) (ty : TypeId) (base : Nat) (av : Option Addr) (n cap : Nat) (es : Triples) (k t x : Int) (h : EvRow w base av n cap es) (b : Nat) (hb : w.heap[b]? = some (.cells #[.int .i64 k, .int .i64 t, .int .u32 x] 43 (0, 0))) (hl : n ≤ 1000000) (hbase : base ≤ w.heap.size) :
    ∃ a' cap' w', (Builtin.append_ #[36, 36] ty #[.slice av n cap, .slice (some ⟨b, 0, none⟩) 1 1]).run Try.prog w = .ok (.slice a' (n + 1) cap') w' ∧ Lie3 .i64 .i64 .u32 w' a' (es ++ [(k, t, x)]) ∧ EvRow w' base av n cap es ∧ w.grownBy w' (Value.slice av n cap).ownBlock := by
  obtain ⟨i0, hi, hz0, hz1, hz2⟩ := info_parts info_ev
  have hnews := World.news_of_block (cs := #[.int .i64 k, .int .i64 t, .int .u32 x]) hb
  have hone : ∀ u ∈ [Value.int .i64 k, .int .i64 t, .int .u32 x], u.oneCell' = true := by intro u hu; simp at hu; rcases hu with rfl | rfl | rfl <;> rfl
  have hnone : ∀ v' w', w'.ownsRow w.heap.size 43 3 v' (n + 1) (flat3 .i64 .i64 .u32 es ++ [.int .i64 k, .int .i64 t, .int .u32 x]) → w.grownBy w' none → ∃ a' cap', v' = .slice a' (n + 1) cap' ∧ Lie3 .i64 .i64 .u32 w' a' (es ++ [(k, t, x)]) ∧ EvRow w' base av n cap es ∧ w.grownBy w' (Value.slice av n cap).ownBlock := by
    intro v' w' h1 h2
    obtain ⟨a', cap', rfl⟩ := own_shape h1
    have h3 : w'.ownsRow w.heap.size 43 3 (.slice a' (n + 1) cap') (n + 1) (flat3 .i64 .i64 .u32 (es ++ [(k, t, x)])) := by rw [flat3_append, flat3_one]; exact h1
    exact ⟨a', cap', rfl, Lie3.ofRow (by rw [List.length_append, h.len]; rfl) h3, h.kept fun j hj => h2.block j (h.lt j hj).2.1 (by simp), ⟨h2.os, h2.tape, h2.output, h2.size, fun j hj _ => h2.block j hj (by simp)⟩⟩
  have hh := h
  rcases h with ⟨rfl, rfl, rfl, rfl⟩ | ⟨g, cur, rfl, hn, hbg, hg, h1, h2, hc⟩
  · obtain ⟨v', w', hr, r1, r2, _⟩ := run_append_own (P := Try.prog) w w.heap.size 36 ty 43 i0 (.agg #[.int .i64 0, .int .i64 0, .int .u32 0]) 3 24 Try.underlying36 hi hz0 hz1 hz2 rfl (by decide) (.slice none 0 0) 0 [] (World.ownsRow_nil w _ _ _) ⟨b, 0, none⟩ 1 1 [.int .i64 k, .int .i64 t, .int .u32 x] rfl hnews hone (by unfold maxLen; omega) (by omega) (Nat.le_refl _)
    obtain ⟨a', cap', rfl, q1, q2, q3⟩ := hnone v' w' (by simpa [flat3] using r1) (by simpa [Value.ownBlock] using r2)
    exact ⟨a', cap', w', hr, q1, q2, q3⟩
  · by_cases hr : n + 1 ≤ cap
    · have hsz : n * 3 + 2 < cur.size := by omega
      have hrun := run_append_room_cells (P := Try.prog) w 36 ty 43 i0 Try.underlying36 hi g 0 n cap ⟨b, 0, none⟩ 1 1 [.int .i64 k, .int .i64 t, .int .u32 x] (by rw [hz1]; rfl) hnews hone hr (fun j hj => by
        have hj3 : j < 3 := by simpa using hj
        rw [cell_of_row w g _ cur _ (0, 0) hg, hz1, Array.getElem?_eq_getElem (by omega)]
        rfl) (fun j hj => Go.Joins.unfrozen_of_block hg _)
      rw [hz1, Nat.zero_add] at hrun
      have hw : w.setCells g (n * 3) [.int .i64 k, .int .i64 t, .int .u32 x] = ((w.setCell ⟨g, n * 3, none⟩ (.int .i64 k)).setCell ⟨g, n * 3 + 1, none⟩ (.int .i64 t)).setCell ⟨g, n * 3 + 2, none⟩ (.int .u32 x) := rfl
      rw [hw] at hrun
      have b0 := heap_setCell_same w g (n * 3) cur _ (.int .i64 k) hg
      have b1 := heap_setCell_same _ g (n * 3 + 1) _ _ (.int .i64 t) b0
      have b2 := heap_setCell_same _ g (n * 3 + 2) _ _ (.int .u32 x) b1
      have old : ∀ j, j < n * 3 → (((cur.setIfInBounds (n * 3) (.int .i64 k)).setIfInBounds (n * 3 + 1) (.int .i64 t)).setIfInBounds (n * 3 + 2) (.int .u32 x))[j]? = cur[j]? := fun j hj => by
        rw [Array.getElem?_setIfInBounds_ne (by omega), Array.getElem?_setIfInBounds_ne (by omega), Array.getElem?_setIfInBounds_ne (by omega)]
      refine ⟨_, _, _, hrun, .inr ⟨g, 0, rfl, fun i hi => ?_⟩, .inr ⟨g, _, rfl, hn, hbg, b2, h1, by simpa using h2, fun i hi => ?_⟩, grown_trans (grown_trans (grown_set w g _ _) (grown_set _ g _ _)) (grown_set _ g _ _)⟩
      · rw [Nat.zero_add, cell_of_row _ g _ _ _ (0, 0) b2, cell_of_row _ g _ _ _ (0, 0) b2, cell_of_row _ g _ _ _ (0, 0) b2]
        rw [List.length_append] at hi
        by_cases e : i = n
        · subst e
          have e1 : (es ++ [(k, t, x)])[i] = (k, t, x) := by rw [List.getElem_append_right (by omega)]; simp [hn]
          rw [e1]
          refine ⟨?_, ?_, ?_⟩
          · rw [Array.getElem?_setIfInBounds_ne (by omega), Array.getElem?_setIfInBounds_ne (by omega), Array.getElem?_setIfInBounds_self_of_lt (by omega)]
          · rw [Array.getElem?_setIfInBounds_ne (by omega), Array.getElem?_setIfInBounds_self_of_lt (by simp; omega)]
          · rw [Array.getElem?_setIfInBounds_self_of_lt (by simp; omega)]
        · have hil : i < es.length := by simp at hi; omega
          have e1 : (es ++ [(k, t, x)])[i] = es[i] := List.getElem_append_left hil
          rw [e1, old _ (by omega), old _ (by omega), old _ (by omega)]
          exact hc i hil
      · rw [old _ (by omega), old _ (by omega), old _ (by omega)]
        exact hc i hi
    · have hcell : ∀ j u, (flat3 .i64 .i64 .u32 es)[j]? = some u → w.cell? ((⟨g, 0, none⟩ : Addr).add j) = some u := fun j u hj => by
        have hjl : j < es.length * 3 := by have := (List.getElem?_eq_some_iff.1 hj).1; rw [flat3_length] at this; exact this
        obtain ⟨f0, f1, f2⟩ := flat3_at (ka := .i64) (kb := .i64) (kc := .u32) (S := es) (i := j / 3) (by omega)
        obtain ⟨c0, c1, c2⟩ := hc (j / 3) (by omega)
        rw [Addr.add_lit, Nat.zero_add, cell_of_row w g _ cur _ (0, 0) hg, ← hj]
        rcases (show j = j / 3 * 3 ∨ j = j / 3 * 3 + 1 ∨ j = j / 3 * 3 + 2 by omega) with e | e | e
        · rw [e] at *; simp only [Nat.mul_div_cancel _ (show 0 < 3 by decide)] at *; rw [c0, f0]
        · rw [← e] at c1 f1; rw [c1, f1]
        · rw [← e] at c2 f2; rw [c2, f2]
      obtain ⟨v', w', hrun, r1, r2⟩ := run_append_arg_grows (P := Try.prog) w 36 ty 43 i0 (.agg #[.int .i64 0, .int .i64 0, .int .u32 0]) 3 24 Try.underlying36 hi hz0 hz1 hz2 rfl (by decide) ⟨g, 0, none⟩ n cap (flat3 .i64 .i64 .u32 es) (by rw [flat3_length, hn]) hcell ⟨b, 0, none⟩ 1 1 [.int .i64 k, .int .i64 t, .int .u32 x] rfl hnews (by omega) (by unfold maxLen; omega) (by omega)
      obtain ⟨a', cap', rfl, q1, q2, q3⟩ := hnone v' w' r1 r2
      exact ⟨a', cap', w', hrun, q1, q2, q3⟩

/-- The same in a region that draws. -/
theorem step_appEv (w : World) {ops : Array Oper} {o : Oper} {a : Act} {K : Act → World → Prop} {Q : Exit → Act → World → Prop} {E : Prop} (hgd : o.guard = none) (s y : Operand)
    (ho : o.op = .call { callee := .builtin .append, args := #[s, y], argTypes := #[36, 36] })
    (base : Nat) (av : Option Addr) (n cap : Nat) (es : Triples) (k t x : Int) (hs : a.eval s = .slice av n cap) (hown : EvRow w base av n cap es)
    (b : Nat) (hx : a.eval y = .slice (some ⟨b, 0, none⟩) 1 1) (hb : w.heap[b]? = some (.cells #[.int .i64 k, .int .i64 t, .int .u32 x] 43 (0, 0))) (hl : n ≤ 1000000) (hbase : base ≤ w.heap.size)
    (h : ∀ a' cap' w', Lie3 .i64 .i64 .u32 w' a' (es ++ [(k, t, x)]) → EvRow w' base av n cap es → w.grownBy w' (Value.slice av n cap).ownBlock → K (a.put o.dst (.slice a' (n + 1) cap')) w') :
    if Region.wanted o (yielded ops a.tmps) = true then Oper.wp Try.prog o a w K Q else E := by
  have hw : Region.wanted o (yielded ops a.tmps) = true := by simp [Region.wanted, hgd]
  rw [if_pos hw]
  obtain ⟨a', cap', w', hr, h2, h3, h4⟩ := run_appEv w o.type base av n cap es k t x hown b hb hl hbase
  unfold Oper.wp execOp
  simp only [ho, resolve, invoke, builtin, Sem.run_bind, Sem.run_pure, Result.andThen_ok, List.map_toArray, List.map_cons, List.map_nil, hs, hx, hr]
  exact h a' cap' w' h2 h3 h4

theorem lNums_same (a a' : Option Addr) (zs : List Int) (n cap cap' : Nat) (w : World) (hn : zs.length = n) (hz : Ints .i64 w a zs) (hz' : Ints .i64 w a' zs) (hl : n ≤ 1048576) :
    Calls Try.prog 20 #[.slice a n cap, .slice a' n cap'] w fun e w' => e = .returned (.bool true) ∧ Below w.heap.size w w' := by
  subst hn
  go_enter Try.func20, Try.ntmps20
  go_wp2
  go_loopw [5] (fun i wr => ∃ k : Nat, k ≤ zs.length ∧ i = .int .i64 k ∧ Below w.heap.size w wr) (fun i _ => zs.length - (intOf i).toNat)
  case atStart => exact ⟨0, Nat.zero_le _, rfl, Below.refl _ _⟩
  case round =>
    obtain ⟨k, hk, rfl, hb⟩ := hrel
    by_cases hlt : k < zs.length
    · rcases hz with h | ⟨b, off, rfl, hc⟩
      · simp [h] at hlt
      rcases hz' with h | ⟨b', off', rfl, hc'⟩
      · simp [h] at hlt
      obtain ⟨c, hn⟩ : ∃ c : Int, Hid (zs.getD k 0 = c) := ⟨_, rfl⟩
      have hcell : wr.cell? ⟨b, off + k, none⟩ = some (.int .i64 c) := by rw [hb.cell (World.block_lt_of_cell? w _ (hc k hlt)), hc k hlt, hn.out]
      have hcell' : wr.cell? ⟨b', off' + k, none⟩ = some (.int .i64 c) := by rw [hb.cell (World.block_lt_of_cell? w _ (hc' k hlt)), hc' k hlt, hn.out]
      clear hc hc'
      go_wp2
      go_region
      all_goals
        go_wp2
        go_roundw
        case rel => exact ⟨k + 1, by omega, by go_num, hb.drew⟩
        case measure => simp [intOf]; omega
    · go_wp2
      go_ret
      exact ⟨rfl, hb⟩
end Go.Proofs.Ytincfdhfoaimbaa
