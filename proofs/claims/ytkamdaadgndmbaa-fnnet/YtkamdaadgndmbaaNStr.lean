import Derived.Test.YtkamdaadgndmbaaNList
namespace Go.Proofs.Ytkamdaadgndmbaa
open Go.ChangeShapes Go.WideShapes Go.ChangeAt Go.RowKit
set_option linter.unusedVariables false

/-! ### Strings of bytes -/
def strOf (zs : List Int) : ByteArray := zs.foldl (fun r n => r.push (UInt8.ofNat n.toNat)) ByteArray.empty
theorem ints_cellsN {w : World} {b off : Nat} {zs : List Int} (hc : ∀ i, i < zs.length → w.cell? ⟨b, off + i, none⟩ = some (.int .u8 (zs.getD i 0))) : ∀ j u, (zs.map (Value.int .u8))[j]? = some u → w.cell? ((⟨b, off, none⟩ : Addr).add j) = some u := by
  intro j u hj
  rw [List.getElem?_map] at hj
  cases hz : zs[j]? with
  | none => rw [hz] at hj; simp at hj
  | some x =>
    rw [hz] at hj
    simp at hj
    have hl : j < zs.length := (List.getElem?_eq_some_iff.1 hz).1
    have h := hc j hl
    have add : (⟨b, off, none⟩ : Addr).add j = ⟨b, off + j, none⟩ := by
      unfold Addr.add
      split <;> simp_all
    rw [add, h, ← hj, List.getD_eq_getElem?_getD, hz]
    rfl
theorem toString_any (a : Option Addr) (zs : List Int) (len cap : Nat) (w : World) (h : Ints .u8 w a zs) (hl : zs.length = len) : (convert 22 9 (.slice a len cap)).run Try.prog w = .ok (.string (strOf zs)) w := by
  rw [run_convert_bytes_string w 22 9 5 _ len cap Try.underlying22 Try.underlying5 Try.underlying9]
  rcases h with rfl | ⟨b, off, rfl, hc⟩
  · simp at hl
    subst hl
    cases a with
    | none => rfl
    | some x =>
      have := run_loadCells_list (P := Try.prog) (w := w) x [] (by simp)
      exact run_bytesToString w x 0 cap [] this
  · have := run_loadCells_list (P := Try.prog) (w := w) ⟨b, off, none⟩ (zs.map (.int .u8)) (ints_cellsN hc)
    rw [List.length_map, hl] at this
    exact run_bytesToString w _ len cap zs this

/-! ### Appends -/
theorem info_i64n : (Try.prog.info? 2).map (fun i => (i.zero, i.size, i.bytes)) = some (some (.int .i64 0), 1, 8) := by kernel_rfl
theorem info_bss : (Try.prog.info? 38).map (fun i => (i.zero, i.size, i.bytes)) = some (some (.slice none 0 0), 1, 24) := by kernel_rfl
theorem news1 {w : World} {b : Nat} {u : Value} {t : TypeId} {f : Nat × Nat} (hb : w.heap[b]? = some (.cells #[u] t f)) : ∀ j x, [u][j]? = some x → w.cell? ((⟨b, 0, none⟩ : Addr).add j) = some x := by
  intro j x hj
  match j, hj with
  | 0, hj => simp at hj; subst hj; exact Go.Joins.cell_of_block hb 0
/-- One append of one row of bytes that lies in block b, in a walk. -/
theorem wpList_appV (w : World) {ops : Array Oper} {rest : List Oper} {o : Oper} {a : Act} {Q : Exit → Act → World → Prop} (hgd : o.guard = none) (s x : Operand)
    (ho : o.op = .call { callee := .builtin .append, args := #[s, x], argTypes := #[38, 38] })
    (base : Nat) (av : Option Addr) (n cap : Nat) (xs : List Value) (hs : a.eval s = .slice av n cap) (hown : w.ownsRow base 22 1 (.slice av n cap) n xs)
    (b : Nat) (u : Value) (hx : a.eval x = .slice (some ⟨b, 0, none⟩) 1 1) (hb : w.heap[b]? = some (.cells #[u] 22 (0, 0))) (h1 : u.oneCell' = true) (hl : n ≤ 1048576) (hbase : base ≤ w.heap.size)
    (h : ∀ g cap' w', w'.ownsRow base 22 1 (.slice (some ⟨g, 0, none⟩) (n + 1) cap') (n + 1) (xs ++ [u]) → w.grownBy w' (Value.slice av n cap).ownBlock → ((Value.slice av n cap).ownBlock = some g ∨ g = w.heap.size) →
      wpList Try.prog ops Q rest (a.put o.dst (.slice (some ⟨g, 0, none⟩) (n + 1) cap')) w') : wpList Try.prog ops Q (o :: rest) a w := by
  obtain ⟨i0, hi, hz0, hz1, hz2⟩ := info_parts info_bs
  exact wpList_append_lies w hgd s x 38 ho base 22 i0 (.slice none 0 0) 1 24 Try.underlying38 hi hz0 hz1 hz2 rfl (by decide) (.slice av n cap) n xs hs hown ⟨b, 0, none⟩ 1 1 [u] hx rfl (news1 hb) (by intro y hy; simp at hy; subst hy; exact h1) (by omega) (by unfold maxLen; omega) (by omega) hbase w.heap.size rfl fun g cap' w' h2 h3 h4 _ => h g cap' w' h2 h3 h4
/-- The same at a step of a region that draws. -/
theorem step_appV (w : World) {ops : Array Oper} {o : Oper} {a : Act} {K : Act → World → Prop} {Q : Exit → Act → World → Prop} {E : Prop} (hgd : o.guard = none) (s x : Operand)
    (ho : o.op = .call { callee := .builtin .append, args := #[s, x], argTypes := #[38, 38] })
    (base : Nat) (av : Option Addr) (n cap : Nat) (xs : List Value) (hs : a.eval s = .slice av n cap) (hown : w.ownsRow base 22 1 (.slice av n cap) n xs)
    (b : Nat) (u : Value) (hx : a.eval x = .slice (some ⟨b, 0, none⟩) 1 1) (hb : w.heap[b]? = some (.cells #[u] 22 (0, 0))) (h1 : u.oneCell' = true) (hl : n ≤ 1048576) (hbase : base ≤ w.heap.size)
    (h : ∀ g cap' w', w'.ownsRow base 22 1 (.slice (some ⟨g, 0, none⟩) (n + 1) cap') (n + 1) (xs ++ [u]) → w.grownBy w' (Value.slice av n cap).ownBlock → ((Value.slice av n cap).ownBlock = some g ∨ g = w.heap.size) → K (a.put o.dst (.slice (some ⟨g, 0, none⟩) (n + 1) cap')) w') :
    if Region.wanted o (yielded ops a.tmps) = true then Oper.wp Try.prog o a w K Q else E := by
  obtain ⟨i0, hi, hz0, hz1, hz2⟩ := info_parts info_bs
  exact step_append_lies w hgd s x 38 ho base 22 i0 (.slice none 0 0) 1 24 Try.underlying38 hi hz0 hz1 hz2 rfl (by decide) (.slice av n cap) n xs hs hown ⟨b, 0, none⟩ 1 1 [u] hx rfl (news1 hb) (by intro y hy; simp at hy; subst hy; exact h1) (by omega) (by unfold maxLen; omega) (by omega) hbase w.heap.size rfl fun g cap' w' h2 h3 h4 _ => h g cap' w' h2 h3 h4
/-- One append of nil to the lists. -/
theorem wpList_appL (w : World) {ops : Array Oper} {rest : List Oper} {o : Oper} {a : Act} {Q : Exit → Act → World → Prop} (hgd : o.guard = none) (s x : Operand)
    (ho : o.op = .call { callee := .builtin .append, args := #[s, x], argTypes := #[32, 32] })
    (base : Nat) (av : Option Addr) (n cap : Nat) (xs : List Value) (hs : a.eval s = .slice av n cap) (hown : w.ownsRow base 38 1 (.slice av n cap) n xs)
    (b : Nat) (u : Value) (hx : a.eval x = .slice (some ⟨b, 0, none⟩) 1 1) (hb : w.heap[b]? = some (.cells #[u] 38 (0, 0))) (h1 : u.oneCell' = true) (hl : n ≤ 1048576) (hbase : base ≤ w.heap.size)
    (h : ∀ g cap' w', w'.ownsRow base 38 1 (.slice (some ⟨g, 0, none⟩) (n + 1) cap') (n + 1) (xs ++ [u]) → w.grownBy w' (Value.slice av n cap).ownBlock →
      wpList Try.prog ops Q rest (a.put o.dst (.slice (some ⟨g, 0, none⟩) (n + 1) cap')) w') : wpList Try.prog ops Q (o :: rest) a w := by
  obtain ⟨i0, hi, hz0, hz1, hz2⟩ := info_parts info_bss
  exact wpList_append_lies w hgd s x 32 ho base 38 i0 (.slice none 0 0) 1 24 Try.underlying32 hi hz0 hz1 hz2 rfl (by decide) (.slice av n cap) n xs hs hown ⟨b, 0, none⟩ 1 1 [u] hx rfl (news1 hb) (by intro y hy; simp at hy; subst hy; exact h1) (by omega) (by unfold maxLen; omega) (by omega) hbase w.heap.size rfl fun g cap' w' h2 h3 _ _ => h g cap' w' h2 h3
end Go.Proofs.Ytkamdaadgndmbaa
