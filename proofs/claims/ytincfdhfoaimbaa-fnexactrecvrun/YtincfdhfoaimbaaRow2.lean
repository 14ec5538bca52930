import Derived.Test.YtincfdhfoaimbaaRows1
import Derived.Deep.AppendLies
namespace Go.Proofs.Ytincfdhfoaimbaa
open Go.ChangeShapes Go.WideShapes Go.ChangeAt Go.RowKit
set_option linter.unusedVariables false

abbrev Pairs := List (Int × Int)

/-- The pairs S lie at a, two cells each. -/
def Lie2 (ka kb : IntKind) (w : World) (a : Option Addr) (S : Pairs) : Prop :=
  S = [] ∨ ∃ b off, a = some ⟨b, off, none⟩ ∧ ∀ i, ∀ h : i < S.length, w.cell? ⟨b, off + i * 2, none⟩ = some (.int ka (S[i]).1) ∧ w.cell? ⟨b, off + i * 2 + 1, none⟩ = some (.int kb (S[i]).2)

theorem Lie2.moved {ka kb : IntKind} {w w' : World} {a : Option Addr} {S : Pairs} (h : Lie2 ka kb w a S) (hb : Below w.heap.size w w') : Lie2 ka kb w' a S := by
  rcases h with h | ⟨b, off, ha, hc⟩
  · exact .inl h
  · refine .inr ⟨b, off, ha, fun i hi => ?_⟩
    obtain ⟨h1, h2⟩ := hc i hi
    rw [hb.cell (World.block_lt_of_cell? w _ h1), hb.cell (World.block_lt_of_cell? w _ h2)]
    exact ⟨h1, h2⟩

def flat2 (ka kb : IntKind) (S : Pairs) : List Value := S.flatMap fun p => [.int ka p.1, .int kb p.2]
theorem flat2_length (ka kb : IntKind) (S : Pairs) : (flat2 ka kb S).length = S.length * 2 := by
  induction S with
  | nil => rfl
  | cons p r ih => simp [flat2] at ih ⊢; omega
theorem flat2_append (ka kb : IntKind) (A B : Pairs) : flat2 ka kb (A ++ B) = flat2 ka kb A ++ flat2 ka kb B := by simp [flat2]
theorem flat2_one (ka kb : IntKind) (p : Int × Int) : flat2 ka kb [p] = [.int ka p.1, .int kb p.2] := rfl
theorem flat2_at {ka kb : IntKind} {S : Pairs} {i : Nat} (h : i < S.length) : (flat2 ka kb S)[i * 2]? = some (.int ka (S[i]).1) ∧ (flat2 ka kb S)[i * 2 + 1]? = some (.int kb (S[i]).2) := by
  induction S generalizing i with
  | nil => simp at h
  | cons p r ih =>
    cases i with
    | zero => exact ⟨rfl, rfl⟩
    | succ i =>
      have := ih (i := i) (by simpa using h)
      have e1 : (i + 1) * 2 = i * 2 + 2 := by omega
      have e2 : flat2 ka kb (p :: r) = .int ka p.1 :: .int kb p.2 :: flat2 ka kb r := rfl
      rw [e1, e2]
      simpa using this
theorem flat2_set (ka kb : IntKind) (S : Pairs) (j : Nat) (p : Int × Int) (h : j < S.length) : ((flat2 ka kb S).set (j * 2) (.int ka p.1)).set (j * 2 + 1) (.int kb p.2) = flat2 ka kb (S.set j p) := by
  induction S generalizing j with
  | nil => simp at h
  | cons q r ih =>
    cases j with
    | zero => rfl
    | succ j =>
      have e1 : (j + 1) * 2 = j * 2 + 2 := by omega
      have e2 : flat2 ka kb (q :: r) = .int ka q.1 :: .int kb q.2 :: flat2 ka kb r := rfl
      rw [e1, e2]
      simp only [List.set_cons_succ, show j * 2 + 2 + 1 = (j * 2 + 1) + 1 + 1 by omega]
      rw [ih j (by simpa using h)]
      rfl

theorem Lie2.ofRow {ka kb : IntKind} {w : World} {base : Nat} {e : TypeId} {av : Option Addr} {n cap : Nat} {S : Pairs} (hn : S.length = n) (h : w.ownsRow base e 2 (.slice av n cap) n (flat2 ka kb S)) : Lie2 ka kb w av S := by
  subst hn
  rcases h.2 with ⟨h', h0⟩ | ⟨g, cap', cur, h', rest⟩
  · exact .inl (List.eq_nil_of_length_eq_zero (by omega))
  · simp only [Value.slice.injEq] at h'
    obtain ⟨rfl, _, rfl⟩ := h'
    refine .inr ⟨g, 0, rfl, fun i hi => ?_⟩
    rw [Nat.zero_add, h.cellAt (i * 2) (by omega), h.cellAt (i * 2 + 1) (by omega)]
    exact flat2_at hi

/-- What the walk wants of a place that it stores into. -/
theorem place2 {w : World} {base : Nat} {e : TypeId} {g n cap : Nat} {xs : List Value} (h : w.ownsRow base e 2 (.slice (some ⟨g, 0, none⟩) n cap) n xs) {j : Nat} (hj : j < n) :
    w.frozen? ⟨g, j * 2, none⟩ = false ∧ w.frozen? ⟨g, j * 2 + 1, none⟩ = false ∧ (∃ u, w.cell? ⟨g, j * 2, none⟩ = some u) ∧ ∃ u, w.cell? ⟨g, j * 2 + 1, none⟩ = some u := by
  refine ⟨h.frozenAt _, h.frozenAt _, ?_, ?_⟩
  · rw [h.cellAt (j * 2) (by omega)]
    exact ⟨_, List.getElem?_eq_getElem (by have := h.1; omega)⟩
  · rw [h.cellAt (j * 2 + 1) (by omega)]
    exact ⟨_, List.getElem?_eq_getElem (by have := h.1; omega)⟩

theorem stored2 {ka kb : IntKind} {w : World} {base : Nat} {e : TypeId} {g cap : Nat} {S : Pairs} (h : w.ownsRow base e 2 (.slice (some ⟨g, 0, none⟩) S.length cap) S.length (flat2 ka kb S)) (j : Nat) (hj : j < S.length) (c d : Int) :
    ((w.setCell ⟨g, j * 2, none⟩ (.int ka c)).setCell ⟨g, j * 2 + 1, none⟩ (.int kb d)).ownsRow base e 2 (.slice (some ⟨g, 0, none⟩) S.length cap) S.length (flat2 ka kb (S.set j (c, d))) := by
  have h1 := (h.stored (j * 2) (.int ka c)).1
  have h2 := (h1.stored (j * 2 + 1) (.int kb d)).1
  rwa [flat2_set ka kb S j (c, d) hj] at h2

/-- One append of one pair that lies in block b, in a walk. -/
theorem wpList_app2 {P : Program} (w : World) {ops : Array Oper} {rest : List Oper} {o : Oper} {a : Act} {Q : Exit → Act → World → Prop} (hgd : o.guard = none) (s x : Operand) (t e : TypeId)
    (ho : o.op = .call { callee := .builtin .append, args := #[s, x], argTypes := #[t, t] })
    (ka kb : IntKind) (bytes : Nat) (ht : P.underlying t = some (.slice e)) (hinfo : (P.info? e).map (fun i => (i.zero, i.size, i.bytes)) = some (some (.agg #[.int ka 0, .int kb 0]), 2, bytes)) (hby : bytes ≤ 64)
    (base : Nat) (av : Option Addr) (n cap : Nat) (S : Pairs) (hn : S.length = n) (c d : Int) (hs : a.eval s = .slice av n cap) (hown : w.ownsRow base e 2 (.slice av n cap) n (flat2 ka kb S))
    (b : Nat) (hx : a.eval x = .slice (some ⟨b, 0, none⟩) 1 1) (hc : w.cell? ⟨b, 0, none⟩ = some (.int ka c)) (hd : w.cell? ⟨b, 1, none⟩ = some (.int kb d)) (hl : n ≤ 4294967296) (hbase : base ≤ w.heap.size)
    (h : ∀ g cap' w', w'.ownsRow base e 2 (.slice (some ⟨g, 0, none⟩) (n + 1) cap') (n + 1) (flat2 ka kb (S ++ [(c, d)])) → w.grownBy w' (Value.slice av n cap).ownBlock →
      wpList P ops Q rest (a.put o.dst (.slice (some ⟨g, 0, none⟩) (n + 1) cap')) w') : wpList P ops Q (o :: rest) a w := by
  obtain ⟨i0, hi, hz0, hz1, hz2⟩ := info_parts hinfo
  refine wpList_append_own w hgd s x t ho base e i0 (.agg #[.int ka 0, .int kb 0]) 2 bytes ht hi hz0 hz1 hz2 rfl (by decide) (.slice av n cap) n (flat2 ka kb S) hs hown ⟨b, 0, none⟩ 1 1 [.int ka c, .int kb d] hx rfl ?_ ?_ ?_ ?_ hbase ?_
  · intro j u hj
    match j, hj with
    | 0, hj => simp at hj; subst hj; rw [← hc]; congr 1
    | 1, hj => simp at hj; subst hj; rw [← hd]; congr 1
  · intro u hu; simp at hu; rcases hu with rfl | rfl <;> rfl
  · unfold maxLen; omega
  · have : (n + 1) * bytes ≤ (n + 1) * 64 := Nat.mul_le_mul_left _ hby
    omega
  · intro v' w' h2 h3 h4
    rcases h2.2 with ⟨rfl, h0⟩ | ⟨g, cap', cur, rfl, rest⟩
    · omega
    · exact h g cap' w' (by rw [flat2_append, flat2_one]; exact h2) h3
end Go.Proofs.Ytincfdhfoaimbaa
