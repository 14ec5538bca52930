import Derived.Test.YtincfdhfoaimbaaRows1
import Derived.Deep.AppendLies
namespace Go.Proofs.Ytincfdhfoaimbaa
open Go.ChangeShapes Go.WideShapes Go.ChangeAt Go.RowKit
set_option linter.unusedVariables false

abbrev Triples := List (Int × Int × Int)

/-- The triples S lie at a, three cells each. -/
def Lie3 (ka kb kc : IntKind) (w : World) (a : Option Addr) (S : Triples) : Prop :=
  S = [] ∨ ∃ b off, a = some ⟨b, off, none⟩ ∧ ∀ i, ∀ h : i < S.length, w.cell? ⟨b, off + i * 3, none⟩ = some (.int ka (S[i]).1) ∧ w.cell? ⟨b, off + i * 3 + 1, none⟩ = some (.int kb (S[i]).2.1) ∧ w.cell? ⟨b, off + i * 3 + 2, none⟩ = some (.int kc (S[i]).2.2)

theorem Lie3.moved {ka kb kc : IntKind} {w w' : World} {a : Option Addr} {S : Triples} (h : Lie3 ka kb kc w a S) (hb : Below w.heap.size w w') : Lie3 ka kb kc w' a S := by
  rcases h with h | ⟨b, off, ha, hc⟩
  · exact .inl h
  · refine .inr ⟨b, off, ha, fun i hi => ?_⟩
    obtain ⟨h1, h2, h3⟩ := hc i hi
    rw [hb.cell (World.block_lt_of_cell? w _ h1), hb.cell (World.block_lt_of_cell? w _ h2), hb.cell (World.block_lt_of_cell? w _ h3)]
    exact ⟨h1, h2, h3⟩

def flat3 (ka kb kc : IntKind) (S : Triples) : List Value := S.flatMap fun p => [.int ka p.1, .int kb p.2.1, .int kc p.2.2]
theorem flat3_length (ka kb kc : IntKind) (S : Triples) : (flat3 ka kb kc S).length = S.length * 3 := by
  induction S with
  | nil => rfl
  | cons p r ih => simp [flat3] at ih ⊢; omega
theorem flat3_append (ka kb kc : IntKind) (A B : Triples) : flat3 ka kb kc (A ++ B) = flat3 ka kb kc A ++ flat3 ka kb kc B := by simp [flat3]
theorem flat3_one (ka kb kc : IntKind) (p : Int × Int × Int) : flat3 ka kb kc [p] = [.int ka p.1, .int kb p.2.1, .int kc p.2.2] := rfl
theorem flat3_at {ka kb kc : IntKind} {S : Triples} {i : Nat} (h : i < S.length) : (flat3 ka kb kc S)[i * 3]? = some (.int ka (S[i]).1) ∧ (flat3 ka kb kc S)[i * 3 + 1]? = some (.int kb (S[i]).2.1) ∧ (flat3 ka kb kc S)[i * 3 + 2]? = some (.int kc (S[i]).2.2) := by
  induction S generalizing i with
  | nil => simp at h
  | cons p r ih =>
    cases i with
    | zero => exact ⟨rfl, rfl, rfl⟩
    | succ i =>
      have := ih (i := i) (by simpa using h)
      have e1 : (i + 1) * 3 = i * 3 + 3 := by omega
      have e2 : flat3 ka kb kc (p :: r) = .int ka p.1 :: .int kb p.2.1 :: .int kc p.2.2 :: flat3 ka kb kc r := rfl
      rw [e1, e2]
      simpa using this
theorem flat3_set (ka kb kc : IntKind) (S : Triples) (j : Nat) (p : Int × Int × Int) (h : j < S.length) : (((flat3 ka kb kc S).set (j * 3) (.int ka p.1)).set (j * 3 + 1) (.int kb p.2.1)).set (j * 3 + 2) (.int kc p.2.2) = flat3 ka kb kc (S.set j p) := by
  induction S generalizing j with
  | nil => simp at h
  | cons q r ih =>
    cases j with
    | zero => rfl
    | succ j =>
      have e1 : (j + 1) * 3 = j * 3 + 3 := by omega
      have e2 : flat3 ka kb kc (q :: r) = .int ka q.1 :: .int kb q.2.1 :: .int kc q.2.2 :: flat3 ka kb kc r := rfl
      rw [e1, e2]
      simp only [List.set_cons_succ, show j * 3 + 3 + 1 = (j * 3 + 1) + 1 + 1 + 1 by omega, show j * 3 + 3 + 2 = (j * 3 + 2) + 1 + 1 + 1 by omega]
      rw [ih j (by simpa using h)]
      rfl

theorem Lie3.ofRow {ka kb kc : IntKind} {w : World} {base : Nat} {e : TypeId} {av : Option Addr} {n cap : Nat} {S : Triples} (hn : S.length = n) (h : w.ownsRow base e 3 (.slice av n cap) n (flat3 ka kb kc S)) : Lie3 ka kb kc w av S := by
  subst hn
  rcases h.2 with ⟨h', h0⟩ | ⟨g, cap', cur, h', rest⟩
  · exact .inl (List.eq_nil_of_length_eq_zero (by omega))
  · simp only [Value.slice.injEq] at h'
    obtain ⟨rfl, _, rfl⟩ := h'
    refine .inr ⟨g, 0, rfl, fun i hi => ?_⟩
    rw [Nat.zero_add, h.cellAt (i * 3) (by omega), h.cellAt (i * 3 + 1) (by omega), h.cellAt (i * 3 + 2) (by omega)]
    exact flat3_at hi

/-- What the walk wants of a place that it stores into. -/
theorem place3 {w : World} {base : Nat} {e : TypeId} {g n cap : Nat} {xs : List Value} (h : w.ownsRow base e 3 (.slice (some ⟨g, 0, none⟩) n cap) n xs) {j : Nat} (hj : j < n) :
    w.frozen? ⟨g, j * 3, none⟩ = false ∧ w.frozen? ⟨g, j * 3 + 1, none⟩ = false ∧ w.frozen? ⟨g, j * 3 + 2, none⟩ = false ∧ (∃ u, w.cell? ⟨g, j * 3, none⟩ = some u) ∧ (∃ u, w.cell? ⟨g, j * 3 + 1, none⟩ = some u) ∧ ∃ u, w.cell? ⟨g, j * 3 + 2, none⟩ = some u := by
  refine ⟨h.frozenAt _, h.frozenAt _, h.frozenAt _, ?_, ?_, ?_⟩
  · rw [h.cellAt (j * 3) (by omega)]
    exact ⟨_, List.getElem?_eq_getElem (by have := h.1; omega)⟩
  · rw [h.cellAt (j * 3 + 1) (by omega)]
    exact ⟨_, List.getElem?_eq_getElem (by have := h.1; omega)⟩
  · rw [h.cellAt (j * 3 + 2) (by omega)]
    exact ⟨_, List.getElem?_eq_getElem (by have := h.1; omega)⟩

theorem stored3 {ka kb kc : IntKind} {w : World} {base : Nat} {e : TypeId} {g cap : Nat} {S : Triples} (h : w.ownsRow base e 3 (.slice (some ⟨g, 0, none⟩) S.length cap) S.length (flat3 ka kb kc S)) (j : Nat) (hj : j < S.length) (c d f : Int) :
    (((w.setCell ⟨g, j * 3, none⟩ (.int ka c)).setCell ⟨g, j * 3 + 1, none⟩ (.int kb d)).setCell ⟨g, j * 3 + 2, none⟩ (.int kc f)).ownsRow base e 3 (.slice (some ⟨g, 0, none⟩) S.length cap) S.length (flat3 ka kb kc (S.set j (c, d, f))) := by
  have h1 := (h.stored (j * 3) (.int ka c)).1
  have h2 := (h1.stored (j * 3 + 1) (.int kb d)).1
  have h3 := (h2.stored (j * 3 + 2) (.int kc f)).1
  rwa [flat3_set ka kb kc S j (c, d, f) hj] at h3

/-- One append of one triple that lies in block b, in a walk. -/
theorem wpList_app3 {P : Program} (w : World) {ops : Array Oper} {rest : List Oper} {o : Oper} {a : Act} {Q : Exit → Act → World → Prop} (hgd : o.guard = none) (s x : Operand) (t e : TypeId)
    (ho : o.op = .call { callee := .builtin .append, args := #[s, x], argTypes := #[t, t] })
    (ka kb kc : IntKind) (bytes : Nat) (ht : P.underlying t = some (.slice e)) (hinfo : (P.info? e).map (fun i => (i.zero, i.size, i.bytes)) = some (some (.agg #[.int ka 0, .int kb 0, .int kc 0]), 3, bytes)) (hby : bytes ≤ 64)
    (base : Nat) (av : Option Addr) (n cap : Nat) (S : Triples) (hn : S.length = n) (c d f : Int) (hs : a.eval s = .slice av n cap) (hown : w.ownsRow base e 3 (.slice av n cap) n (flat3 ka kb kc S))
    (b : Nat) (hx : a.eval x = .slice (some ⟨b, 0, none⟩) 1 1) (hc : w.cell? ⟨b, 0, none⟩ = some (.int ka c)) (hd : w.cell? ⟨b, 1, none⟩ = some (.int kb d)) (hf : w.cell? ⟨b, 2, none⟩ = some (.int kc f)) (hl : n ≤ 4294967296) (hbase : base ≤ w.heap.size)
    (h : ∀ g cap' w', w'.ownsRow base e 3 (.slice (some ⟨g, 0, none⟩) (n + 1) cap') (n + 1) (flat3 ka kb kc (S ++ [(c, d, f)])) → w.grownBy w' (Value.slice av n cap).ownBlock →
      wpList P ops Q rest (a.put o.dst (.slice (some ⟨g, 0, none⟩) (n + 1) cap')) w') : wpList P ops Q (o :: rest) a w := by
  obtain ⟨i0, hi, hz0, hz1, hz2⟩ := info_parts hinfo
  refine wpList_append_own w hgd s x t ho base e i0 (.agg #[.int ka 0, .int kb 0, .int kc 0]) 3 bytes ht hi hz0 hz1 hz2 rfl (by decide) (.slice av n cap) n (flat3 ka kb kc S) hs hown ⟨b, 0, none⟩ 1 1 [.int ka c, .int kb d, .int kc f] hx rfl ?_ ?_ ?_ ?_ hbase ?_
  · intro j u hj
    match j, hj with
    | 0, hj => simp at hj; subst hj; rw [← hc]; congr 1
    | 1, hj => simp at hj; subst hj; rw [← hd]; congr 1
    | 2, hj => simp at hj; subst hj; rw [← hf]; congr 1
  · intro u hu; simp at hu; rcases hu with rfl | rfl | rfl <;> rfl
  · unfold maxLen; omega
  · have : (n + 1) * bytes ≤ (n + 1) * 64 := Nat.mul_le_mul_left _ hby
    omega
  · intro v' w' h2 h3 h4
    rcases h2.2 with ⟨rfl, h0⟩ | ⟨g, cap', cur, rfl, rest⟩
    · omega
    · exact h g cap' w' (by rw [flat3_append, flat3_one]; exact h2) h3
end Go.Proofs.Ytincfdhfoaimbaa
