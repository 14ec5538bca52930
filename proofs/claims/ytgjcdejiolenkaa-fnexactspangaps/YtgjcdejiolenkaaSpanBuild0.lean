import Derived.Test.YtgjcdejiolenkaaSpanPoints
import Derived.Deep.RegionHeld3
import Derived.Deep.AppendLies
namespace Go.Proofs.Ytgjcdejiolenkaa
open Go.ChangeShapes Go.WideShapes Go.ChangeAt Go.RowKit
set_option linter.unusedVariables false

/-- One append of one span that lies in block b, in a walk. -/
theorem wpList_appS (w : World) {ops : Array Oper} {rest : List Oper} {o : Oper} {a : Act} {Q : Exit → Act → World → Prop} (hgd : o.guard = none) (s x : Operand)
    (ho : o.op = .call { callee := .builtin .append, args := #[s, x], argTypes := #[29, 29] })
    (base : Nat) (av : Option Addr) (n cap : Nat) (S : Sp) (hn : S.length = n) (c d : Int) (hs : a.eval s = .slice av n cap) (hown : w.ownsRow base 31 2 (.slice av n cap) n (flat S))
    (b : Nat) (hx : a.eval x = .slice (some ⟨b, 0, none⟩) 1 1) (hc : w.cell? ⟨b, 0, none⟩ = some (.int .u64 c)) (hd : w.cell? ⟨b, 1, none⟩ = some (.int .u64 d)) (hl : n ≤ 4294967296) (hbase : base ≤ w.heap.size)
    (h : ∀ g cap' w', w'.ownsRow base 31 2 (.slice (some ⟨g, 0, none⟩) (n + 1) cap') (n + 1) (flat (S ++ [(c, d)])) → w.grownBy w' (Value.slice av n cap).ownBlock →
      wpList Try.prog ops Q rest (a.put o.dst (.slice (some ⟨g, 0, none⟩) (n + 1) cap')) w') : wpList Try.prog ops Q (o :: rest) a w := by
  obtain ⟨i0, hi, hz0, hz1, hz2⟩ := info_parts info_span
  refine wpList_append_own w hgd s x 29 ho base 31 i0 (.agg #[.int .u64 0, .int .u64 0]) 2 16 Try.underlying29 hi hz0 hz1 hz2 rfl (by decide) (.slice av n cap) n (flat S) hs hown ⟨b, 0, none⟩ 1 1 [.int .u64 c, .int .u64 d] hx rfl ?_ ?_ ?_ ?_ hbase ?_
  · intro j u hj
    match j, hj with
    | 0, hj => simp at hj; subst hj; rw [← hc]; congr 1
    | 1, hj => simp at hj; subst hj; rw [← hd]; congr 1
  · intro u hu; simp at hu; rcases hu with rfl | rfl <;> rfl
  · unfold maxLen; omega
  · omega
  · intro v' w' h2 h3 h4
    rcases h2.2 with ⟨rfl, h0⟩ | ⟨g, cap', cur, rfl, rest⟩
    · omega
    · exact h g cap' w' (by rw [flat_append, flat_one]; exact h2) h3

theorem Spans.ofRow {w : World} {base : Nat} {e : TypeId} {av : Option Addr} {n cap : Nat} {S : Sp} (hn : S.length = n) (h : w.ownsRow base e 2 (.slice av n cap) n (flat S)) : Spans w av S := by
  subst hn
  rcases h.2 with ⟨h', h0⟩ | ⟨g, cap', cur, h', rest⟩
  · exact .inl (List.eq_nil_of_length_eq_zero (by omega))
  · simp only [Value.slice.injEq] at h'
    obtain ⟨rfl, _, rfl⟩ := h'
    exact Spans.owned h

/-- The last span's end is stored anew. -/
theorem storedHi {w : World} {base : Nat} {e : TypeId} {g n cap : Nat} {L : Sp} {u v : Int} (hn : n = L.length + 1) (h : w.ownsRow base e 2 (.slice (some ⟨g, 0, none⟩) n cap) n (flat (L ++ [(u, v)]))) (y : Int) :
    (w.setCell ⟨g, L.length * 2 + 1, none⟩ (.int .u64 y)).ownsRow base e 2 (.slice (some ⟨g, 0, none⟩) n cap) n (flat (L ++ [(u, y)])) := by
  have h1 := (h.stored (L.length * 2 + 1) (.int .u64 y)).1
  have e : (flat (L ++ [(u, v)])).set (L.length * 2 + 1) (.int .u64 y) = flat (L ++ [(u, y)]) := by
    rw [flat_append, flat_append, List.set_append, flat_length, if_neg (by omega), flat_one, flat_one]
    have e2 : L.length * 2 + 1 - L.length * 2 = 1 := by omega
    rw [e2]
    rfl
  rwa [e] at h1

theorem lastCells {w : World} {base : Nat} {e : TypeId} {g n cap : Nat} {L : Sp} {u v : Int} (hn : n = L.length + 1) (h : w.ownsRow base e 2 (.slice (some ⟨g, 0, none⟩) n cap) n (flat (L ++ [(u, v)]))) :
    w.cell? ⟨g, L.length * 2 + 1, none⟩ = some (.int .u64 v) ∧ w.frozen? ⟨g, L.length * 2 + 1, none⟩ = false := by
  refine ⟨?_, h.frozenAt _⟩
  rw [h.cellAt _ (by omega)]
  have := (flat_at (S := L ++ [(u, v)]) (i := L.length) (by simp)).2
  simpa using this

theorem specInAs (a : Option Addr) (S : Sp) (n cap : Nat) (hn : S.length = n) (x : Int) (b : Bool) (w : World) (hS : Spans w a S) (hf : Fits S) (hl : S.length ≤ 1048576) (x0 : 0 ≤ x) (x1 : x ≤ 18446744073709551615) (hb : inB x S = b) :
    Calls Try.prog 40 #[.slice a n cap, .int .u64 x] w fun e w' => e = .returned (.bool b) ∧ w' = w := by
  subst hb hn
  exact specIn a S cap x w hS hf hl x0 x1

theorem buildTo_yes {P : List Int} {pass : Int → Bool} {k : Nat} {x y : Int} (hx : P.getD k 0 = x) (hy : P.getD (k + 1) 0 = y) (h : pass x = true) : buildTo P pass (k + 1) = addOn (buildTo P pass k) x y := by
  conv => lhs; unfold buildTo
  rw [hx, hy, if_pos h]
theorem buildTo_no {P : List Int} {pass : Int → Bool} {k : Nat} {x : Int} (hx : P.getD k 0 = x) (h : pass x = false) : buildTo P pass (k + 1) = buildTo P pass k := by
  conv => lhs; unfold buildTo
  rw [hx, if_neg (by rw [h]; simp)]
theorem addOn_nil (lo hi : Int) : addOn [] lo hi = [] ++ [(lo, hi)] := rfl
theorem addOn_touch {L : Sp} {u v lo hi : Int} (h : v = lo) : addOn (L ++ [(u, v)]) lo hi = L ++ [(u, hi)] := by
  rcases addOn_cases (L ++ [(u, v)]) lo hi with ⟨h0, _⟩ | ⟨A, p, h0, ⟨_, h1⟩ | ⟨e, h1⟩⟩
  · simp at h0
  · have := List.append_inj' h0 rfl
    obtain ⟨rfl, h2⟩ := this
    simp at h2
    subst h2
    exact h1
  · have := List.append_inj' h0 rfl
    obtain ⟨rfl, h2⟩ := this
    simp at h2
    subst h2
    exact absurd h e
theorem addOn_apart {L : Sp} {u v lo hi : Int} (h : v ≠ lo) : addOn (L ++ [(u, v)]) lo hi = L ++ [(u, v)] ++ [(lo, hi)] := by
  rcases addOn_cases (L ++ [(u, v)]) lo hi with ⟨h0, _⟩ | ⟨A, p, h0, ⟨e, h1⟩ | ⟨e, h1⟩⟩
  · simp at h0
  · have := List.append_inj' h0 rfl
    obtain ⟨rfl, h2⟩ := this
    simp at h2
    subst h2
    exact absurd e h
  · have := List.append_inj' h0 rfl
    obtain ⟨rfl, h2⟩ := this
    simp at h2
    subst h2
    exact h1
theorem buildTo_length {P : List Int} {pass : Int → Bool} (k : Nat) : (buildTo P pass k).length ≤ k := by
  induction k with
  | zero => simp [buildTo]
  | succ k ih =>
    unfold buildTo
    split
    · rcases addOn_cases (buildTo P pass k) (P.getD k 0) (P.getD (k + 1) 0) with ⟨h0, h1⟩ | ⟨A, p, h0, ⟨_, h1⟩ | ⟨_, h1⟩⟩
      · rw [h1]; simp
      · rw [h1]; rw [h0] at ih; simp at ih ⊢; omega
      · rw [h1]; rw [h0] at ih; simp at ih ⊢; omega
    · omega
theorem pts_words {S : Sp} {p q : Int} (hf : Fits S) (p0 : 0 ≤ p) (p1 : p ≤ 18446744073709551615) (q0 : 0 ≤ q) (q1 : q ≤ 18446744073709551615) : Words (pts S (p, q)) := by
  intro x hx
  have h := mem_pointsOf.1 hx
  simp only [List.mem_cons] at h
  rcases h with rfl | rfl | h
  · exact ⟨p0, p1⟩
  · exact ⟨q0, q1⟩
  · exact words_ends hf x h
theorem pts_length (S : Sp) (s : Int × Int) : (pts S s).length ≤ 2 + S.length * 2 := by
  have := length_pointsOf (s.1 :: s.2 :: ends S)
  simp [ends_length] at this
  unfold pts
  omega
theorem pts_pos (S : Sp) (s : Int × Int) : 0 < (pts S s).length := List.length_pos_of_mem (pts_lo S s)
theorem wrap_i64_small (k : Nat) (h : k ≤ 4294967296) : IntKind.i64.wrap ((k : Nat) : Int) = (k : Int) := by
  simp [IntKind.wrap, IntKind.bits, IntKind.signed]
  omega
theorem getD_at {P : List Int} {k : Nat} (h : k < P.length) {x : Int} (hx : P[k] = x) : P.getD k 0 = x := by simp [h, hx]
end Go.Proofs.Ytgjcdejiolenkaa
