import Derived.Test.YtpeecjoadgefjaaSpanPoints
import Derived.Deep.RegionHeld3
import Derived.Deep.AppendLies
import Derived.Test.YtpeecjoadgefjaaSpanPlace
import Derived.Test.YtpeecjoadgefjaaSpanMath6
namespace Go.Proofs.Ytpeecjoadgefjaa
open Go.ChangeShapes Go.WideShapes Go.ChangeAt Go.RowKit
set_option linter.unusedVariables false

/-- One append of one span that lies in block b, in a walk. -/
theorem wpList_appS (w : World) {ops : Array Oper} {rest : List Oper} {o : Oper} {a : Act} {Q : Exit → Act → World → Prop} (hgd : o.guard = none) (s x : Operand)
    (ho : o.op = .call { callee := .builtin .append, args := #[s, x], argTypes := #[27, 27] })
    (base : Nat) (av : Option Addr) (n cap : Nat) (S : Sp) (hn : S.length = n) (c d : Int) (hs : a.eval s = .slice av n cap) (hown : w.ownsRow base 31 2 (.slice av n cap) n (flat S))
    (b : Nat) (hx : a.eval x = .slice (some ⟨b, 0, none⟩) 1 1) (hc : w.cell? ⟨b, 0, none⟩ = some (.int .u64 c)) (hd : w.cell? ⟨b, 1, none⟩ = some (.int .u64 d)) (hl : n ≤ 4294967296) (hbase : base ≤ w.heap.size)
    (h : ∀ g cap' w', w'.ownsRow base 31 2 (.slice (some ⟨g, 0, none⟩) (n + 1) cap') (n + 1) (flat (S ++ [(c, d)])) → w.grownBy w' (Value.slice av n cap).ownBlock →
      wpList Try.prog ops Q rest (a.put o.dst (.slice (some ⟨g, 0, none⟩) (n + 1) cap')) w') : wpList Try.prog ops Q (o :: rest) a w := by
  obtain ⟨i0, hi, hz0, hz1, hz2⟩ := info_parts info_span
  refine wpList_append_own w hgd s x 27 ho base 31 i0 (.agg #[.int .u64 0, .int .u64 0]) 2 16 Try.underlying27 hi hz0 hz1 hz2 rfl (by decide) (.slice av n cap) n (flat S) hs hown ⟨b, 0, none⟩ 1 1 [.int .u64 c, .int .u64 d] hx rfl ?_ ?_ ?_ ?_ hbase ?_
  · intro j u hj
    match j, hj with
    | 0, hj => simp at hj; subst hj; rw [← hc]; congr 1
    | 1, hj => simp at hj; subst hj; rw [← hd]; congr 1
  · intro u hu; simp at hu; rcases hu with rfl | rfl <;> rfl
  · unfold maxLen; omega
  · omega
  · intro v' w' h2 h3 h4
    rcases h2.2 with ⟨rfl, h0⟩ | ⟨g, cap', cur, rfl, rest⟩
    · omega
    · exact h g cap' w' (by rw [flat_append, flat_one]; exact h2) h3

theorem Spans.ofRow {w : World} {base : Nat} {e : TypeId} {av : Option Addr} {n cap : Nat} {S : Sp} (hn : S.length = n) (h : w.ownsRow base e 2 (.slice av n cap) n (flat S)) : Spans w av S := by
  subst hn
  rcases h.2 with ⟨h', h0⟩ | ⟨g, cap', cur, h', rest⟩
  · exact .inl (List.eq_nil_of_length_eq_zero (by omega))
  · simp only [Value.slice.injEq] at h'
    obtain ⟨rfl, _, rfl⟩ := h'
    exact Spans.owned h

/-- The last span's end is stored anew. -/
theorem storedHi {w : World} {base : Nat} {e : TypeId} {g n cap : Nat} {L : Sp} {u v : Int} (hn : n = L.length + 1) (h : w.ownsRow base e 2 (.slice (some ⟨g, 0, none⟩) n cap) n (flat (L ++ [(u, v)]))) (y : Int) :
    (w.setCell ⟨g, L.length * 2 + 1, none⟩ (.int .u64 y)).ownsRow base e 2 (.slice (some ⟨g, 0, none⟩) n cap) n (flat (L ++ [(u, y)])) := by
  have h1 := (h.stored (L.length * 2 + 1) (.int .u64 y)).1
  have e : (flat (L ++ [(u, v)])).set (L.length * 2 + 1) (.int .u64 y) = flat (L ++ [(u, y)]) := by
    rw [flat_append, flat_append, List.set_append, flat_length, if_neg (by omega), flat_one, flat_one]
    have e2 : L.length * 2 + 1 - L.length * 2 = 1 := by omega
    rw [e2]
    rfl
  rwa [e] at h1

theorem lastCells {w : World} {base : Nat} {e : TypeId} {g n cap : Nat} {L : Sp} {u v : Int} (hn : n = L.length + 1) (h : w.ownsRow base e 2 (.slice (some ⟨g, 0, none⟩) n cap) n (flat (L ++ [(u, v)]))) :
    w.cell? ⟨g, L.length * 2 + 1, none⟩ = some (.int .u64 v) ∧ w.frozen? ⟨g, L.length * 2 + 1, none⟩ = false := by
  refine ⟨?_, h.frozenAt _⟩
  rw [h.cellAt _ (by omega)]
  have := (flat_at (S := L ++ [(u, v)]) (i := L.length) (by simp)).2
  simpa using this

theorem specInAs (a : Option Addr) (S : Sp) (n cap : Nat) (hn : S.length = n) (x : Int) (b : Bool) (w : World) (hS : Spans w a S) (hf : Fits S) (hl : S.length ≤ 1048576) (x0 : 0 ≤ x) (x1 : x ≤ 18446744073709551615) (hb : inB x S = b) :
    Calls Try.prog 83 #[.slice a n cap, .int .u64 x] w fun e w' => e = .returned (.bool b) ∧ w' = w := by
  subst hb hn
  exact specIn a S cap x w hS hf hl x0 x1

theorem buildTo_yes {P : List Int} {pass : Int → Bool} {k : Nat} {x y : Int} (hx : P.getD k 0 = x) (hy : P.getD (k + 1) 0 = y) (h : pass x = true) : buildTo P pass (k + 1) = addOn (buildTo P pass k) x y := by
  conv => lhs; unfold buildTo
  rw [hx, hy, if_pos h]
theorem buildTo_no {P : List Int} {pass : Int → Bool} {k : Nat} {x : Int} (hx : P.getD k 0 = x) (h : pass x = false) : buildTo P pass (k + 1) = buildTo P pass k := by
  conv => lhs; unfold buildTo
  rw [hx, if_neg (by rw [h]; simp)]
theorem addOn_nil (lo hi : Int) : addOn [] lo hi = [] ++ [(lo, hi)] := rfl
theorem addOn_touch {L : Sp} {u v lo hi : Int} (h : v = lo) : addOn (L ++ [(u, v)]) lo hi = L ++ [(u, hi)] := by
  rcases addOn_cases (L ++ [(u, v)]) lo hi with ⟨h0, _⟩ | ⟨A, p, h0, ⟨_, h1⟩ | ⟨e, h1⟩⟩
  · simp at h0
  · have := List.append_inj' h0 rfl
    obtain ⟨rfl, h2⟩ := this
    simp at h2
    subst h2
    exact h1
  · have := List.append_inj' h0 rfl
    obtain ⟨rfl, h2⟩ := this
    simp at h2
    subst h2
    exact absurd h e
theorem addOn_apart {L : Sp} {u v lo hi : Int} (h : v ≠ lo) : addOn (L ++ [(u, v)]) lo hi = L ++ [(u, v)] ++ [(lo, hi)] := by
  rcases addOn_cases (L ++ [(u, v)]) lo hi with ⟨h0, _⟩ | ⟨A, p, h0, ⟨e, h1⟩ | ⟨e, h1⟩⟩
  · simp at h0
  · have := List.append_inj' h0 rfl
    obtain ⟨rfl, h2⟩ := this
    simp at h2
    subst h2
    exact absurd e h
  · have := List.append_inj' h0 rfl
    obtain ⟨rfl, h2⟩ := this
    simp at h2
    subst h2
    exact h1
theorem buildTo_length {P : List Int} {pass : Int → Bool} (k : Nat) : (buildTo P pass k).length ≤ k := by
  induction k with
  | zero => simp [buildTo]
  | succ k ih =>
    unfold buildTo
    split
    · rcases addOn_cases (buildTo P pass k) (P.getD k 0) (P.getD (k + 1) 0) with ⟨h0, h1⟩ | ⟨A, p, h0, ⟨_, h1⟩ | ⟨_, h1⟩⟩
      · rw [h1]; simp
      · rw [h1]; rw [h0] at ih; simp at ih ⊢; omega
      · rw [h1]; rw [h0] at ih; simp at ih ⊢; omega
    · omega
theorem pts_words {S : Sp} {p q : Int} (hf : Fits S) (p0 : 0 ≤ p) (p1 : p ≤ 18446744073709551615) (q0 : 0 ≤ q) (q1 : q ≤ 18446744073709551615) : Words (pts S (p, q)) := by
  intro x hx
  have h := mem_pointsOf.1 hx
  simp only [List.mem_cons] at h
  rcases h with rfl | rfl | h
  · exact ⟨p0, p1⟩
  · exact ⟨q0, q1⟩
  · exact words_ends hf x h
theorem pts_length (S : Sp) (s : Int × Int) : (pts S s).length ≤ 2 + S.length * 2 := by
  have := length_pointsOf (s.1 :: s.2 :: ends S)
  simp [ends_length] at this
  unfold pts
  omega
theorem pts_pos (S : Sp) (s : Int × Int) : 0 < (pts S s).length := List.length_pos_of_mem (pts_lo S s)
theorem wrap_i64_small (k : Nat) (h : k ≤ 4294967296) : IntKind.i64.wrap ((k : Nat) : Int) = (k : Int) := by
  simp [IntKind.wrap, IntKind.bits, IntKind.signed]
  omega
theorem getD_at {P : List Int} {k : Nat} (h : k < P.length) {x : Int} (hx : P[k] = x) : P.getD k 0 = x := by simp [h, hx]
end Go.Proofs.Ytpeecjoadgefjaa

namespace Go.Proofs.Ytpeecjoadgefjaa
set_option linter.unusedVariables false

/-! ### Sizes: what of a span is in a set and what is missing make up the span -/
theorem total_addOn (out : List (Int × Int)) (lo hi : Int) : total (addOn out lo hi) = total out + (hi - lo) := by
  rcases addOn_cases out lo hi with ⟨h0, h1⟩ | ⟨A, p, h0, ⟨e, h1⟩ | ⟨e, h1⟩⟩
  · rw [h1, h0]; simp [total]
  · rw [h1, h0, total_append, total_append]; simp only [total]; omega
  · rw [h1, h0, total_append]; simp [total]
def sumTo (P : List Int) (pass : Int → Bool) : Nat → Int
  | 0 => 0
  | k + 1 => sumTo P pass k + (if pass (P.getD k 0) then P.getD (k + 1) 0 - P.getD k 0 else 0)
theorem total_buildTo (P : List Int) (pass : Int → Bool) (k : Nat) : total (buildTo P pass k) = sumTo P pass k := by
  induction k with
  | zero => rfl
  | succ k ih =>
    unfold buildTo sumTo
    by_cases h : pass (P.getD k 0) = true
    · rw [if_pos h, if_pos h, total_addOn, ih]
    · rw [if_neg h, if_neg h, ih]; omega
theorem sum_parts (P : List Int) {p1 p2 p3 : Int → Bool} (h : ∀ x, (p1 x = true ∧ p2 x = false ∧ p3 x = true) ∨ (p1 x = false ∧ p2 x = true ∧ p3 x = true) ∨ (p1 x = false ∧ p2 x = false ∧ p3 x = false)) (k : Nat) :
    sumTo P p1 k + sumTo P p2 k = sumTo P p3 k := by
  induction k with
  | zero => rfl
  | succ k ih =>
    simp only [sumTo]
    rcases h (P.getD k 0) with ⟨a, b, c⟩ | ⟨a, b, c⟩ | ⟨a, b, c⟩ <;> rw [a, b, c] <;> simp <;> omega
def f5 (_ b : Bool) : Bool := b
theorem built5 (S : List (Int × Int)) {p q : Int} (pq : p ≤ q) : total (built f5 S (p, q)) = q - p := by
  by_cases h : p < q
  · rw [built_is (f := f5) rfl (T := [(p, q)]) (by simp [Norm, h]) (fun x => by simp only [f5, inB_iff])]
    simp [total]
  · rw [built_is (f := f5) rfl (T := []) trivial (fun x => by
      simp only [f5, inB_iff, in_one]
      constructor
      · intro hx; exact absurd hx (in_nil x)
      · intro hx; omega)]
    simp only [total]; omega
theorem total_split (S : List (Int × Int)) {p q : Int} (pq : p ≤ q) : total (built f4 S (p, q)) + total (built f3 S (p, q)) = q - p := by
  rw [← built5 S pq]
  unfold built
  rw [total_buildTo, total_buildTo, total_buildTo]
  apply sum_parts
  intro x
  simp only [f3, f4, f5]
  cases inB x S <;> cases inB x [(p, q)] <;> simp

/-! ### Lengths -/
theorem place_exists {S : Sp} {pass : Int × Int → Bool} (hm : Mono S pass) : ∃ k, Place S pass k := by
  refine ⟨S.findIdx pass, List.findIdx_le_length, fun i hi h => ?_, fun i hi h => ?_⟩
  · have := List.not_of_lt_findIdx h
    simpa using this
  · have hl : S.findIdx pass < S.length := by omega
    exact hm _ i hl hi h (List.findIdx_getElem (w := hl))
theorem add_length {S : Sp} {s : Int × Int} (hS : Norm S) (hs : s.1 < s.2) : (built f1 S s).length ≤ S.length + 1 := by
  obtain ⟨a, ha⟩ := place_exists (monoAdd1 hS s.1)
  obtain ⟨b, hb⟩ := place_exists (monoAdd2 hS s.2)
  obtain ⟨hab, h⟩ := add_is hS hs ha hb
  have hbl := hb.le
  by_cases e : a = b
  · have := h s (.inl ⟨e, rfl⟩)
    rw [built_is rfl this.1 this.2]
    simp
    omega
  · have := h _ (.inr ⟨by omega, by omega, rfl⟩)
    rw [built_is rfl this.1 this.2]
    simp
    omega
theorem cut_length {S : Sp} {s : Int × Int} (hS : Norm S) (hs : s.1 < s.2) : (built f2 S s).length ≤ S.length + 1 := by
  obtain ⟨a, ha⟩ := place_exists (monoOver1 hS s.1)
  obtain ⟨b, hb⟩ := place_exists (monoOver2 hS s.2)
  have hab := overlap_le hS (by omega) ha hb
  have hbl := hb.le
  by_cases e : a = b
  · rw [built_is rfl hS (cut_none hS (by omega) ha hb (.inr e))]
    omega
  · have := cut_is hS hs ha hb (by omega) (by omega) _ _ rfl rfl
    rw [built_is rfl this.1 this.2]
    simp only [List.length_append, List.length_take, List.length_drop]
    have l1 : ∀ (c : Prop) [Decidable c] (p : Int × Int), (if c then [p] else []).length ≤ 1 := by intro c _ p; split <;> simp
    have := l1 ((S[a]'(by omega)).1 < s.1) ((S[a]'(by omega)).1, s.1)
    have := l1 (s.2 < (S[b - 1]'(by omega)).2) (s.2, (S[b - 1]'(by omega)).2)
    omega

/-! ### The three answers, as sets -/
section
variable {S : Sp} {p q : Int}
theorem in_add (x : Int) : In x (built f1 S (p, q)) ↔ In x S ∨ (p ≤ x ∧ x < q) := by
  rw [built_in rfl]; simp only [f1, Bool.or_eq_true, inB_iff, in_one]
theorem in_cut (x : Int) : In x (built f2 S (p, q)) ↔ In x S ∧ ¬ (p ≤ x ∧ x < q) := by
  rw [built_in rfl]; simp only [f2, Bool.and_eq_true, Bool.not_eq_true', ← Bool.not_eq_true, inB_iff, in_one]
theorem in_gaps (x : Int) : In x (built f3 S (p, q)) ↔ (p ≤ x ∧ x < q) ∧ ¬ In x S := by
  rw [built_in rfl]; simp only [f3, Bool.and_eq_true, Bool.not_eq_true', ← Bool.not_eq_true, inB_iff, in_one]
theorem no_gaps {T : Sp} {u v : Int} (h : ∀ x, u ≤ x → x < v → In x T) : built f3 T (u, v) = [] :=
  built_is rfl trivial fun x => by
    simp only [f3, Bool.and_eq_true, Bool.not_eq_true', ← Bool.not_eq_true, inB_iff, in_one]
    exact ⟨fun hx => absurd hx (in_nil x), fun ⟨h1, h2⟩ => absurd (h x h1.1 h1.2) h2⟩
theorem sum_has : built f3 (built f1 S (p, q)) (p, q) = [] := no_gaps fun x h1 h2 => (in_add x).2 (.inr ⟨h1, h2⟩)
theorem sum_each {u v : Int} (h : (u, v) ∈ S) : built f3 (built f1 S (p, q)) (u, v) = [] := no_gaps fun x h1 h2 => (in_add x).2 (.inl ⟨_, h, h1, h2⟩)
theorem rest_none : total (built f4 (built f2 S (p, q)) (p, q)) = 0 := by
  rw [built_is (f := f4) rfl (T := []) trivial]
  · rfl
  · intro x
    simp only [f4, Bool.and_eq_true, inB_iff, in_one, in_cut]
    exact ⟨fun hx => absurd hx (in_nil x), fun ⟨h1, h2⟩ => absurd h2 h1.2⟩
theorem total_pos {T : Sp} (h : Norm T) : total T = 0 ↔ T = [] := by
  cases T with
  | nil => simp [total]
  | cons t r =>
    have h1 := h.head
    have h2 := total_nonneg (S := r) (fun p hp => by have := h.tail.each p hp; omega)
    simp only [total, reduceCtorEq, iff_false]
    omega
end

/-! ### The loop over the gaps -/
/-- The sum without the gaps so far; the set with the gaps so far. -/
structure Gone (S : Sp) (s : Int × Int) (k : Nat) (B J : Sp) : Prop where
  nb : Norm B
  nj : Norm J
  ib : ∀ x, In x B ↔ In x (built f1 S s) ∧ ¬ In x ((built f3 S s).take k)
  ij : ∀ x, In x J ↔ In x S ∨ In x ((built f3 S s).take k)
  lb : B.length ≤ S.length + 1 + k
  lj : J.length ≤ S.length + 1 + k
theorem add_len {S : Sp} {p q : Int} (hS : Norm S) (pq : p ≤ q) : (built f1 S (p, q)).length ≤ S.length + 1 := by
  by_cases h : p < q
  · exact add_length (s := (p, q)) hS h
  · have e : p = q := by omega
    subst e
    have : built f1 S (p, p) = S := built_is rfl hS fun x => by
      simp only [f1, Bool.or_eq_true, inB_iff, in_one]
      exact ⟨.inl, fun h => h.elim id (fun h => by omega)⟩
    rw [this]
    omega
theorem gone_start {S : Sp} {p q : Int} (hS : Norm S) (pq : p ≤ q) : Gone S (p, q) 0 (built f1 S (p, q)) S :=
  ⟨built_norm rfl _ _, hS, fun x => by simp [in_nil], fun x => by simp [in_nil], add_len hS pq, by omega⟩
theorem in_take_succ {G : Sp} {k : Nat} (hk : k < G.length) {u v : Int} (hg : G[k] = (u, v)) (x : Int) : In x (G.take (k + 1)) ↔ In x (G.take k) ∨ (u ≤ x ∧ x < v) := by
  rw [List.take_succ_eq_append_getElem hk, in_append, in_one, hg]
theorem gone_step {S : Sp} {s : Int × Int} {k : Nat} {B J : Sp} (h : Gone S s k B J) (hk : k < (built f3 S s).length) {u v : Int} (hg : (built f3 S s)[k] = (u, v)) :
    u < v ∧ Gone S s (k + 1) (built f2 B (u, v)) (built f1 J (u, v)) := by
  have huv : u < v := by
    have := (built_norm (f := f3) rfl S s).at hk
    rw [hg] at this
    exact this
  refine ⟨huv, built_norm rfl _ _, built_norm rfl _ _, fun x => ?_, fun x => ?_, ?_, ?_⟩
  · rw [in_cut, h.ib, in_take_succ hk hg]
    constructor
    · rintro ⟨⟨a, b⟩, c⟩; exact ⟨a, fun d => d.elim b c⟩
    · rintro ⟨a, b⟩; exact ⟨⟨a, fun d => b (.inl d)⟩, fun d => b (.inr d)⟩
  · rw [in_add, h.ij, in_take_succ hk hg, or_assoc]
  · have := cut_length (s := (u, v)) h.nb huv
    have := h.lb
    omega
  · have := add_length (s := (u, v)) h.nj huv
    have := h.lj
    omega
theorem gone_end {S : Sp} {p q : Int} {B J : Sp} (hS : Norm S) (h : Gone S (p, q) (built f3 S (p, q)).length B J) : B = S ∧ J = built f1 S (p, q) := by
  constructor
  · refine norm_unique h.nb hS fun x => ?_
    rw [h.ib, List.take_length, in_add, in_gaps]
    constructor
    · rintro ⟨a | a, b⟩
      · exact a
      · by_cases c : In x S
        · exact c
        · exact absurd ⟨a, c⟩ b
    · intro a; exact ⟨.inl a, fun b => b.2 a⟩
  · refine norm_unique h.nj (built_norm rfl _ _) fun x => ?_
    rw [h.ij, List.take_length, in_add, in_gaps]
    constructor
    · rintro (a | a)
      · exact .inl a
      · exact .inr a.1
    · rintro (a | a)
      · exact .inl a
      · by_cases c : In x S
        · exact .inl c
        · exact .inr ⟨a, c⟩
theorem gaps_len (S : Sp) (s : Int × Int) : (built f3 S s).length ≤ 2 * S.length + 1 := by
  unfold built
  have h1 := buildTo_length (P := pts S s) (pass := fun x => f3 (inB x S) (inB x [s])) ((pts S s).length - 1)
  have h2 := pts_length S s
  omega
end Go.Proofs.Ytpeecjoadgefjaa
