import Derived.Test.YtgjcdejiolenkaaSpanSz
import Derived.Test.YtgjcdejiolenkaaSpanBuild0
import Derived.Laws.AppendOwnNone
namespace Go.Proofs.Ytgjcdejiolenkaa
open Go.ChangeShapes Go.WideShapes Go.ChangeAt Go.RowKit
set_option linter.unusedVariables false

theorem spans_cells {w : World} {b off : Nat} {T : Sp} (hc : ∀ i, ∀ h : i < T.length, w.cell? ⟨b, off + i * 2, none⟩ = some (.int .u64 (T[i]).1) ∧ w.cell? ⟨b, off + i * 2 + 1, none⟩ = some (.int .u64 (T[i]).2)) :
    ∀ j u, (flat T)[j]? = some u → w.cell? ((⟨b, off, none⟩ : Addr).add j) = some u := by
  intro j u hj
  have hjl : j < (flat T).length := (List.getElem?_eq_some_iff.1 hj).1
  rw [flat_length] at hjl
  have add : (⟨b, off, none⟩ : Addr).add j = ⟨b, off + j, none⟩ := by
    unfold Addr.add
    split <;> simp_all
  rw [add]
  rcases (show j = j / 2 * 2 ∨ j = j / 2 * 2 + 1 by omega) with h | h
  · have h1 := (hc (j / 2) (by omega)).1
    have h2 := (flat_at (S := T) (i := j / 2) (by omega)).1
    rw [← h] at h2 h1
    rw [h1, ← hj, h2]
  · have h1 := (hc (j / 2) (by omega)).2
    have h2 := (flat_at (S := T) (i := j / 2) (by omega)).2
    rw [← h] at h2
    rw [show off + j / 2 * 2 + 1 = off + j by omega] at h1
    rw [h1, ← hj, h2]

theorem flat_one_cell (T : Sp) : ∀ u ∈ flat T, u.oneCell' = true := by
  intro u hu
  simp only [flat, List.mem_flatMap] at hu
  obtain ⟨p, _, hu⟩ := hu
  simp at hu
  rcases hu with rfl | rfl <;> rfl

/-- One append of many spans, in a walk. -/
theorem wpList_appT (w : World) {ops : Array Oper} {rest : List Oper} {o : Oper} {a : Act} {Q : Exit → Act → World → Prop} (hgd : o.guard = none) (s x : Operand)
    (ho : o.op = .call { callee := .builtin .append, args := #[s, x], argTypes := #[29, 29] })
    (base : Nat) (av : Option Addr) (n cap : Nat) (S : Sp) (hn : S.length = n) (hs : a.eval s = .slice av n cap) (hown : w.ownsRow base 31 2 (.slice av n cap) n (flat S))
    (src : Option Addr) (T : Sp) (m c : Nat) (hm : T.length = m) (hx : a.eval x = .slice src m c) (hnone : src = none → c = 0) (hT : Spans w src T) (hl : n + m ≤ 4294967296) (hbase : base ≤ w.heap.size)
    (h : ∀ av' cap' w', w'.ownsRow base 31 2 (.slice av' (n + m) cap') (n + m) (flat (S ++ T)) → w.grownBy w' (Value.slice av n cap).ownBlock →
      wpList Try.prog ops Q rest (a.put o.dst (.slice av' (n + m) cap')) w') : wpList Try.prog ops Q (o :: rest) a w := by
  obtain ⟨i0, hi, hz0, hz1, hz2⟩ := info_parts info_span
  cases src with
  | none =>
    have hT0 : T = [] := by
      rcases hT with h | ⟨_, _, h, _⟩
      · exact h
      · cases h
    subst hT0
    have hc0 := hnone rfl
    simp at hm
    subst hm hc0
    refine wpList_append_own_none hgd s x 29 ho base 31 i0 2 Try.underlying29 hi _ n (flat S) hs hown hx ?_
    exact h av cap w (by simpa using hown) (World.grownBy.refl _ _)
  | some ad =>
    refine wpList_append_own w hgd s x 29 ho base 31 i0 (.agg #[.int .u64 0, .int .u64 0]) 2 16 Try.underlying29 hi hz0 hz1 hz2 rfl (by decide) (.slice av n cap) n (flat S) hs hown ad m c (flat T) hx (by rw [flat_length, hm]) ?_ (flat_one_cell T) ?_ ?_ hbase ?_
    · rcases hT with h0 | ⟨b, off, h0, hc⟩
      · intro j u hj
        rw [h0] at hj
        simp [flat] at hj
      · simp only [Option.some.injEq] at h0
        subst h0
        exact spans_cells hc
    · unfold maxLen; omega
    · omega
    · intro v' w' h2 h3 h4
      rw [← flat_append] at h2
      rcases h2.2 with ⟨h5, h0⟩ | ⟨g, cap', cur, h5, rest⟩
      · subst h5
        have := h none 0 w'
        rw [h0] at this h2
        exact this h2 h3
      · subst h5
        exact h _ cap' w' h2 h3

theorem copySpans_any (a : Option Addr) (S : Sp) (n cap : Nat) (hn : S.length = n) (w : World) (hS : Spans w a S) (hl : n ≤ 1048576) (hnone : a = none → cap = 0) :
    Calls Try.prog 33 #[.slice a n cap] w fun e w' => ∃ av cp, e = .returned (.slice av n cp) ∧ w'.ownsRow w.heap.size 31 2 (.slice av n cp) n (flat S) ∧ Below w.heap.size w w' := by
  have hnil := World.ownsRow_nil w w.heap.size 31 2
  go_enter Try.func33, Try.ntmps33
  go_wp2_with (at_builtin; refine wpList_appT _ rfl _ _ rfl w.heap.size none 0 0 [] rfl rfl hnil a S n cap hn rfl hnone hS (by omega) (Nat.le_refl _) ?_; intro av cp w1 ho1 hg1)
  go_ret
  exact ⟨av, cp, by simp, by simpa using ho1, (Below.refl _ _).grown hg1 (Nat.le_refl _) (by simp [Value.ownBlock])⟩

theorem limit_ok (a : Option Addr) (n cap : Nat) (w : World) (h : n ≤ 1000) :
    Calls Try.prog 37 #[.slice a n cap] w fun e w' => e = .returned (.tuple #[.slice a n cap, .int .i64 0]) ∧ w' = w := by
  go_enter Try.func37, Try.ntmps37
  go_wp2
  go_ret2
  exact ⟨rfl, rfl⟩
theorem limit_no (a : Option Addr) (n cap : Nat) (w : World) (h : 1000 < n) (hm : n ≤ 4294967296) :
    Calls Try.prog 37 #[.slice a n cap] w fun e w' => e = .returned (.tuple #[.slice none 0 0, .int .i64 5]) ∧ w' = w := by
  go_enter Try.func37, Try.ntmps37
  go_wp2
  go_ret2
  exact ⟨rfl, rfl⟩

theorem spans_take {w : World} {a : Option Addr} {S : Sp} (h : Spans w a S) (k : Nat) : Spans w a (S.take k) := by
  rcases h with h | ⟨b, off, ha, hc⟩
  · exact .inl (by simp [h])
  · refine .inr ⟨b, off, ha, fun i hi => ?_⟩
    simp only [List.length_take] at hi
    simpa using hc i (by omega)
theorem spans_drop {w : World} {b off : Nat} {S : Sp} (h : Spans w (some ⟨b, off, none⟩) S) (k : Nat) : Spans w (some ⟨b, off + k * 2, none⟩) (S.drop k) := by
  rcases h with h | ⟨b', off', ha, hc⟩
  · exact .inl (by simp [h])
  · simp only [Option.some.injEq, Addr.mk.injEq, and_true] at ha
    obtain ⟨rfl, rfl⟩ := ha
    refine .inr ⟨b, off + k * 2, rfl, fun i hi => ?_⟩
    simp only [List.length_drop] at hi
    have := hc (k + i) (by omega)
    simp only [List.getElem_drop]
    rw [show off + k * 2 + i * 2 = off + (k + i) * 2 by omega]
    exact this
theorem spans_none_left {w : World} {a : Option Addr} {S : Sp} {k : Nat} (hk : S.length ≤ k) : Spans w a (S.drop k) := .inl (List.drop_eq_nil_of_le hk)

/-- What both sides answer: a list and a code. -/
def GivesL (fn : Nat) (S : Sp) (p q : Int) (T : Sp) (c : Int) : Prop :=
  ∀ (a : Option Addr) (cap : Nat) (w : World), Spans w a S → S.length ≤ cap → cap ≤ 9223372036854775807 → (a = none → cap = 0) →
    Calls Try.prog fn #[.slice a S.length cap, .agg #[.int .u64 p, .int .u64 q]] w fun e w' => ∃ av cp, e = .returned (.tuple #[.slice av T.length cp, .int .i64 c]) ∧
      w'.ownsRow w.heap.size 31 2 (.slice av T.length cp) T.length (flat T) ∧ Below w.heap.size w w'

theorem add_empty {S : Sp} {p : Int} (hS : Norm S) : built f1 S (p, p) = S := by
  refine built_is rfl hS fun x => ?_
  simp only [f1, Bool.or_eq_true, inB_iff, in_one]
  constructor
  · exact .inl
  · rintro (h | h)
    · exact h
    · have h1 : p ≤ x := h.1
      have h2 : x < p := h.2
      omega

set_option maxHeartbeats 2000000 in
theorem implAdd_empty (S : Sp) (p : Int) (hf : Fits S) (hl : S.length ≤ 1000) (hn : Norm S) : GivesL 18 S p p (built f1 S (p, p)) 0 := by
  intro a cap w hS hc hm hnone
  rw [add_empty hn]
  have hb0 : Below w.heap.size w (w.alloc (.cells #[.int .u64 p, .int .u64 p] 31)) := (Below.refl _ _).alloc (Nat.le_refl _) _
  have hS0 := hS.moved hb0
  obtain ⟨x0, x1⟩ := cell_alloc2 w (.int .u64 p) (.int .u64 p) 31 _ rfl
  go_enter Try.func18, Try.ntmps18
  go_wp2_with fail
  refine (spansHold_any a S cap p p _ hS0 hf (by omega)).mono ?_
  rintro e w1 ⟨b, rfl, hiff, hb1⟩
  obtain rfl : b = true := hiff.2 ⟨⟨hl, hn⟩, Int.le_refl _⟩
  have hS1 := hS0.moved hb1
  have y0 := (hb1.cell (World.block_lt_of_cell? _ _ x0)).trans x0
  have y1 := (hb1.cell (World.block_lt_of_cell? _ _ x1)).trans x1
  have hbw := hb0.trans (hb1.mono (by simp))
  clear hiff hS hS0 hb0 hb1 x0 x1
  go_wp2_with fail
  refine (copySpans_any a S _ cap rfl _ hS1 (by omega) hnone).mono ?_
  rintro e w2 ⟨av, cp, rfl, ho, hb2⟩
  go_wp2
  go_ret2
  exact ⟨av, cp, rfl, owned_base ho hbw.size, hbw.trans (hb2.mono hbw.size)⟩

set_option maxHeartbeats 2000000 in
theorem implAdd_full (S : Sp) (p q : Int) (hf : Fits S) (hl : S.length ≤ 1000) (hn : Norm S) (p0 : 0 ≤ p) (pq : p < q) (q1 : q ≤ 18446744073709551615) :
    ((built f1 S (p, q)).length ≤ 1000 → GivesL 18 S p q (built f1 S (p, q)) 0) ∧ (1000 < (built f1 S (p, q)).length → GivesL 18 S p q [] 5) := by
  have main : ∀ (a : Option Addr) (cap : Nat) (w : World), Spans w a S → S.length ≤ cap → cap ≤ 9223372036854775807 → (a = none → cap = 0) → ∀ (T : Sp) (c : Int), ((built f1 S (p, q)).length ≤ 1000 ∧ T = built f1 S (p, q) ∧ c = 0) ∨ (1000 < (built f1 S (p, q)).length ∧ T = [] ∧ c = 5) →
      Calls Try.prog 18 #[.slice a S.length cap, .agg #[.int .u64 p, .int .u64 q]] w fun e w' => ∃ av cp, e = .returned (.tuple #[.slice av T.length cp, .int .i64 c]) ∧
      w'.ownsRow w.heap.size 31 2 (.slice av T.length cp) T.length (flat T) ∧ Below w.heap.size w w' := by
    intro a cap w hS hc hm hnone T c hTc
    have hSw := hS
    have hb0 : Below w.heap.size w (w.alloc (.cells #[.int .u64 p, .int .u64 q] 31)) := (Below.refl _ _).alloc (Nat.le_refl _) _
    have hS0 := hS.moved hb0
    obtain ⟨x0, x1⟩ := cell_alloc2 w (.int .u64 p) (.int .u64 q) 31 _ rfl
    go_enter Try.func18, Try.ntmps18
    go_wp2_with fail
    refine (spansHold_any a S cap p q _ hS0 hf (by omega)).mono ?_
    rintro e w1 ⟨b, rfl, hiff, hb1⟩
    obtain rfl : b = true := hiff.2 ⟨⟨hl, hn⟩, by omega⟩
    have hS1 := hS0.moved hb1
    have y0 := (hb1.cell (World.block_lt_of_cell? _ _ x0)).trans x0
    have y1 := (hb1.cell (World.block_lt_of_cell? _ _ x1)).trans x1
    have hbw := hb0.trans (hb1.mono (by simp))
    have hpq1 : (p == q) = false := by simp; omega
    clear hiff hS hS0 hb0 hb1 x0 x1
    go_wp2_with fail
    refine (placeAdd1 a S cap w.heap.size p _ hS1 hf hl y0 (monoAdd1 hn p)).mono ?_
    rintro e w2 ⟨i, rfl, hi, hb2⟩
    have hS2 := hS1.moved hb2
    have z0 := (hb2.cell (World.block_lt_of_cell? _ _ y0)).trans y0
    have z1 := (hb2.cell (World.block_lt_of_cell? _ _ y1)).trans y1
    have hbw2 := hbw.trans (hb2.mono hbw.size)
    clear hS1 y0 y1 hbw hb2
    go_wp2_with fail
    refine (placeAdd2 a S cap w.heap.size q _ hS2 hf hl z1 (monoAdd2 hn q)).mono ?_
    rintro e w3 ⟨j, rfl, hj, hb3⟩
    have hS3 := hS2.moved hb3
    have t0 := (hb3.cell (World.block_lt_of_cell? _ _ z0)).trans z0
    have t1 := (hb3.cell (World.block_lt_of_cell? _ _ z1)).trans z1
    have hbw3 := hbw2.trans (hb3.mono hbw2.size)
    clear hS2 z0 z1 hbw2 hb3
    obtain ⟨hij, hbuilt⟩ := add_is (s := (p, q)) hn pq hi hj
    have HB : Hid _ := hbuilt
    have hil := hi.le
    have hjl := hj.le
    clear hbuilt hi hj
    by_cases hlt : i < j
    · have hi2 : i < S.length := by omega
      have hj2 : j - 1 < S.length := by omega
      rcases hS3 with h0 | ⟨b, off, rfl, hcc⟩
      · simp [h0] at hi2
      have hS3 : Spans w3 (some ⟨b, off, none⟩) S := .inr ⟨b, off, rfl, hcc⟩
      obtain ⟨c1, d1, hn1, c0, c0', _, _, q2, _⟩ := Spans.at hf hcc hi2
      obtain ⟨c2, d2, hn2, _, _, e0, e0', _, q5⟩ := Spans.at hf hcc hj2
      have hJ := HB.out (min p c1, max q d2) (.inr ⟨hlt, hj2, by simp only [hn1.out, hn2.out]⟩)
      have HJ0 : Hid (built f1 S (p, q) = S.take i ++ [(min p c1, max q d2)] ++ S.drop j) := built_is rfl hJ.1 hJ.2
      obtain ⟨j', rfl⟩ : ∃ j', j = j' + 1 := ⟨j - 1, by omega⟩
      simp only [Nat.add_sub_cancel] at q5
      have jb : (0 : Int) ≤ (j' : Int) := by omega
      have jc : (j' : Int) < (S.length : Int) := by omega
      have ib : (i : Int) < (S.length : Int) := by omega
      have bl : b < w3.heap.size := World.block_lt_of_cell? w3 _ q2
      have tl : w.heap.size < w3.heap.size := World.block_lt_of_cell? w3 _ t0
      clear hcc HB hJ hn1 hn2
      rcases (show c1 < p ∨ ¬ c1 < p by omega) with m1 | m1
      all_goals rcases (show q < d2 ∨ ¬ q < d2 by omega) with m2 | m2
      all_goals
        go_wp2
        go_region
        go_wp2
        go_region
        go_wp2_with fail
      · have HJ : Hid (built f1 S (p, q) = S.take i ++ [(c1, d2)] ++ S.drop (j' + 1)) := by unfold Hid; rw [HJ0.out, show min p c1 = c1 by omega, show max q d2 = d2 by omega]
        have hL : Hid ((built f1 S (p, q)).length = i + 1 + (S.length - (j' + 1))) := by unfold Hid; rw [HJ.out]; simp; omega
        rcases hTc with ⟨hlen, rfl, rfl⟩ | ⟨hlen, rfl, rfl⟩
        · have hbj := ((Below.refl w3.heap.size w3).alloc (Nat.le_refl _) (.cells #[.int .u64 c1, .int .u64 d2] 31)).drew.drew
          have hbwj := hbw3.trans (hbj.mono hbw3.size)
          obtain ⟨u0, u1⟩ := cell_alloc2 w3 (.int .u64 c1) (.int .u64 d2) 31 _ rfl
          refine (copySpans_any (some ⟨b, off, none⟩) (S.take i) i cap (by simp; omega) _ (spans_take (hSw.moved hbwj) i) (by omega) (by simp)).mono ?_
          rintro e w4 ⟨av, cp, rfl, ho4, hb4⟩
          have v0 := (hb4.cell (World.block_lt_of_cell? _ _ u0)).trans u0
          have v1 := (hb4.cell (World.block_lt_of_cell? _ _ u1)).trans u1
          have hbw4 := hbwj.trans (hb4.mono hbwj.size)
          have ho4' := owned_base ho4 hbwj.size
          have s4 := hbw4.size
          clear hbj hbwj u0 u1 ho4 hb4
          go_wp2_with (first
            | (at_builtin; refine wpList_appS _ rfl (.tmp 54) (.tmp 56) rfl w.heap.size _ i _ (S.take i) (by simp; omega) c1 d2 rfl (ho4'.alloc _) _ rfl (cell_alloc2 _ _ _ _ _ rfl).1 (cell_alloc2 _ _ _ _ _ rfl).2 (by omega) (by simp; omega) ?_; intro g5 c5 w5 ho5 hg5; have hbw5 := below_grown (hbw4.alloc s4 _) (ho4'.alloc _) hg5 (Nat.le_refl _) (by simp; omega); have s5 := hbw5.size)
            | (at_builtin; refine wpList_appT _ rfl (.tmp 58) (.tmp 61) rfl w.heap.size _ _ _ (S.take i ++ [(c1, d2)]) (by simp; omega) rfl ho5 _ (S.drop (j' + 1)) _ _ (by simp) rfl (by intro h; split at h <;> cases h) (by split <;> first | exact spans_none_left (by omega) | exact spans_drop (hSw.moved hbw5) _) (by omega) (by omega) ?_; intro a6 c6 w6 ho6 hg6; have hbw6 := below_grown hbw5 ho5 hg6 (Nat.le_refl _) s5))
          all_goals
            refine (limit_ok _ _ _ _ (by have := hL.out; omega)).mono ?_
            rintro e w7 ⟨rfl, rfl⟩
            go_wp2
            go_ret2
            exact ⟨a6, c6, by rw [hL.out]; rfl, by rw [hL.out, HJ.out]; exact ho6, hbw6⟩
        · have hbj := ((Below.refl w3.heap.size w3).alloc (Nat.le_refl _) (.cells #[.int .u64 c1, .int .u64 d2] 31)).drew.drew
          have hbwj := hbw3.trans (hbj.mono hbw3.size)
          obtain ⟨u0, u1⟩ := cell_alloc2 w3 (.int .u64 c1) (.int .u64 d2) 31 _ rfl
          refine (copySpans_any (some ⟨b, off, none⟩) (S.take i) i cap (by simp; omega) _ (spans_take (hSw.moved hbwj) i) (by omega) (by simp)).mono ?_
          rintro e w4 ⟨av, cp, rfl, ho4, hb4⟩
          have v0 := (hb4.cell (World.block_lt_of_cell? _ _ u0)).trans u0
          have v1 := (hb4.cell (World.block_lt_of_cell? _ _ u1)).trans u1
          have hbw4 := hbwj.trans (hb4.mono hbwj.size)
          have ho4' := owned_base ho4 hbwj.size
          have s4 := hbw4.size
          clear hbj hbwj u0 u1 ho4 hb4
          go_wp2_with (first
            | (at_builtin; refine wpList_appS _ rfl (.tmp 54) (.tmp 56) rfl w.heap.size _ i _ (S.take i) (by simp; omega) c1 d2 rfl (ho4'.alloc _) _ rfl (cell_alloc2 _ _ _ _ _ rfl).1 (cell_alloc2 _ _ _ _ _ rfl).2 (by omega) (by simp; omega) ?_; intro g5 c5 w5 ho5 hg5; have hbw5 := below_grown (hbw4.alloc s4 _) (ho4'.alloc _) hg5 (Nat.le_refl _) (by simp; omega); have s5 := hbw5.size)
            | (at_builtin; refine wpList_appT _ rfl (.tmp 58) (.tmp 61) rfl w.heap.size _ _ _ (S.take i ++ [(c1, d2)]) (by simp; omega) rfl ho5 _ (S.drop (j' + 1)) _ _ (by simp) rfl (by intro h; split at h <;> cases h) (by split <;> first | exact spans_none_left (by omega) | exact spans_drop (hSw.moved hbw5) _) (by omega) (by omega) ?_; intro a6 c6 w6 ho6 hg6; have hbw6 := below_grown hbw5 ho5 hg6 (Nat.le_refl _) s5))
          all_goals
            refine (limit_no _ _ _ _ (by have := hL.out; omega) (by omega)).mono ?_
            rintro e w7 ⟨rfl, rfl⟩
            go_wp2
            go_ret2
            exact ⟨none, 0, rfl, World.ownsRow_nil _ _ _ _, hbw6⟩
      · have HJ : Hid (built f1 S (p, q) = S.take i ++ [(c1, q)] ++ S.drop (j' + 1)) := by unfold Hid; rw [HJ0.out, show min p c1 = c1 by omega, show max q d2 = q by omega]
        have hL : Hid ((built f1 S (p, q)).length = i + 1 + (S.length - (j' + 1))) := by unfold Hid; rw [HJ.out]; simp; omega
        rcases hTc with ⟨hlen, rfl, rfl⟩ | ⟨hlen, rfl, rfl⟩
        · have hbj := ((Below.refl w3.heap.size w3).alloc (Nat.le_refl _) (.cells #[.int .u64 c1, .int .u64 q] 31)).drew.drew
          have hbwj := hbw3.trans (hbj.mono hbw3.size)
          obtain ⟨u0, u1⟩ := cell_alloc2 w3 (.int .u64 c1) (.int .u64 q) 31 _ rfl
          refine (copySpans_any (some ⟨b, off, none⟩) (S.take i) i cap (by simp; omega) _ (spans_take (hSw.moved hbwj) i) (by omega) (by simp)).mono ?_
          rintro e w4 ⟨av, cp, rfl, ho4, hb4⟩
          have v0 := (hb4.cell (World.block_lt_of_cell? _ _ u0)).trans u0
          have v1 := (hb4.cell (World.block_lt_of_cell? _ _ u1)).trans u1
          have hbw4 := hbwj.trans (hb4.mono hbwj.size)
          have ho4' := owned_base ho4 hbwj.size
          have s4 := hbw4.size
          clear hbj hbwj u0 u1 ho4 hb4
          go_wp2_with (first
            | (at_builtin; refine wpList_appS _ rfl (.tmp 54) (.tmp 56) rfl w.heap.size _ i _ (S.take i) (by simp; omega) c1 q rfl (ho4'.alloc _) _ rfl (cell_alloc2 _ _ _ _ _ rfl).1 (cell_alloc2 _ _ _ _ _ rfl).2 (by omega) (by simp; omega) ?_; intro g5 c5 w5 ho5 hg5; have hbw5 := below_grown (hbw4.alloc s4 _) (ho4'.alloc _) hg5 (Nat.le_refl _) (by simp; omega); have s5 := hbw5.size)
            | (at_builtin; refine wpList_appT _ rfl (.tmp 58) (.tmp 61) rfl w.heap.size _ _ _ (S.take i ++ [(c1, q)]) (by simp; omega) rfl ho5 _ (S.drop (j' + 1)) _ _ (by simp) rfl (by intro h; split at h <;> cases h) (by split <;> first | exact spans_none_left (by omega) | exact spans_drop (hSw.moved hbw5) _) (by omega) (by omega) ?_; intro a6 c6 w6 ho6 hg6; have hbw6 := below_grown hbw5 ho5 hg6 (Nat.le_refl _) s5))
          all_goals
            refine (limit_ok _ _ _ _ (by have := hL.out; omega)).mono ?_
            rintro e w7 ⟨rfl, rfl⟩
            go_wp2
            go_ret2
            exact ⟨a6, c6, by rw [hL.out]; rfl, by rw [hL.out, HJ.out]; exact ho6, hbw6⟩
        · have hbj := ((Below.refl w3.heap.size w3).alloc (Nat.le_refl _) (.cells #[.int .u64 c1, .int .u64 q] 31)).drew.drew
          have hbwj := hbw3.trans (hbj.mono hbw3.size)
          obtain ⟨u0, u1⟩ := cell_alloc2 w3 (.int .u64 c1) (.int .u64 q) 31 _ rfl
          refine (copySpans_any (some ⟨b, off, none⟩) (S.take i) i cap (by simp; omega) _ (spans_take (hSw.moved hbwj) i) (by omega) (by simp)).mono ?_
          rintro e w4 ⟨av, cp, rfl, ho4, hb4⟩
          have v0 := (hb4.cell (World.block_lt_of_cell? _ _ u0)).trans u0
          have v1 := (hb4.cell (World.block_lt_of_cell? _ _ u1)).trans u1
          have hbw4 := hbwj.trans (hb4.mono hbwj.size)
          have ho4' := owned_base ho4 hbwj.size
          have s4 := hbw4.size
          clear hbj hbwj u0 u1 ho4 hb4
          go_wp2_with (first
            | (at_builtin; refine wpList_appS _ rfl (.tmp 54) (.tmp 56) rfl w.heap.size _ i _ (S.take i) (by simp; omega) c1 q rfl (ho4'.alloc _) _ rfl (cell_alloc2 _ _ _ _ _ rfl).1 (cell_alloc2 _ _ _ _ _ rfl).2 (by omega) (by simp; omega) ?_; intro g5 c5 w5 ho5 hg5; have hbw5 := below_grown (hbw4.alloc s4 _) (ho4'.alloc _) hg5 (Nat.le_refl _) (by simp; omega); have s5 := hbw5.size)
            | (at_builtin; refine wpList_appT _ rfl (.tmp 58) (.tmp 61) rfl w.heap.size _ _ _ (S.take i ++ [(c1, q)]) (by simp; omega) rfl ho5 _ (S.drop (j' + 1)) _ _ (by simp) rfl (by intro h; split at h <;> cases h) (by split <;> first | exact spans_none_left (by omega) | exact spans_drop (hSw.moved hbw5) _) (by omega) (by omega) ?_; intro a6 c6 w6 ho6 hg6; have hbw6 := below_grown hbw5 ho5 hg6 (Nat.le_refl _) s5))
          all_goals
            refine (limit_no _ _ _ _ (by have := hL.out; omega) (by omega)).mono ?_
            rintro e w7 ⟨rfl, rfl⟩
            go_wp2
            go_ret2
            exact ⟨none, 0, rfl, World.ownsRow_nil _ _ _ _, hbw6⟩
      · have HJ : Hid (built f1 S (p, q) = S.take i ++ [(p, d2)] ++ S.drop (j' + 1)) := by unfold Hid; rw [HJ0.out, show min p c1 = p by omega, show max q d2 = d2 by omega]
        have hL : Hid ((built f1 S (p, q)).length = i + 1 + (S.length - (j' + 1))) := by unfold Hid; rw [HJ.out]; simp; omega
        rcases hTc with ⟨hlen, rfl, rfl⟩ | ⟨hlen, rfl, rfl⟩
        · have hbj := ((Below.refl w3.heap.size w3).alloc (Nat.le_refl _) (.cells #[.int .u64 p, .int .u64 d2] 31)).drew.drew
          have hbwj := hbw3.trans (hbj.mono hbw3.size)
          obtain ⟨u0, u1⟩ := cell_alloc2 w3 (.int .u64 p) (.int .u64 d2) 31 _ rfl
          refine (copySpans_any (some ⟨b, off, none⟩) (S.take i) i cap (by simp; omega) _ (spans_take (hSw.moved hbwj) i) (by omega) (by simp)).mono ?_
          rintro e w4 ⟨av, cp, rfl, ho4, hb4⟩
          have v0 := (hb4.cell (World.block_lt_of_cell? _ _ u0)).trans u0
          have v1 := (hb4.cell (World.block_lt_of_cell? _ _ u1)).trans u1
          have hbw4 := hbwj.trans (hb4.mono hbwj.size)
          have ho4' := owned_base ho4 hbwj.size
          have s4 := hbw4.size
          clear hbj hbwj u0 u1 ho4 hb4
          go_wp2_with (first
            | (at_builtin; refine wpList_appS _ rfl (.tmp 54) (.tmp 56) rfl w.heap.size _ i _ (S.take i) (by simp; omega) p d2 rfl (ho4'.alloc _) _ rfl (cell_alloc2 _ _ _ _ _ rfl).1 (cell_alloc2 _ _ _ _ _ rfl).2 (by omega) (by simp; omega) ?_; intro g5 c5 w5 ho5 hg5; have hbw5 := below_grown (hbw4.alloc s4 _) (ho4'.alloc _) hg5 (Nat.le_refl _) (by simp; omega); have s5 := hbw5.size)
            | (at_builtin; refine wpList_appT _ rfl (.tmp 58) (.tmp 61) rfl w.heap.size _ _ _ (S.take i ++ [(p, d2)]) (by simp; omega) rfl ho5 _ (S.drop (j' + 1)) _ _ (by simp) rfl (by intro h; split at h <;> cases h) (by split <;> first | exact spans_none_left (by omega) | exact spans_drop (hSw.moved hbw5) _) (by omega) (by omega) ?_; intro a6 c6 w6 ho6 hg6; have hbw6 := below_grown hbw5 ho5 hg6 (Nat.le_refl _) s5))
          all_goals
            refine (limit_ok _ _ _ _ (by have := hL.out; omega)).mono ?_
            rintro e w7 ⟨rfl, rfl⟩
            go_wp2
            go_ret2
            exact ⟨a6, c6, by rw [hL.out]; rfl, by rw [hL.out, HJ.out]; exact ho6, hbw6⟩
        · have hbj := ((Below.refl w3.heap.size w3).alloc (Nat.le_refl _) (.cells #[.int .u64 p, .int .u64 d2] 31)).drew.drew
          have hbwj := hbw3.trans (hbj.mono hbw3.size)
          obtain ⟨u0, u1⟩ := cell_alloc2 w3 (.int .u64 p) (.int .u64 d2) 31 _ rfl
          refine (copySpans_any (some ⟨b, off, none⟩) (S.take i) i cap (by simp; omega) _ (spans_take (hSw.moved hbwj) i) (by omega) (by simp)).mono ?_
          rintro e w4 ⟨av, cp, rfl, ho4, hb4⟩
          have v0 := (hb4.cell (World.block_lt_of_cell? _ _ u0)).trans u0
          have v1 := (hb4.cell (World.block_lt_of_cell? _ _ u1)).trans u1
          have hbw4 := hbwj.trans (hb4.mono hbwj.size)
          have ho4' := owned_base ho4 hbwj.size
          have s4 := hbw4.size
          clear hbj hbwj u0 u1 ho4 hb4
          go_wp2_with (first
            | (at_builtin; refine wpList_appS _ rfl (.tmp 54) (.tmp 56) rfl w.heap.size _ i _ (S.take i) (by simp; omega) p d2 rfl (ho4'.alloc _) _ rfl (cell_alloc2 _ _ _ _ _ rfl).1 (cell_alloc2 _ _ _ _ _ rfl).2 (by omega) (by simp; omega) ?_; intro g5 c5 w5 ho5 hg5; have hbw5 := below_grown (hbw4.alloc s4 _) (ho4'.alloc _) hg5 (Nat.le_refl _) (by simp; omega); have s5 := hbw5.size)
            | (at_builtin; refine wpList_appT _ rfl (.tmp 58) (.tmp 61) rfl w.heap.size _ _ _ (S.take i ++ [(p, d2)]) (by simp; omega) rfl ho5 _ (S.drop (j' + 1)) _ _ (by simp) rfl (by intro h; split at h <;> cases h) (by split <;> first | exact spans_none_left (by omega) | exact spans_drop (hSw.moved hbw5) _) (by omega) (by omega) ?_; intro a6 c6 w6 ho6 hg6; have hbw6 := below_grown hbw5 ho5 hg6 (Nat.le_refl _) s5))
          all_goals
            refine (limit_no _ _ _ _ (by have := hL.out; omega) (by omega)).mono ?_
            rintro e w7 ⟨rfl, rfl⟩
            go_wp2
            go_ret2
            exact ⟨none, 0, rfl, World.ownsRow_nil _ _ _ _, hbw6⟩
      · have HJ : Hid (built f1 S (p, q) = S.take i ++ [(p, q)] ++ S.drop (j' + 1)) := by unfold Hid; rw [HJ0.out, show min p c1 = p by omega, show max q d2 = q by omega]
        have hL : Hid ((built f1 S (p, q)).length = i + 1 + (S.length - (j' + 1))) := by unfold Hid; rw [HJ.out]; simp; omega
        rcases hTc with ⟨hlen, rfl, rfl⟩ | ⟨hlen, rfl, rfl⟩
        · have hbj := ((Below.refl w3.heap.size w3).alloc (Nat.le_refl _) (.cells #[.int .u64 p, .int .u64 q] 31)).drew.drew
          have hbwj := hbw3.trans (hbj.mono hbw3.size)
          obtain ⟨u0, u1⟩ := cell_alloc2 w3 (.int .u64 p) (.int .u64 q) 31 _ rfl
          refine (copySpans_any (some ⟨b, off, none⟩) (S.take i) i cap (by simp; omega) _ (spans_take (hSw.moved hbwj) i) (by omega) (by simp)).mono ?_
          rintro e w4 ⟨av, cp, rfl, ho4, hb4⟩
          have v0 := (hb4.cell (World.block_lt_of_cell? _ _ u0)).trans u0
          have v1 := (hb4.cell (World.block_lt_of_cell? _ _ u1)).trans u1
          have hbw4 := hbwj.trans (hb4.mono hbwj.size)
          have ho4' := owned_base ho4 hbwj.size
          have s4 := hbw4.size
          clear hbj hbwj u0 u1 ho4 hb4
          go_wp2_with (first
            | (at_builtin; refine wpList_appS _ rfl (.tmp 54) (.tmp 56) rfl w.heap.size _ i _ (S.take i) (by simp; omega) p q rfl (ho4'.alloc _) _ rfl (cell_alloc2 _ _ _ _ _ rfl).1 (cell_alloc2 _ _ _ _ _ rfl).2 (by omega) (by simp; omega) ?_; intro g5 c5 w5 ho5 hg5; have hbw5 := below_grown (hbw4.alloc s4 _) (ho4'.alloc _) hg5 (Nat.le_refl _) (by simp; omega); have s5 := hbw5.size)
            | (at_builtin; refine wpList_appT _ rfl (.tmp 58) (.tmp 61) rfl w.heap.size _ _ _ (S.take i ++ [(p, q)]) (by simp; omega) rfl ho5 _ (S.drop (j' + 1)) _ _ (by simp) rfl (by intro h; split at h <;> cases h) (by split <;> first | exact spans_none_left (by omega) | exact spans_drop (hSw.moved hbw5) _) (by omega) (by omega) ?_; intro a6 c6 w6 ho6 hg6; have hbw6 := below_grown hbw5 ho5 hg6 (Nat.le_refl _) s5))
          all_goals
            refine (limit_ok _ _ _ _ (by have := hL.out; omega)).mono ?_
            rintro e w7 ⟨rfl, rfl⟩
            go_wp2
            go_ret2
            exact ⟨a6, c6, by rw [hL.out]; rfl, by rw [hL.out, HJ.out]; exact ho6, hbw6⟩
        · have hbj := ((Below.refl w3.heap.size w3).alloc (Nat.le_refl _) (.cells #[.int .u64 p, .int .u64 q] 31)).drew.drew
          have hbwj := hbw3.trans (hbj.mono hbw3.size)
          obtain ⟨u0, u1⟩ := cell_alloc2 w3 (.int .u64 p) (.int .u64 q) 31 _ rfl
          refine (copySpans_any (some ⟨b, off, none⟩) (S.take i) i cap (by simp; omega) _ (spans_take (hSw.moved hbwj) i) (by omega) (by simp)).mono ?_
          rintro e w4 ⟨av, cp, rfl, ho4, hb4⟩
          have v0 := (hb4.cell (World.block_lt_of_cell? _ _ u0)).trans u0
          have v1 := (hb4.cell (World.block_lt_of_cell? _ _ u1)).trans u1
          have hbw4 := hbwj.trans (hb4.mono hbwj.size)
          have ho4' := owned_base ho4 hbwj.size
          have s4 := hbw4.size
          clear hbj hbwj u0 u1 ho4 hb4
          go_wp2_with (first
            | (at_builtin; refine wpList_appS _ rfl (.tmp 54) (.tmp 56) rfl w.heap.size _ i _ (S.take i) (by simp; omega) p q rfl (ho4'.alloc _) _ rfl (cell_alloc2 _ _ _ _ _ rfl).1 (cell_alloc2 _ _ _ _ _ rfl).2 (by omega) (by simp; omega) ?_; intro g5 c5 w5 ho5 hg5; have hbw5 := below_grown (hbw4.alloc s4 _) (ho4'.alloc _) hg5 (Nat.le_refl _) (by simp; omega); have s5 := hbw5.size)
            | (at_builtin; refine wpList_appT _ rfl (.tmp 58) (.tmp 61) rfl w.heap.size _ _ _ (S.take i ++ [(p, q)]) (by simp; omega) rfl ho5 _ (S.drop (j' + 1)) _ _ (by simp) rfl (by intro h; split at h <;> cases h) (by split <;> first | exact spans_none_left (by omega) | exact spans_drop (hSw.moved hbw5) _) (by omega) (by omega) ?_; intro a6 c6 w6 ho6 hg6; have hbw6 := below_grown hbw5 ho5 hg6 (Nat.le_refl _) s5))
          all_goals
            refine (limit_no _ _ _ _ (by have := hL.out; omega) (by omega)).mono ?_
            rintro e w7 ⟨rfl, rfl⟩
            go_wp2
            go_ret2
            exact ⟨none, 0, rfl, World.ownsRow_nil _ _ _ _, hbw6⟩
    · have hije : i = j := by omega
      subst hije
      have hJ := HB.out (p, q) (.inl ⟨rfl, rfl⟩)
      have HJ : Hid (built f1 S (p, q) = S.take i ++ [(p, q)] ++ S.drop i) := built_is rfl hJ.1 hJ.2
      have hL : Hid ((built f1 S (p, q)).length = i + 1 + (S.length - i)) := by unfold Hid; rw [HJ.out]; simp; omega
      have tl : w.heap.size < w3.heap.size := World.block_lt_of_cell? w3 _ t0
      clear HB hJ hS3
      rcases hSw with h0 | ⟨b, off, rfl, hcc⟩
      · subst h0
        have hi0 : i = 0 := by simp at hil; omega
        subst hi0
        have hlen1 : (built f1 [] (p, q)).length = 1 := by rw [hL.out]; rfl
        obtain ⟨rfl, rfl⟩ : T = built f1 [] (p, q) ∧ c = 0 := by
          rcases hTc with ⟨_, h1, h2⟩ | ⟨h0, _, _⟩
          · exact ⟨h1, h2⟩
          · omega
        have HL1 : Hid ((built f1 [] (p, q)).length = 1) := hlen1
        clear hTc hlen1
        have hbj := ((Below.refl w3.heap.size w3).alloc (Nat.le_refl _) (.cells #[.int .u64 p, .int .u64 q] 31))
        have hbwj := hbw3.trans (hbj.mono hbw3.size)
        obtain ⟨u0, u1⟩ := cell_alloc2 w3 (.int .u64 p) (.int .u64 q) 31 _ rfl
        simp only [List.length_nil]
        cases a with
        | none =>
          have hcap := hnone rfl
          subst hcap
          go_wp2_with fail
          refine (copySpans_any none [] 0 0 rfl _ (.inl rfl) (by omega) (by simp)).mono ?_
          rintro e w4 ⟨av, cp, rfl, ho4, hb4⟩
          have v0 := (hb4.cell (World.block_lt_of_cell? _ _ u0)).trans u0
          have v1 := (hb4.cell (World.block_lt_of_cell? _ _ u1)).trans u1
          have hbw4 := hbwj.trans (hb4.mono hbwj.size)
          have ho4' := owned_base ho4 hbwj.size
          have s4 := hbw4.size
          clear hbj hbwj u0 u1 ho4 hb4
          go_wp2_with (first
            | (at_builtin; refine wpList_appS _ rfl (.tmp 54) (.tmp 56) rfl w.heap.size _ 0 _ [] rfl p q rfl (ho4'.alloc _) _ rfl (cell_alloc2 _ _ _ _ _ rfl).1 (cell_alloc2 _ _ _ _ _ rfl).2 (by omega) (by simp; omega) ?_; intro g5 c5 w5 ho5 hg5; have hbw5 := below_grown (hbw4.alloc s4 _) (ho4'.alloc _) hg5 (Nat.le_refl _) (by simp; omega); have s5 := hbw5.size)
            | (at_builtin; refine wpList_appT _ rfl (.tmp 58) (.tmp 61) rfl w.heap.size (some ⟨g5, 0, none⟩) 1 c5 [(p, q)] rfl rfl ho5 none [] 0 0 rfl rfl (fun _ => rfl) (.inl rfl) (by omega) (by omega) ?_; intro a6 c6 w6 ho6 hg6; have hbw6 := below_grown hbw5 ho5 hg6 (Nat.le_refl _) s5))
          refine (limit_ok _ _ _ _ (by omega)).mono ?_
          rintro e w7 ⟨rfl, rfl⟩
          go_wp2
          go_ret2
          exact ⟨a6, c6, by rw [HL1.out]; rfl, by rw [HL1.out, HJ.out]; exact ho6, hbw6⟩
        | some ad =>
          go_wp2_with fail
          refine (copySpans_any (some ad) [] 0 cap rfl _ (.inl rfl) (by omega) (by simp)).mono ?_
          rintro e w4 ⟨av, cp, rfl, ho4, hb4⟩
          have v0 := (hb4.cell (World.block_lt_of_cell? _ _ u0)).trans u0
          have v1 := (hb4.cell (World.block_lt_of_cell? _ _ u1)).trans u1
          have hbw4 := hbwj.trans (hb4.mono hbwj.size)
          have ho4' := owned_base ho4 hbwj.size
          have s4 := hbw4.size
          clear hbj hbwj u0 u1 ho4 hb4
          go_wp2_with (first
            | (at_builtin; refine wpList_appS _ rfl (.tmp 54) (.tmp 56) rfl w.heap.size _ 0 _ [] rfl p q rfl (ho4'.alloc _) _ rfl (cell_alloc2 _ _ _ _ _ rfl).1 (cell_alloc2 _ _ _ _ _ rfl).2 (by omega) (by simp; omega) ?_; intro g5 c5 w5 ho5 hg5; have hbw5 := below_grown (hbw4.alloc s4 _) (ho4'.alloc _) hg5 (Nat.le_refl _) (by simp; omega); have s5 := hbw5.size)
            | (at_builtin; refine wpList_appT _ rfl (.tmp 58) (.tmp 61) rfl w.heap.size (some ⟨g5, 0, none⟩) 1 c5 [(p, q)] rfl rfl ho5 _ [] 0 _ rfl rfl (by intro h; first | cases h | (split at h <;> cases h)) (.inl rfl) (by omega) (by omega) ?_; intro a6 c6 w6 ho6 hg6; have hbw6 := below_grown hbw5 ho5 hg6 (Nat.le_refl _) s5))
          refine (limit_ok _ _ _ _ (by omega)).mono ?_
          rintro e w7 ⟨rfl, rfl⟩
          go_wp2
          go_ret2
          exact ⟨a6, c6, by rw [HL1.out]; rfl, by rw [HL1.out, HJ.out]; exact ho6, hbw6⟩
      · have hSw : Spans w (some ⟨b, off, none⟩) S := .inr ⟨b, off, rfl, hcc⟩
        clear hcc
        rcases hTc with ⟨hlen, rfl, rfl⟩ | ⟨hlen, rfl, rfl⟩
        · go_wp2_with fail
          have hbj := ((Below.refl w3.heap.size w3).alloc (Nat.le_refl _) (.cells #[.int .u64 p, .int .u64 q] 31))
          have hbwj := hbw3.trans (hbj.mono hbw3.size)
          obtain ⟨u0, u1⟩ := cell_alloc2 w3 (.int .u64 p) (.int .u64 q) 31 _ rfl
          refine (copySpans_any (some ⟨b, off, none⟩) (S.take i) i cap (by simp; omega) _ (spans_take (hSw.moved hbwj) i) (by omega) (by simp)).mono ?_
          rintro e w4 ⟨av, cp, rfl, ho4, hb4⟩
          have v0 := (hb4.cell (World.block_lt_of_cell? _ _ u0)).trans u0
          have v1 := (hb4.cell (World.block_lt_of_cell? _ _ u1)).trans u1
          have hbw4 := hbwj.trans (hb4.mono hbwj.size)
          have ho4' := owned_base ho4 hbwj.size
          have s4 := hbw4.size
          clear hbj hbwj u0 u1 ho4 hb4
          go_wp2_with (first
            | (at_builtin; refine wpList_appS _ rfl (.tmp 54) (.tmp 56) rfl w.heap.size _ i _ (S.take i) (by simp; omega) p q rfl (ho4'.alloc _) _ rfl (cell_alloc2 _ _ _ _ _ rfl).1 (cell_alloc2 _ _ _ _ _ rfl).2 (by omega) (by simp; omega) ?_; intro g5 c5 w5 ho5 hg5; have hbw5 := below_grown (hbw4.alloc s4 _) (ho4'.alloc _) hg5 (Nat.le_refl _) (by simp; omega); have s5 := hbw5.size)
            | (at_builtin; refine wpList_appT _ rfl (.tmp 58) (.tmp 61) rfl w.heap.size _ _ _ (S.take i ++ [(p, q)]) (by simp; omega) rfl ho5 _ (S.drop (i)) _ _ (by simp) rfl (by intro h; split at h <;> cases h) (by split <;> first | exact spans_none_left (by omega) | exact spans_drop (hSw.moved hbw5) _) (by omega) (by omega) ?_; intro a6 c6 w6 ho6 hg6; have hbw6 := below_grown hbw5 ho5 hg6 (Nat.le_refl _) s5))
          all_goals
            refine (limit_ok _ _ _ _ (by have := hL.out; omega)).mono ?_
            rintro e w7 ⟨rfl, rfl⟩
            go_wp2
            go_ret2
            exact ⟨a6, c6, by rw [hL.out]; rfl, by rw [hL.out, HJ.out]; exact ho6, hbw6⟩
        · go_wp2_with fail
          have hbj := ((Below.refl w3.heap.size w3).alloc (Nat.le_refl _) (.cells #[.int .u64 p, .int .u64 q] 31))
          have hbwj := hbw3.trans (hbj.mono hbw3.size)
          obtain ⟨u0, u1⟩ := cell_alloc2 w3 (.int .u64 p) (.int .u64 q) 31 _ rfl
          refine (copySpans_any (some ⟨b, off, none⟩) (S.take i) i cap (by simp; omega) _ (spans_take (hSw.moved hbwj) i) (by omega) (by simp)).mono ?_
          rintro e w4 ⟨av, cp, rfl, ho4, hb4⟩
          have v0 := (hb4.cell (World.block_lt_of_cell? _ _ u0)).trans u0
          have v1 := (hb4.cell (World.block_lt_of_cell? _ _ u1)).trans u1
          have hbw4 := hbwj.trans (hb4.mono hbwj.size)
          have ho4' := owned_base ho4 hbwj.size
          have s4 := hbw4.size
          clear hbj hbwj u0 u1 ho4 hb4
          go_wp2_with (first
            | (at_builtin; refine wpList_appS _ rfl (.tmp 54) (.tmp 56) rfl w.heap.size _ i _ (S.take i) (by simp; omega) p q rfl (ho4'.alloc _) _ rfl (cell_alloc2 _ _ _ _ _ rfl).1 (cell_alloc2 _ _ _ _ _ rfl).2 (by omega) (by simp; omega) ?_; intro g5 c5 w5 ho5 hg5; have hbw5 := below_grown (hbw4.alloc s4 _) (ho4'.alloc _) hg5 (Nat.le_refl _) (by simp; omega); have s5 := hbw5.size)
            | (at_builtin; refine wpList_appT _ rfl (.tmp 58) (.tmp 61) rfl w.heap.size _ _ _ (S.take i ++ [(p, q)]) (by simp; omega) rfl ho5 _ (S.drop (i)) _ _ (by simp) rfl (by intro h; split at h <;> cases h) (by split <;> first | exact spans_none_left (by omega) | exact spans_drop (hSw.moved hbw5) _) (by omega) (by omega) ?_; intro a6 c6 w6 ho6 hg6; have hbw6 := below_grown hbw5 ho5 hg6 (Nat.le_refl _) s5))
          all_goals
            refine (limit_no _ _ _ _ (by have := hL.out; omega) (by omega)).mono ?_
            rintro e w7 ⟨rfl, rfl⟩
            go_wp2
            go_ret2
            exact ⟨none, 0, rfl, World.ownsRow_nil _ _ _ _, hbw6⟩
  exact ⟨fun h a cap w h1 h2 h3 h4 => main a cap w h1 h2 h3 h4 _ _ (.inl ⟨h, rfl, rfl⟩), fun h a cap w h1 h2 h3 h4 => main a cap w h1 h2 h3 h4 _ _ (.inr ⟨h, rfl, rfl⟩)⟩
end Go.Proofs.Ytgjcdejiolenkaa
