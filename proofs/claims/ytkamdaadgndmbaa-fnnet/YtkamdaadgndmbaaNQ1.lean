import Derived.Test.YtkamdaadgndmbaaNOuts
import Derived.Maps.AppendAt
import Derived.Deep.AppendLies
import Derived.Laws.AppendOwnNone
import Derived.Deep.RegionLaw
import Derived.Laws.Small
namespace Go.Proofs.Ytkamdaadgndmbaa
open Go.ChangeShapes Go.WideShapes Go.ChangeAt Go.RowKit
set_option linter.unusedVariables false

/-- What a method leaves behind: nothing that was there has changed but block B and a row. -/
structure Mv (w w' : World) (B : Nat) (r : Option Nat) : Prop where
  os : w'.os = w.os
  tape : w'.tape = w.tape
  output : w'.output = w.output
  size : w.heap.size ≤ w'.heap.size
  block : ∀ k, k < w.heap.size → k ≠ B → r ≠ some k → w'.heap[k]? = w.heap[k]?
theorem Mv.refl (w : World) (B : Nat) (r : Option Nat) : Mv w w B r := ⟨rfl, rfl, rfl, Nat.le_refl _, fun _ _ _ _ => rfl⟩
theorem Mv.grown {w w1 w2 : World} {B : Nat} {r r' : Option Nat} (h : Mv w w1 B r) (g : w1.grownBy w2 r') (hr : r' = none ∨ r' = r ∨ r' = some B ∨ ∀ k, r' = some k → w.heap.size ≤ k) : Mv w w2 B r :=
  ⟨g.os.trans h.os, g.tape.trans h.tape, g.output.trans h.output, Nat.le_trans h.size g.size, fun k hk h1 h2 => (g.block k (Nat.lt_of_lt_of_le hk h.size) (fun e => by
    rcases hr with h3 | h3 | h3 | h3
    · rw [h3] at e; cases e
    · exact h2 (h3.symm.trans e.symm)
    · rw [h3] at e; exact h1 (Option.some.inj e)
    · have := h3 k e.symm; omega)).trans (h.block k hk h1 h2)⟩
theorem Mv.trans {w w1 w2 : World} {B : Nat} {r r' : Option Nat} (h : Mv w w1 B r) (g : Mv w1 w2 B r') (hr : r' = none ∨ r' = r ∨ ∀ k, r' = some k → w.heap.size ≤ k) : Mv w w2 B r :=
  ⟨g.os.trans h.os, g.tape.trans h.tape, g.output.trans h.output, Nat.le_trans h.size g.size, fun k hk h1 h2 => (g.block k (Nat.lt_of_lt_of_le hk h.size) h1 (fun e => by
    rcases hr with h3 | h3 | h3
    · rw [h3] at e; cases e
    · exact h2 (h3.symm.trans e)
    · have := h3 k e; omega)).trans (h.block k hk h1 h2)⟩
theorem Mv.ofBelow {w w' : World} {B : Nat} {r : Option Nat} (h : Below w.heap.size w w') : Mv w w' B r := ⟨h.os, h.tape, h.output, h.size, fun k hk _ _ => h.block k hk⟩

theorem within_yes (x l h : Int) (w : World) (h1 : l ≤ x) (h2 : x ≤ h) : Calls Try.prog 39 #[.int .i64 x, .int .i64 l, .int .i64 h] w fun e w' => e = .returned (.bool true) ∧ w' = w := by
  go_enter Try.func39, Try.ntmps39
  go_wp2
  go_ret
  exact ⟨by first | rfl | (apply ret_bool; simpa using h2), rfl⟩
theorem within_no (x l h : Int) (w : World) (hn : ¬ (l ≤ x ∧ x ≤ h)) : Calls Try.prog 39 #[.int .i64 x, .int .i64 l, .int .i64 h] w fun e w' => e = .returned (.bool false) ∧ w' = w := by
  by_cases h1 : l ≤ x
  · have h2 : ¬ x ≤ h := fun h2 => hn ⟨h1, h2⟩
    clear hn
    go_enter Try.func39, Try.ntmps39
    go_wp2
    go_ret
    exact ⟨by first | rfl | (apply ret_bool; simpa using h2), rfl⟩
  · clear hn
    go_enter Try.func39, Try.ntmps39
    go_wp2
    go_ret
    exact ⟨by first | rfl | (apply ret_bool; simpa using h1), rfl⟩

/-- A copy of bytes. -/
theorem copyB (a : Option Addr) (T : List Int) (n cap : Nat) (hn : T.length = n) (w : World) (hT : Ints .u8 w a T) (hl : n ≤ 1048576) (hnone : a = none → cap = 0) :
    Calls Try.prog 43 #[.slice a n cap] w fun e w' => ∃ av cp, e = .returned (.slice av n cp) ∧ w'.ownsRow w.heap.size 5 1 (.slice av n cp) n (T.map (.int .u8)) ∧ Below w.heap.size w w' := by
  have hnil := World.ownsRow_nil w w.heap.size 5 1
  obtain ⟨i0, hi, hz0, hz1, hz2⟩ := info_parts info_byte
  cases a with
  | none =>
    have hT0 : T = [] := by
      rcases hT with h | ⟨_, _, h, _⟩
      · exact h
      · cases h
    subst hT0
    have hc0 := hnone rfl
    simp at hn
    subst hn hc0
    go_enter Try.func43, Try.ntmps43
    go_wp2_with (at_builtin; refine wpList_append_own_none (by rfl) _ _ 22 (by rfl) w.heap.size 5 i0 1 Try.underlying22 hi _ 0 [] (by rfl) hnil (by rfl) ?_)
    go_ret
    exact ⟨none, 0, rfl, hnil, Below.refl _ _⟩
  | some ad =>
    have g1 : ∀ j u, (T.map (Value.int .u8))[j]? = some u → w.cell? (ad.add j) = some u := by
      intro j u hj
      rcases hT with h0 | ⟨b, off, h0, hc⟩
      · rw [h0] at hj
        simp at hj
      · simp only [Option.some.injEq] at h0
        subst h0
        have hjl : j < T.length := by simpa using (List.getElem?_eq_some_iff.1 hj).1
        rw [Addr.add_lit, hc j hjl, ← hj]
        simp [hjl]
    have g2 : ∀ u ∈ T.map (Value.int .u8), u.oneCell' = true := by
      intro u hu
      simp at hu
      obtain ⟨x, _, rfl⟩ := hu
      rfl
    have G1 : Hid _ := g1
    have G2 : Hid _ := g2
    clear g1 g2
    go_enter Try.func43, Try.ntmps43
    go_wp2_with (at_builtin; refine wpList_append_own _ (by rfl) _ _ 22 (by rfl) w.heap.size 5 i0 (.int .u8 0) 1 1 Try.underlying22 hi hz0 hz1 hz2 rfl (by decide) (.slice none 0 0) 0 [] (by rfl) hnil ad n cap (T.map (.int .u8)) (by rfl) (by simp [hn]) G1.out G2.out (by unfold maxLen; omega) (by omega) (Nat.le_refl _) ?_; intro v' w1 ho1 hg1 _; obtain ⟨av, cp, rfl⟩ := own_shape ho1)
    go_ret
    exact ⟨av, cp, by simp, by simpa using ho1, (Below.refl _ _).grown hg1 (Nat.le_refl _) (by simp [Value.ownBlock])⟩

theorem qsize_any (X j : Nat) (av : Option Addr) (n cap : Nat) (w : World) (hc : w.cell? ⟨X, j, none⟩ = some (.slice av n cap)) (hl : n ≤ 1048576) :
    Calls Try.prog 55 #[.pointer (some ⟨X, j, none⟩)] w fun e w' => e = .returned (.int .i64 (n : Int)) ∧ w' = w := by
  go_enter Try.func55, Try.ntmps55
  go_wp2_with fail
  go_ret
  exact ⟨rfl, rfl⟩

theorem info_bs : (Try.prog.info? 22).map (fun i => (i.zero, i.size, i.bytes)) = some (some (.slice none 0 0), 1, 24) := by kernel_rfl
set_option maxRecDepth 100000 in
set_option maxHeartbeats 400000 in
/-- One more behind the others. -/
theorem qput_any (X j base n cap : Nat) (av : Option Addr) (xs : List Value) (ua : Option Addr) (ul uc : Nat) (w : World) (cs : Array Value) (t : TypeId) (ht : t ≠ 22) (hX : w.heap[X]? = some (.cells cs t (0, 0))) (hj : cs[j]? = some (.slice av n cap)) (hown : w.ownsRow base 22 1 (.slice av n cap) n xs) (hb : base ≤ w.heap.size) (hl : n ≤ 64) :
    Calls Try.prog 56 #[.pointer (some ⟨X, j, none⟩), .slice ua ul uc] w fun e w' => ∃ g cp, e = .returned (.tuple #[]) ∧ w'.ownsRow base 22 1 (.slice (some ⟨g, 0, none⟩) (n + 1) cp) (n + 1) (xs ++ [.slice ua ul uc]) ∧ w'.heap[X]? = some (.cells (cs.setIfInBounds j (.slice (some ⟨g, 0, none⟩) (n + 1) cp)) t (0, 0)) ∧ ((Value.slice av n cap).ownBlock = some g ∨ w.heap.size ≤ g) ∧ Mv w w' X (Value.slice av n cap).ownBlock := by
  obtain ⟨i0, hi, hz0, hz1, hz2⟩ := info_parts info_bs
  have hXl : X < w.heap.size := (Array.getElem?_eq_some_iff.1 hX).1
  have k0 : w.cell? ⟨X, j, none⟩ = some (.slice av n cap) := (Go.Joins.cell_of_block hX j).trans hj
  have hjl : j < cs.size := (Array.getElem?_eq_some_iff.1 hj).1
  have HC : Hid (∀ w2, (w.alloc (.cells #[.slice ua ul uc] 22)).grownBy w2 (Value.slice av n cap).ownBlock → w2.heap[X]? = some (.cells cs t (0, 0))) := by
    intro w2 hg
    refine (hg.block X (by simp; omega) (fun e => ?_)).trans ((Below.heap_alloc _ _ _ hXl).trans hX)
    obtain ⟨c2, hc2⟩ := row_block hown e.symm
    exact type_ne hX hc2 ht rfl
  have hnb := box_new w (.cells #[.slice ua ul uc] 22) _ rfl
  have hnews : ∀ j u, [Value.slice ua ul uc][j]? = some u → (w.alloc (.cells #[.slice ua ul uc] 22)).cell? ((⟨w.heap.size, 0, none⟩ : Addr).add j) = some u := by
    intro j u hj
    match j, hj with
    | 0, hj => simp at hj; subst hj; rw [Addr.add_lit]; exact Go.Joins.cell_of_block hnb 0
  have HNW : Hid _ := hnews
  clear hnews
  go_enter Try.func56, Try.ntmps56
  go_wp2_with (at_builtin; refine wpList_append_lies _ (by rfl) _ _ 38 (by rfl) base 22 i0 (.slice none 0 0) 1 24 Try.underlying38 hi hz0 hz1 hz2 rfl (by decide) (.slice av n cap) n xs (by rfl) (own_alloc hown _) ⟨w.heap.size, 0, none⟩ 1 1 [.slice ua ul uc] (by rfl) rfl HNW.out (by simp [Value.oneCell']) (by omega) (by unfold maxLen; omega) (by omega) (by simp; omega) (w.heap.size + 1) (by simp) ?_; intro g cp w2 ho2 hg2 hat2 hlt2; have hX2 := HC.out w2 hg2; have k2 : w2.cell? ⟨X, j, none⟩ = some (.slice av n cap) := (Go.Joins.cell_of_block hX2 j).trans hj; have f2 := Go.Joins.unfrozen_of_block hX2 j)
  have hne : g ≠ X := by
    rintro rfl
    obtain ⟨c2, hc2⟩ := row_block ho2 (k := g) rfl
    exact type_ne hX2 hc2 ht rfl
  refine bodyPost_end (v := .tuple #[]) (by simp [results, Try.results56, go_sem]) rfl ⟨g, cp, rfl, row_stays ho2 fun k hk => ?_, heap_setCell_same _ _ _ _ _ _ hX2, ?_, ?_⟩
  · obtain rfl : g = k := by simpa [Value.ownBlock] using hk
    exact heap_setCell_other _ _ _ _ hne
  · rcases hat2 with h | h
    · exact .inl h
    · exact .inr (by omega)
  · exact (((Mv.refl w X (Value.slice av n cap).ownBlock).grown (World.grownBy_alloc w _ none) (.inl rfl)).grown hg2 (.inr (.inl rfl))).grown (grown_set w2 X j _) (.inr (.inr (.inl rfl)))
end Go.Proofs.Ytkamdaadgndmbaa
