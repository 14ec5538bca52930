import Derived.Test.YtgjcdejiolenkaaSpanDraw2
import Derived.Test.YtgjcdejiolenkaaSpanCut
import Derived.Test.YtgjcdejiolenkaaSpanGaps
import Derived.Test.YtgjcdejiolenkaaSpanDo
import Derived.Test.YtgjcdejiolenkaaSpanLaw
import Derived.Test.YtgjcdejiolenkaaSpanSize
namespace Go.Proofs.Ytgjcdejiolenkaa
open Go.ChangeShapes Go.WideShapes Go.ChangeAt Go.RowKit
set_option linter.unusedVariables false

set_option maxHeartbeats 1000000 in
theorem lSpans_same (a a' : Option Addr) (S : Sp) (cap cap' : Nat) (w : World) (hS : Spans w a S) (hS' : Spans w a' S) (hf : Fits S) (hl : S.length ≤ 1048576) :
    Calls Try.prog 26 #[.slice a S.length cap, .slice a' S.length cap'] w fun e w' => e = .returned (.bool true) ∧ Below w.heap.size w w' := by
  go_enter Try.func26, Try.ntmps26
  go_wp2_with fail
  go_loopw [5] (fun iv wr => ∃ k : Nat, k ≤ S.length ∧ iv = .int .i64 (k : Int) ∧ Below w.heap.size w wr) (fun iv _ => S.length - (intOf iv).toNat)
  case atStart => exact ⟨0, Nat.zero_le _, rfl, Below.refl _ _⟩
  case round =>
  obtain ⟨k, hk, rfl, hb⟩ := hrel
  by_cases hlt : k < S.length
  case pos =>
    have h1 := hS.moved hb
    have h2 := hS'.moved hb
    rcases h1 with h0 | ⟨b, off, rfl, hc⟩
    · rw [h0] at hlt; simp at hlt
    rcases h2 with h0 | ⟨b2, off2, rfl, hc2⟩
    · rw [h0] at hlt; simp at hlt
    obtain ⟨x0, x1⟩ := hc k hlt
    obtain ⟨y0, y1⟩ := hc2 k hlt
    obtain ⟨u, hu⟩ : ∃ u, u = (S[k]).1 := ⟨_, rfl⟩
    obtain ⟨v, hv⟩ : ∃ v, v = (S[k]).2 := ⟨_, rfl⟩
    rw [← hu] at x0 y0
    rw [← hv] at x1 y1
    have hki : (k : Int) < (S.length : Int) := by omega
    clear hc hc2 hu hv
    go_wp2_with fail
    go_quiet (fail)
    go_wp2_with fail
    go_roundw
    case rel => exact ⟨k + 1, by omega, by go_num, by first | exact drewsN hb _ | exact hb⟩
    case measure => simp [intOf]; omega
  case neg =>
  obtain rfl : k = S.length := by omega
  have hkk : ¬ (S.length : Int) < (S.length : Int) := by omega
  go_wp2_with fail
  go_ret
  exact ⟨rfl, hb⟩

theorem draw_at (a : Option Addr) (zs : List Int) (cap : Nat) (w : World) (hz : Ints .u8 w a zs) (hv : ∀ x ∈ zs, 0 ≤ x ∧ x ≤ 255) (hl : zs.length ≤ 2000000) :
    Calls Try.prog 25 #[.slice a zs.length cap] w fun e w' => ∃ (av : Option Addr) (cp n : Nat) (S : Sp) (p q : Int), e = .returned (.tuple #[.slice av n cp, .agg #[.int .u64 p, .int .u64 q]]) ∧ Hid (argsF zs = (S, p, q)) ∧ S.length = n ∧ (n ≤ 12 ∨ (999 ≤ n ∧ n ≤ 1001)) ∧ Fits S ∧
      (0 ≤ p ∧ p ≤ 18446744073709551615) ∧ (0 ≤ q ∧ q ≤ 18446744073709551615) ∧ w'.ownsRow w.heap.size 31 2 (.slice av n cp) n (flat S) ∧ Below w.heap.size w w' := by
  have hb0 : Below w.heap.size w (w.alloc (.cells #[.int .u64 0, .int .u64 0] 31)) := (Below.refl _ _).alloc (Nat.le_refl _) _
  have hR0 := heap_alloc_new w (.cells #[.int .u64 0, .int .u64 0] 31)
  have hs0 : (w.alloc (.cells #[.int .u64 0, .int .u64 0] 31)).heap.size = w.heap.size + 1 := by simp
  obtain ⟨V, hV⟩ : ∃ V, V = w.alloc (.cells #[.int .u64 0, .int .u64 0] 31) := ⟨_, rfl⟩
  rw [← hV] at hb0 hR0 hs0
  have hd := drawArgs_at a zs cap V (hz.moved hb0) hv hl
  go_enter Try.func25, Try.ntmps25
  go_wp2_with fail
  try rw [← hV]
  clear hV
  refine hd.mono ?_
  rintro e w1 ⟨av, cp, n, S, p, q, rfl, HA, hn, h12, hf, hp, hq, hrow, hb1⟩
  have hR1 := (hb1.block w.heap.size (by omega)).trans hR0
  have x0 := Go.Joins.cell_of_block hR1 0
  have x1 := Go.Joins.cell_of_block hR1 1
  have y0 := Go.Joins.unfrozen_of_block hR1 0
  have y1 := Go.Joins.unfrozen_of_block hR1 1
  have h0 := heap_setCell_same w1 w.heap.size 0 _ _ (.int .u64 p) hR1
  have h1 := heap_setCell_same _ w.heap.size 1 _ _ (.int .u64 q) h0
  have z0 := Go.Joins.cell_of_block h1 0
  have z1 := Go.Joins.cell_of_block h1 1
  have hbw := hb0.trans (hb1.mono hb0.size)
  have hown := owned_base (kept_new (kept_new hrow (grown_set w1 w.heap.size 0 (.int .u64 p)) (by omega)) (grown_set _ w.heap.size 1 (.int .u64 q)) (by omega)) (show w.heap.size ≤ V.heap.size by omega)
  have hbel := (hbw.setCell (p := ⟨w.heap.size, 0, none⟩) (Nat.le_refl _) (.int .u64 p)).setCell (p := ⟨w.heap.size, 1, none⟩) (Nat.le_refl _) (.int .u64 q)
  go_wp2_with fail
  exact bodyPost_ret (v := .tuple #[.slice av n cp, .agg #[.int .u64 p, .int .u64 q]]) (by simp [results, Try.results25, go_sem, z0, z1]) rfl ⟨_, _, _, _, _, _, rfl, HA, hn, h12, hf, hp, hq, hown, hbel⟩

/-- A row of spans that is read. -/
structure RowS (w : World) (a : Option Addr) (cap : Nat) (S : Sp) : Prop where
  s : Spans w a S
  le : S.length ≤ cap
  top : cap ≤ 9223372036854775807
  nil : a = none → cap = 0
theorem RowS.moved {w w' : World} {a : Option Addr} {cap : Nat} {S : Sp} (h : RowS w a cap S) (hb : Below w.heap.size w w') : RowS w' a cap S := ⟨h.s.moved hb, h.le, h.top, h.nil⟩
theorem RowS.owned {w : World} {base : Nat} {e : TypeId} {a : Option Addr} {n cap : Nat} {S : Sp} (hn : S.length = n) (h : w.ownsRow base e 2 (.slice a n cap) n (flat S)) : RowS w a cap S := by
  refine ⟨Spans.ofRow hn h, ?_, ?_, ?_⟩
  all_goals
    rcases h.2 with ⟨e, h0⟩ | ⟨g, cc, cur, e, _, _, h1, h2, _⟩
    all_goals
      simp only [Value.slice.injEq] at e
      obtain ⟨rfl, _, rfl⟩ := e
  · omega
  · omega
  · omega
  · unfold maxLen at h2; omega
  · intro _; rfl
  · intro h; cases h

/-- What an operation answers, on both sides. -/
structure Both (fs fi : Nat) (f : Bool → Bool → Bool) (S : Sp) (p q : Int) (T : Sp) (c : Int) : Prop where
  spec : GivesL fs S p q T c
  impl : GivesL fi S p q T c
  len : T.length ≤ 1000
  what : (((S.length ≤ 1000 ∧ Norm S) ∧ p ≤ q) ∧ T = built f S (p, q) ∧ c = 0) ∨ (c ≠ 0 ∧ T = [])
theorem bothA (S : Sp) (p q : Int) (hf : Fits S) (hl : S.length ≤ 1048576) (p0 : 0 ≤ p) (p1 : p ≤ 18446744073709551615) (q0 : 0 ≤ q) (q1 : q ≤ 18446744073709551615) : ∃ T c, Both 17 18 f1 S p q T c := by
  by_cases hg : (S.length ≤ 1000 ∧ Norm S) ∧ p ≤ q
  · by_cases hlen : (built f1 S (p, q)).length ≤ 1000
    · refine ⟨_, _, specAdd S p q hf hl p0 p1 q0 q1 _ 0 (.inl ⟨hg, hlen, rfl, rfl⟩), ?_, hlen, .inl ⟨hg, rfl, rfl⟩⟩
      by_cases e : p = q
      · subst e
        exact implAdd_empty S p hf hg.1.1 hg.1.2
      · exact (implAdd_full S p q hf hg.1.1 hg.1.2 p0 (by have := hg.2; omega) q1).1 hlen
    · refine ⟨[], 5, specAdd S p q hf hl p0 p1 q0 q1 _ 5 (.inr (.inl ⟨hg, by omega, rfl, rfl⟩)), ?_, by simp, .inr ⟨by decide, rfl⟩⟩
      by_cases e : p = q
      · subst e
        rw [add_empty hg.1.2] at hlen
        exact absurd hg.1.1 hlen
      · exact (implAdd_full S p q hf hg.1.1 hg.1.2 p0 (by have := hg.2; omega) q1).2 (by omega)
  · exact ⟨[], 1, specAdd S p q hf hl p0 p1 q0 q1 _ 1 (.inr (.inr ⟨hg, rfl, rfl⟩)), implAdd_no S p q hf hl hg, by simp, .inr ⟨by decide, rfl⟩⟩
theorem bothC (S : Sp) (p q : Int) (hf : Fits S) (hl : S.length ≤ 1048576) (p0 : 0 ≤ p) (p1 : p ≤ 18446744073709551615) (q0 : 0 ≤ q) (q1 : q ≤ 18446744073709551615) : ∃ T c, Both 21 22 f2 S p q T c := by
  by_cases hg : (S.length ≤ 1000 ∧ Norm S) ∧ p ≤ q
  · by_cases hlen : (built f2 S (p, q)).length ≤ 1000
    · exact ⟨_, _, specCut S p q hf hl p0 p1 q0 q1 _ 0 (.inl ⟨hg, hlen, rfl, rfl⟩), fun a cap w h1 h2 h3 h4 => implCut_main S p q hf hg.1.1 hg.1.2 p0 hg.2 q1 a cap w h1 h2 h3 h4 _ 0 (.inl ⟨hlen, rfl, rfl⟩), hlen, .inl ⟨hg, rfl, rfl⟩⟩
    · exact ⟨[], 5, specCut S p q hf hl p0 p1 q0 q1 _ 5 (.inr (.inl ⟨hg, by omega, rfl, rfl⟩)), fun a cap w h1 h2 h3 h4 => implCut_main S p q hf hg.1.1 hg.1.2 p0 hg.2 q1 a cap w h1 h2 h3 h4 _ 5 (.inr ⟨by omega, rfl, rfl⟩), by simp, .inr ⟨by decide, rfl⟩⟩
  · exact ⟨[], 1, specCut S p q hf hl p0 p1 q0 q1 _ 1 (.inr (.inr ⟨hg, rfl, rfl⟩)), implCut_no S p q hf hl hg, by simp, .inr ⟨by decide, rfl⟩⟩
theorem bothG (S : Sp) (p q : Int) (hf : Fits S) (hl : S.length ≤ 1048576) (p0 : 0 ≤ p) (p1 : p ≤ 18446744073709551615) (q0 : 0 ≤ q) (q1 : q ≤ 18446744073709551615) : ∃ T c, Both 23 24 f3 S p q T c := by
  by_cases hg : (S.length ≤ 1000 ∧ Norm S) ∧ p ≤ q
  · by_cases hlen : (built f3 S (p, q)).length ≤ 1000
    · exact ⟨_, _, specGaps S p q hf hl p0 p1 q0 q1 _ 0 (.inl ⟨hg, hlen, rfl, rfl⟩), fun a cap w h1 h2 h3 h4 => implGaps_main S p q hf hg.1.1 hg.1.2 p0 hg.2 q1 a cap w h1 h2 h3 h4 _ 0 (.inl ⟨hlen, rfl, rfl⟩), hlen, .inl ⟨hg, rfl, rfl⟩⟩
    · exact ⟨[], 5, specGaps S p q hf hl p0 p1 q0 q1 _ 5 (.inr (.inl ⟨hg, by omega, rfl, rfl⟩)), fun a cap w h1 h2 h3 h4 => implGaps_main S p q hf hg.1.1 hg.1.2 p0 hg.2 q1 a cap w h1 h2 h3 h4 _ 5 (.inr ⟨by omega, rfl, rfl⟩), by simp, .inr ⟨by decide, rfl⟩⟩
  · exact ⟨[], 1, specGaps S p q hf hl p0 p1 q0 q1 _ 1 (.inr (.inr ⟨hg, rfl, rfl⟩)), implGaps_no S p q hf hl hg, by simp, .inr ⟨by decide, rfl⟩⟩
/-- An add and a cut of a span that is not empty, on a good set: the code says whether it fits. -/
theorem stepA (S : Sp) (u v : Int) (hf : Fits S) (hl : S.length ≤ 1000) (hn : Norm S) (u0 : 0 ≤ u) (uv : u < v) (v1 : v ≤ 18446744073709551615) : ∃ T c, GivesL 18 S u v T c ∧ ((c = 0 ∧ T = built f1 S (u, v) ∧ T.length ≤ 1000) ∨ (c = 5 ∧ 1000 < (built f1 S (u, v)).length)) := by
  by_cases hlen : (built f1 S (u, v)).length ≤ 1000
  · exact ⟨_, 0, (implAdd_full S u v hf hl hn u0 uv v1).1 hlen, .inl ⟨rfl, rfl, hlen⟩⟩
  · exact ⟨[], 5, (implAdd_full S u v hf hl hn u0 uv v1).2 (by omega), .inr ⟨rfl, by omega⟩⟩
theorem stepC (S : Sp) (u v : Int) (hf : Fits S) (hl : S.length ≤ 1000) (hn : Norm S) (u0 : 0 ≤ u) (uv : u < v) (v1 : v ≤ 18446744073709551615) : ∃ T c, GivesL 22 S u v T c ∧ ((c = 0 ∧ T = built f2 S (u, v) ∧ T.length ≤ 1000) ∨ (c = 5 ∧ 1000 < (built f2 S (u, v)).length)) := by
  by_cases hlen : (built f2 S (u, v)).length ≤ 1000
  · exact ⟨_, 0, fun a cap w h1 h2 h3 h4 => implCut_main S u v hf hl hn u0 (by omega) v1 a cap w h1 h2 h3 h4 _ 0 (.inl ⟨hlen, rfl, rfl⟩), .inl ⟨rfl, rfl, hlen⟩⟩
  · exact ⟨[], 5, fun a cap w h1 h2 h3 h4 => implCut_main S u v hf hl hn u0 (by omega) v1 a cap w h1 h2 h3 h4 _ 5 (.inr ⟨by omega, rfl, rfl⟩), .inr ⟨rfl, by omega⟩⟩
end Go.Proofs.Ytgjcdejiolenkaa
