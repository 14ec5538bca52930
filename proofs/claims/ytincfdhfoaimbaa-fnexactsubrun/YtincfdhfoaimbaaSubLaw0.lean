import Derived.Test.YtincfdhfoaimbaaSpState
import Derived.Test.YtincfdhfoaimbaaLawRow3
namespace Go.Proofs.Ytincfdhfoaimbaa
open Go.ChangeShapes Go.WideShapes Go.ChangeAt Go.RowKit
set_option linter.unusedVariables false

abbrev vw (q0 q1 : Int) (tv : Value) (t r c p d : Int) : Value := .agg #[.int .u32 q0, .int .u32 q1, tv, .int .i64 t, .int .i64 r, .int .i64 c, .int .i64 p, .int .i64 d]
theorem Ints.moved3 {k : IntKind} {w w' : World} {a : Option Addr} {zs : List Int} (h : Ints k w a zs) (hb : Below w.heap.size w w') : Ints k w' a zs := by
  rcases h with h | ⟨b, off, ha, hc⟩
  · exact .inl h
  · exact .inr ⟨b, off, ha, fun i hi => (hb.cell (World.block_lt_of_cell? w _ (hc i hi))).trans (hc i hi)⟩

set_option maxHeartbeats 1000000 in
set_option maxRecDepth 100000 in
theorem eqSubView_same (q0 q1 t r c p d : Int) (a a' : Option Addr) (T : List Int) (n cap cap' : Nat) (w : World) (hn : T.length = n) (hz : Ints .i64 w a T) (hz' : Ints .i64 w a' T) (hl : n ≤ 1048576) :
    Calls Try.prog 25 #[vw q0 q1 (.slice a n cap) t r c p d, vw q0 q1 (.slice a' n cap') t r c p d] w fun e w' => e = .returned (.bool true) ∧ Below w.heap.size w w' := by
  obtain ⟨W, hW⟩ : ∃ W, W = (w.alloc (.cells (vwCells q0 q1 (.slice a n cap) t r c p d) 54)).alloc (.cells (vwCells q0 q1 (.slice a' n cap') t r c p d) 54) := ⟨_, rfl⟩
  have hb : Below w.heap.size w W := by rw [hW]; exact ((Below.refl _ _).alloc (Nat.le_refl _) _).alloc (by simp) _
  have h1 : W.heap[w.heap.size]? = some (.cells (vwCells q0 q1 (.slice a n cap) t r c p d) 54) := by rw [hW]; exact (Below.heap_alloc _ _ _ (by simp)).trans (box_new _ _ _ rfl)
  have h2 : W.heap[w.heap.size + 1]? = some (.cells (vwCells q0 q1 (.slice a' n cap') t r c p d) 54) := by rw [hW]; exact box_new _ _ _ (by simp)
  have hsz : W.heap.size = w.heap.size + 2 := by rw [hW]; simp
  have hcl := eqInt64S_same a a' T n cap cap' W hn (hz.moved3 hb) (hz'.moved3 hb) hl
  obtain ⟨⟨k0, k1, k2, k3, k4, k5, k6, k7⟩, _⟩ := cells8 h1
  obtain ⟨⟨j0, j1, j2, j3, j4, j5, j6, j7⟩, _⟩ := cells8 h2
  clear hz hz'
  go_enter Try.func25, Try.ntmps25
  go_wp2_with fail
  rw [← hW]
  clear hW
  refine hcl.mono ?_
  rintro e w2 ⟨rfl, hb2⟩
  obtain ⟨⟨k0, k1, k2, k3, k4, k5, k6, k7⟩, _⟩ := cells8 ((hb2.block _ (by omega)).trans h1)
  obtain ⟨⟨j0, j1, j2, j3, j4, j5, j6, j7⟩, _⟩ := cells8 ((hb2.block _ (by omega)).trans h2)
  have hbw := hb.trans (hb2.mono hb.size)
  clear hcl hb2 h1 h2 hsz
  go_wp2
  go_ret
  exact ⟨rfl, hbw⟩

theorem markSubView_any (q0 q1 t r c p d : Int) (a : Option Addr) (T : List Int) (n cap base : Nat) (w : World) (hn : T.length = n) (ho : w.ownsRow base 2 1 (.slice a n cap) n (T.map (.int .i64))) (hl : n ≤ 1048576) :
    Calls Try.prog 28 #[vw q0 q1 (.slice a n cap) t r c p d, .int .i64 1] w fun e w' => e = .returned (.int .i64 (1 + (n : Int))) ∧ w'.ownsRow base 2 1 (.slice a n cap) n ((markedW 1 n).map (.int .i64)) ∧ w.grownBy w' (Value.slice a n cap).ownBlock := by
  have hcl := markInt64S_from (.slice a n cap) T 1 (w.alloc (.cells (vwCells q0 q1 (.slice a n cap) t r c p d) 54)) base n hn (own_alloc ho _) hl (by omega) (by omega)
  go_enter Try.func28, Try.ntmps28
  go_wp2_with fail
  refine hcl.mono ?_
  rintro e w2 ⟨rfl, ho2, hg2⟩
  go_wp2
  go_ret
  exact ⟨rfl, ho2, grown_trans (World.grownBy_alloc w _ _) hg2⟩

theorem heldSubView_any (q0 q1 t r c p d : Int) (a : Option Addr) (n cap : Nat) (w : World) (hz : Ints .i64 w a (markedW 1 n)) (hl : n ≤ 1048576) :
    Calls Try.prog 29 #[vw q0 q1 (.slice a n cap) t r c p d, .int .i64 1] w fun e w' => e = .returned (.int .i64 (1 + (n : Int))) ∧ Below w.heap.size w w' := by
  have hb : Below w.heap.size w (w.alloc (.cells (vwCells q0 q1 (.slice a n cap) t r c p d) 54)) := (Below.refl _ _).alloc (Nat.le_refl _) _
  have hcl := heldInt64S_from a 1 n cap (w.alloc (.cells (vwCells q0 q1 (.slice a n cap) t r c p d) 54)) (hz.moved3 hb) hl (by omega) (by omega)
  clear hz
  go_enter Try.func29, Try.ntmps29
  go_wp2_with fail
  refine hcl.mono ?_
  rintro e w2 ⟨rfl, rfl⟩
  go_wp2
  go_ret
  exact ⟨rfl, hb⟩

/-- What both SubStates give, all cases in one. -/
def GivesI (c : Cf) (es : Triples) (q0 q1 t r n p d code : Int) (T : List Int) : Prop := ∀ (a : Option Addr) (cap : Nat) (w : World), Lie3 .i64 .i64 .u32 w a es →
  Calls Try.prog 19 #[cfV c, .slice a es.length cap] w fun e w' => ∃ av cp, e = .returned (.tuple #[vw q0 q1 (.slice av T.length cp) t r n p d, .int .i64 code]) ∧ w'.ownsRow w.heap.size 2 1 (.slice av T.length cp) T.length (T.map (.int .i64)) ∧ Below w.heap.size w w'
def GivesS (c : Cf) (es : Triples) (q0 q1 t r n p d code : Int) (T : List Int) : Prop := ∀ (a : Option Addr) (cap : Nat) (w : World), Lie3 .i64 .i64 .u32 w a es →
  Calls Try.prog 22 #[cfV c, .slice a es.length cap] w fun e w' => ∃ av cp, e = .returned (.tuple #[vw q0 q1 (.slice av T.length cp) t r n p d, .int .i64 code]) ∧ Tags w' w.heap.size (.slice av T.length cp) T ∧ Below w.heap.size w w'

theorem bothState (c : Cf) (es : Triples) (hi : 0 ≤ c.isn ∧ c.isn ≤ 4294967295) (hx : ∀ e ∈ es, 0 ≤ e.2.2 ∧ e.2.2 ≤ 4294967295) : ∃ q0 q1 t r n p d code T, T.length ≤ 1048576 ∧ GivesI c es q0 q1 t r n p d code T ∧ GivesS c es q0 q1 t r n p d code T := by
  by_cases hc : c.Ok
  · by_cases hl : es.length ≤ 4000
    · refine ⟨_, _, _, _, _, _, _, 0, (stAt c es).tags, ?_, fun a cap w hz => implState_ok c hc hi a es _ cap w rfl hl hx hz, fun a cap w hz => specState_ok c hc hi a es _ cap w rfl hl hx hz⟩
      have := (good_at hc es).all
      omega
    · refine ⟨0, 0, 0, 0, 0, 0, 0, 5, [], by simp, fun a cap w hz => ?_, fun a cap w hz => ?_⟩
      · refine (implState_limit c hc hi a _ cap w (by omega)).mono ?_
        rintro e w' ⟨rfl, hb⟩
        exact ⟨none, 0, rfl, World.ownsRow_nil _ _ _ _, hb⟩
      · refine (specState_limit c hc hi a _ cap w (by omega)).mono ?_
        rintro e w' ⟨rfl, hb⟩
        exact ⟨none, 0, rfl, Tags.nil _ _, hb⟩
  · refine ⟨0, 0, 0, 0, 0, 0, 0, 17, [], by simp, fun a cap w hz => ?_, fun a cap w hz => ?_⟩
    · refine (implState_bad c hc a _ cap w).mono ?_
      rintro e w' ⟨rfl, hb⟩
      exact ⟨none, 0, rfl, World.ownsRow_nil _ _ _ _, hb⟩
    · refine (specState_bad c hc a _ cap w).mono ?_
      rintro e w' ⟨rfl, hb⟩
      exact ⟨none, 0, rfl, Tags.nil _ _, hb⟩
end Go.Proofs.Ytincfdhfoaimbaa
