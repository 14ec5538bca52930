import Derived.Test.YthgggmkljnghmaaDoorSplit2
import Derived.Test.YthgggmkljnghmaaDoorFresh
namespace Go.Proofs.YthgggmkljnghmaaDoor
open Go.ChangeShapes Go.WideShapes Go.ChangeAt Go.RowKit
set_option linter.unusedVariables false

set_option maxHeartbeats 800000 in
theorem lFrame_same (k p s o wd : Int) (a a' : Option Addr) (ys : List Int) (n cap cap' : Nat) (w : World) (hz : Ints .u8 w a ys) (hz' : Ints .u8 w a' ys) (hn : ys.length = n) :
    Calls Tryd.prog 23 #[.agg #[.int .i64 k, .int .i64 p, .int .u32 s, .int .u64 o, .int .i64 wd, .slice a n cap], .agg #[.int .i64 k, .int .i64 p, .int .u32 s, .int .u64 o, .int .i64 wd, .slice a' n cap']] w fun e w' => e = .returned (.bool true) ∧ Below w.heap.size w w' := by
  have hb0 : Below w.heap.size w ((w.alloc (.cells #[.int .i64 k, .int .i64 p, .int .u32 s, .int .u64 o, .int .i64 wd, .slice a n cap] 30)).alloc (.cells #[.int .i64 k, .int .i64 p, .int .u32 s, .int .u64 o, .int .i64 wd, .slice a' n cap'] 30)) := ((Below.refl _ _).alloc (Nat.le_refl _) _).alloc (by simp) _
  have str1 := toString_any a ys n cap _ (hz.moved hb0) hn
  have str2 := toString_any a' ys n cap' _ (hz'.moved hb0) hn
  obtain ⟨S, hS⟩ : ∃ S, S = strOf ys := ⟨_, rfl⟩
  rw [← hS] at str1 str2
  clear hS
  go_enter Tryd.func23, Tryd.ntmps23
  go_wp2
  go_ret
  exact ⟨by simp, hb0⟩

/-- None of these values holds block r. -/
def Clear (vs : List (List Value)) (r : Option Nat) : Prop := ∀ v ∈ vs, ∀ u ∈ v, ∀ k, u.ownBlock = some k → some k ≠ r
theorem Items.grownC {w w' : World} {cs : List (List Int)} {vs : List (List Value)} {r : Option Nat} (h : Items w cs vs) (hc : Clear vs r) (hg : w.grownBy w' r) : Items w' cs vs := by
  induction cs generalizing vs with
  | nil =>
    cases vs with
    | nil => trivial
    | cons => exact h.elim
  | cons d cs ih =>
    cases vs with
    | nil => exact h.elim
    | cons u vs =>
      refine ⟨?_, ih h.2 (fun v hv => hc v (by simp [hv]))⟩
      obtain ⟨av, cp, rfl, ho⟩ := h.1
      refine ⟨av, cp, rfl, ho.kept hg ?_⟩
      cases hb : (Value.slice av (szOf d) cp).ownBlock with
      | none => exact .inl rfl
      | some k => exact .inr (fun e => hc _ (List.Mem.head _) (.slice av (szOf d) cp) (by simp) k hb e)
theorem Items.blocks {w : World} {cs : List (List Int)} {vs : List (List Value)} (h : Items w cs vs) : ∀ v ∈ vs, ∀ u ∈ v, ∀ k, u.ownBlock = some k → k < w.heap.size := by
  induction cs generalizing vs with
  | nil =>
    cases vs with
    | nil => simp
    | cons => exact h.elim
  | cons d cs ih =>
    cases vs with
    | nil => exact h.elim
    | cons u vs =>
      intro v hv x hx k hk
      simp at hv
      rcases hv with rfl | hv
      · obtain ⟨av, cp, rfl, ho⟩ := h.1
        simp at hx
        rcases hx with rfl | rfl | rfl | rfl | rfl | rfl <;> simp [Value.ownBlock] at hk
        exact (ho.lt k (by simpa [Value.ownBlock] using hk)).2
      · exact ih h.2 v hv x hx k hk
theorem Clear.fresh {w : World} {cs : List (List Int)} {vs : List (List Value)} {r : Option Nat} {g : Nat} (h : Clear vs r) (hi : Items w cs vs) (hg : r = some g ∨ w.heap.size ≤ g) : Clear vs (some g) := by
  intro v hv u hu k hk e
  have hkg := Option.some.inj e
  subst hkg
  rcases hg with rfl | hg
  · exact h v hv u hu k hk rfl
  · have := hi.blocks v hv u hu k hk
    omega
end Go.Proofs.YthgggmkljnghmaaDoor
