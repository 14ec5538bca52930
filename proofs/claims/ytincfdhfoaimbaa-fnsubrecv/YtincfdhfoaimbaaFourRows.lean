import Derived.Test.YtincfdhfoaimbaaEvRow
namespace Go.Proofs.Ytincfdhfoaimbaa
open Go.ChangeShapes Go.WideShapes Go.ChangeAt Go.RowKit
set_option linter.unusedVariables false

theorem info_w32 : (Try.prog.info? 22).map (fun i => (i.zero, i.size, i.bytes)) = some (some (.int .u32 0), 1, 4) := by kernel_rfl
def Apart (u v : Value) : Prop := ∀ k, u.ownBlock = some k → v.ownBlock ≠ some k
theorem Apart.symm {u v : Value} (h : Apart u v) : Apart v u := fun k h1 h2 => h k h2 h1
/-- Three rows of numbers and one of words that grow, each in a block of its own. -/
structure R4 (w0 : World) (sv av qv tv : Value) (S A Q T : List Int) (w : World) : Prop where
  bl : Below w0.heap.size w0 w
  s : Tags w w0.heap.size sv S
  a : Tags w w0.heap.size av A
  q : w.ownsRow w0.heap.size 22 1 qv Q.length (Q.map (.int .u32))
  t : Tags w w0.heap.size tv T
  sa : Apart sv av
  st : Apart sv tv
  ta : Apart av tv
section
variable {w0 w w' : World} {sv av qv tv : Value} {S A Q T : List Int}
theorem R4.kept (h : R4 w0 sv av qv tv S A Q T w) (hb : Below w.heap.size w w') : R4 w0 sv av qv tv S A Q T w' :=
  ⟨h.bl.trans (hb.mono h.bl.size), h.s.kept fun k hk => hb.block k (h.s.lt hk).2, h.a.kept fun k hk => hb.block k (h.a.lt hk).2, owned_kept h.q hb, h.t.kept fun k hk => hb.block k (h.t.lt hk).2, h.sa, h.st, h.ta⟩
theorem R4.alloc (h : R4 w0 sv av qv tv S A Q T w) (o : Obj) : R4 w0 sv av qv tv S A Q T (w.alloc o) := h.kept ((Below.refl _ _).alloc (Nat.le_refl _) o)
theorem R4.drewN (h : R4 w0 sv av qv tv S A Q T w) (n : Nat) : R4 w0 sv av qv tv S A Q T (w.drewN n) := h.kept (drewsN (Below.refl _ _) n)
theorem R4.drew (h : R4 w0 sv av qv tv S A Q T w) : R4 w0 sv av qv tv S A Q T w.drew := h.kept (Below.refl _ _).drew
theorem apart_new {u v v' : Value} {n : Nat} (h : Apart u v) (hat : v'.ownBlock = v.ownBlock ∨ ∀ k, v'.ownBlock = some k → n ≤ k) (hu : ∀ k, u.ownBlock = some k → k < n) : Apart u v' := by
  intro k h1 h2
  rcases hat with e | e
  · exact h k h1 (e ▸ h2)
  · have := e k h2
    have := hu k h1
    omega
theorem tags_grown {u v : Value} {U : List Int} {base : Nat} (h : Tags w base u U) (hg : w.grownBy w' v.ownBlock) (hap : Apart u v) : Tags w' base u U :=
  h.kept fun k hk => hg.block k (h.lt hk).2 (fun e => hap k hk e.symm)
theorem words_grown {qv v : Value} {Q V : List Int} {base : Nat} {n : Nat} (hq : w.ownsRow base 22 1 qv n (Q.map (.int .u32))) (hv : Tags w base v V) (hg : w.grownBy w' v.ownBlock) : w'.ownsRow base 22 1 qv n (Q.map (.int .u32)) :=
  hq.kept hg (by
    cases hu : qv.ownBlock with
    | none => exact .inl rfl
    | some i =>
      refine .inr fun e2 => ?_
      obtain ⟨cs, hcs⟩ := row_block hq hu
      obtain ⟨ct, hct⟩ := tags_block hv e2.symm
      exact type_ne hcs hct (by decide) rfl)
theorem below_tags {v : Value} {V : List Int} (hb : Below w0.heap.size w0 w) (h : Tags w w0.heap.size v V) (hg : w.grownBy w' v.ownBlock) : Below w0.heap.size w0 w' := hb.grown hg hb.size (fun k hk => (h.lt hk).1)
theorem R4.pushS {sv' : Value} {c : Int} (h : R4 w0 sv av qv tv S A Q T w) (hT : Tags w' w0.heap.size sv' (S ++ [c])) (hg : w.grownBy w' sv.ownBlock) (hat : sv'.ownBlock = sv.ownBlock ∨ ∀ k, sv'.ownBlock = some k → w.heap.size ≤ k) : R4 w0 sv' av qv tv (S ++ [c]) A Q T w' :=
  ⟨below_tags h.bl h.s hg, hT, tags_grown h.a hg h.sa.symm, words_grown h.q h.s hg, tags_grown h.t hg h.st.symm, (apart_new h.sa.symm hat fun k hk => (h.a.lt hk).2).symm, (apart_new h.st.symm hat fun k hk => (h.t.lt hk).2).symm, h.ta⟩
theorem R4.pushA {av' : Value} {c : Int} (h : R4 w0 sv av qv tv S A Q T w) (hT : Tags w' w0.heap.size av' (A ++ [c])) (hg : w.grownBy w' av.ownBlock) (hat : av'.ownBlock = av.ownBlock ∨ ∀ k, av'.ownBlock = some k → w.heap.size ≤ k) : R4 w0 sv av' qv tv S (A ++ [c]) Q T w' :=
  ⟨below_tags h.bl h.a hg, tags_grown h.s hg h.sa, hT, words_grown h.q h.a hg, tags_grown h.t hg h.ta.symm, apart_new h.sa hat fun k hk => (h.s.lt hk).2, h.st, (apart_new h.ta.symm hat fun k hk => (h.t.lt hk).2).symm⟩
theorem R4.pushT {tv' : Value} {c : Int} (h : R4 w0 sv av qv tv S A Q T w) (hT : Tags w' w0.heap.size tv' (T ++ [c])) (hg : w.grownBy w' tv.ownBlock) (hat : tv'.ownBlock = tv.ownBlock ∨ ∀ k, tv'.ownBlock = some k → w.heap.size ≤ k) : R4 w0 sv av qv tv' S A Q (T ++ [c]) w' :=
  ⟨below_tags h.bl h.t hg, tags_grown h.s hg h.st, tags_grown h.a hg h.ta, words_grown h.q h.t hg, hT, h.sa, apart_new h.st hat fun k hk => (h.s.lt hk).2, apart_new h.ta hat fun k hk => (h.a.lt hk).2⟩
theorem R4.pushQ {qv' : Value} {c : Int} (h : R4 w0 sv av qv tv S A Q T w) (hT : w'.ownsRow w0.heap.size 22 1 qv' (Q ++ [c]).length ((Q ++ [c]).map (.int .u32))) (hg : w.grownBy w' qv.ownBlock) : R4 w0 sv av qv' tv S A (Q ++ [c]) T w' := by
  have ht : ∀ {u : Value} {U : List Int}, Tags w w0.heap.size u U → Tags w' w0.heap.size u U := fun {u U} hu => hu.kept fun k hk => hg.block k (hu.lt hk).2 (fun e => by
    obtain ⟨cs, hcs⟩ := tags_block hu hk
    obtain ⟨ct, hct⟩ := row_block h.q e.symm
    exact type_ne hcs hct (by decide) rfl)
  exact ⟨h.bl.grown hg h.bl.size (fun k hk => (h.q.lt k hk).1), ht h.s, ht h.a, hT, ht h.t, h.sa, h.st, h.ta⟩
end
theorem R4.start (w : World) : R4 w (.slice (some ⟨w.heap.size, 0, none⟩) 0 0) (.slice (some ⟨w.heap.size + 1, 0, none⟩) 0 0) (.slice (some ⟨w.heap.size + 2, 0, none⟩) 0 0) (.slice (some ⟨w.heap.size + 3, 0, none⟩) 0 0) [] [] [] [] ((((w.alloc (.cells #[] 2)).alloc (.cells #[] 2)).alloc (.cells #[] 22)).alloc (.cells #[] 2)) := by
  have s1 : (w.alloc (.cells #[] 2)).heap.size = w.heap.size + 1 := by simp
  have s2 : ((w.alloc (.cells #[] 2)).alloc (.cells #[] 2)).heap.size = w.heap.size + 2 := by simp
  have s3 : (((w.alloc (.cells #[] 2)).alloc (.cells #[] 2)).alloc (.cells #[] 22)).heap.size = w.heap.size + 3 := by simp
  have tg : ∀ (W : World) (g : Nat), W.heap[g]? = some (.cells #[] 2 (0, 0)) → w.heap.size ≤ g → Tags W w.heap.size (.slice (some ⟨g, 0, none⟩) 0 0) [] := fun W g h1 h2 => .inr ⟨g, 0, 0, #[], rfl, h2, h1, Nat.le_refl _, by simp, Nat.zero_le _, by simp⟩
  have ap : ∀ g g' : Nat, g ≠ g' → Apart (.slice (some ⟨g, 0, none⟩) 0 0) (.slice (some ⟨g', 0, none⟩) 0 0) := fun g g' h k h1 h2 => by
    simp [Value.ownBlock] at h1 h2
    omega
  refine ⟨((((Below.refl _ _).alloc (Nat.le_refl _) _).alloc (by simp) _).alloc (by simp; omega) _).alloc (by simp; omega) _, tg _ _ ?_ (Nat.le_refl _), tg _ _ ?_ (by omega), ?_, tg _ _ ?_ (by omega), ap _ _ (by omega), ap _ _ (by omega), ap _ _ (by omega)⟩
  · rw [Below.heap_alloc _ _ _ (by omega), Below.heap_alloc _ _ _ (by omega), Below.heap_alloc _ _ _ (by omega)]
    exact box_new _ _ _ rfl
  · rw [Below.heap_alloc _ _ _ (by omega), Below.heap_alloc _ _ _ (by omega)]
    exact box_new _ _ _ s1.symm
  · have h := World.ownsRow_made (base := w.heap.size) (e := 22) (size := 1) ((w.alloc (.cells #[] 2)).alloc (.cells #[] 2)) #[] 0 (by omega) (by unfold maxLen; omega) rfl
    have h2 := own_alloc h (.cells #[] 2)
    rw [s2] at h2
    exact h2
  · exact box_new _ _ _ s3.symm
end Go.Proofs.Ytincfdhfoaimbaa
