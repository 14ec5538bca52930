import Derived.Test.YtincfdhfoaimbaaSpStep
namespace Go.Proofs.Ytincfdhfoaimbaa
open Go.ChangeShapes Go.WideShapes Go.ChangeAt Go.RowKit
set_option linter.unusedVariables false

/-- The specification's answers so far. -/
structure OutsS (w : World) (base : Nat) (v ov : Value) (G : Got) : Prop where
  row : w.ownsRow base 47 5 ov G.length (flatO G)
  fr : ∀ p ∈ G, w.ownsRow base 49 3 p.2.1 p.1.frames.length (flat3 .i64 .u32 .i64 p.1.frames)
  ak : ∀ p ∈ G, Tags w base p.2.2 p.1.acked
  ap : ∀ p ∈ G, ∀ k, p.2.2.ownBlock = some k → v.ownBlock ≠ some k

theorem OutsS.start {w : World} {base : Nat} {v ov : Value} (h : w.ownsRow base 47 5 ov 0 []) : OutsS w base v ov [] :=
  ⟨h, by simp, by simp, by simp⟩

theorem OutsS.step {w w' : World} {B base : Nat} {c : Cf} {s : St} {v ov : Value} {all all' : List Int} {G : Got} {Q : Ot × St} {fv av v' : Value} (h : OutsS w base v ov G) (hS : SpAt w B base c s v all) (hbs : base ≤ w.heap.size) (hs : SteppedS w B base c v Q w' fv av v' all') :
    w'.ownsRow base 47 5 ov G.length (flatO G) ∧
    (∀ p ∈ G ++ [(Q.1, fv, av)], w'.ownsRow base 49 3 p.2.1 p.1.frames.length (flat3 .i64 .u32 .i64 p.1.frames)) ∧
    (∀ p ∈ G ++ [(Q.1, fv, av)], Tags w' base p.2.2 p.1.acked) ∧
    ∀ p ∈ G ++ [(Q.1, fv, av)], ∀ k, p.2.2.ownBlock = some k → v'.ownBlock ≠ some k := by
  have hv : ∀ {e : TypeId} {size : Nat} {u : Value} {n : Nat} {xs : List Value}, w.ownsRow base e size u n xs → e ≠ 85 → ∀ k, u.ownBlock = some k → k ≠ B := fun ho he k hk => by
    obtain ⟨cs, hc⟩ := row_block ho hk
    exact type_ne hc hS.blk he
  have hr : ∀ {e : TypeId} {size : Nat} {u : Value} {n : Nat} {xs : List Value}, w.ownsRow base e size u n xs → e ≠ 2 → ∀ k, u.ownBlock = some k → some k ≠ v.ownBlock := fun ho he k hk e => by
    obtain ⟨cs, hc⟩ := row_block ho hk
    obtain ⟨ct, hct⟩ := tags_block hS.row e.symm
    exact type_ne hc hct he rfl
  refine ⟨row_mv h.row hs.mv (hv h.row (by decide)) (hr h.row (by decide)), ?_, ?_, ?_⟩
  · intro p hp
    rcases List.mem_append.1 hp with hp | hp
    · exact row_mv (h.fr p hp) hs.mv (hv (h.fr p hp) (by decide)) (hr (h.fr p hp) (by decide))
    · simp at hp; subst hp
      exact own_base hs.fr hbs
  · intro p hp
    rcases List.mem_append.1 hp with hp | hp
    · refine (h.ak p hp).kept fun k hk => hs.mv.block k ((h.ak p hp).lt hk).2 ?_ (fun e => h.ap p hp k hk e.symm)
      obtain ⟨cs, hc⟩ := tags_block (h.ak p hp) hk
      exact type_ne hc hS.blk (by decide)
    · simp at hp; subst hp
      exact hs.ak.base hbs
  · intro p hp k hk
    rcases List.mem_append.1 hp with hp | hp
    · have h1 := ((h.ak p hp).lt hk).2
      rcases hs.blk with e | e
      · rw [e]; exact h.ap p hp k hk
      · intro e2; have := e k e2; omega
    · simp at hp; subst hp
      exact hs.ap k hk

theorem OutsS.push {w w' : World} {B base : Nat} {c : Cf} {s : St} {v ov : Value} {all : List Int} {n : Nat} {xs : List Value} {G : Got} {g cap : Nat} (hS : SpAt w B base c s v all) (hrow : w.ownsRow base 47 5 ov n xs)
    (fr : ∀ p ∈ G, w.ownsRow base 49 3 p.2.1 p.1.frames.length (flat3 .i64 .u32 .i64 p.1.frames)) (ak : ∀ p ∈ G, Tags w base p.2.2 p.1.acked)
    (ap : ∀ p ∈ G, ∀ k, p.2.2.ownBlock = some k → v.ownBlock ≠ some k)
    (hg : w.grownBy w' ov.ownBlock) (hnew : w'.ownsRow base 47 5 (.slice (some ⟨g, 0, none⟩) G.length cap) G.length (flatO G)) :
    OutsS w' base v (.slice (some ⟨g, 0, none⟩) G.length cap) G ∧ SpAt w' B base c s v all := by
  have hn : ∀ {e : TypeId} {size : Nat} {u : Value} {m : Nat} {ys : List Value}, w.ownsRow base e size u m ys → e ≠ 47 → u.ownBlock = none ∨ u.ownBlock ≠ ov.ownBlock := fun {e size u m ys} ho he => by
    cases hu : u.ownBlock with
    | none => exact .inl rfl
    | some k =>
      refine .inr fun e2 => ?_
      obtain ⟨cs, hc⟩ := row_block ho hu
      obtain ⟨ct, hct⟩ := row_block hrow e2.symm
      exact type_ne hc hct he rfl
  have ht : ∀ {u : Value} {ts : List Int}, Tags w base u ts → Tags w' base u ts := fun {u ts} hT => hT.kept fun k hk => hg.block k (hT.lt hk).2 (fun e => by
    obtain ⟨cs, hc⟩ := tags_block hT hk
    obtain ⟨ct, hct⟩ := row_block hrow e.symm
    exact type_ne hc hct (by decide) rfl)
  refine ⟨⟨hnew, fun p hp => (fr p hp).kept hg (hn (fr p hp) (by decide)), fun p hp => ht (ak p hp), ap⟩, ?_⟩
  have hB : some B ≠ ov.ownBlock := fun e => by
    obtain ⟨ct, hct⟩ := row_block hrow e.symm
    exact type_ne hS.blk hct (by decide) rfl
  exact ⟨(hg.block B hS.lt hB).trans hS.blk, ht hS.row, hS.len, hS.tg, hS.ne⟩

/-- All events, one behind the other, on the specification's side. -/
structure AllDoneS (w0 : World) (B base : Nat) (c : Cf) (es : Triples) (wr : World) (v ov : Value) (all : List Int) (G : Got) : Prop where
  snd : SpAt wr B base c (stAt c es) v all
  outs : OutsS wr base v ov G
  got : G.map (·.1) = outsF c (startF c) es
  mv : Mv w0 wr B none
theorem OutsS.same {w w' : World} {R base : Nat} {v ov : Value} {G : Got} (h : OutsS w base v ov G) (hs : ∀ k, k ≠ R → w'.heap[k]? = w.heap[k]?) (hR : R < base) : OutsS w' base v ov G :=
  ⟨row_same h.row hs hR, fun p hp => row_same (h.fr p hp) hs hR, fun p hp => (h.ak p hp).kept fun k hk => hs k (by have := ((h.ak p hp).lt hk).1; omega), h.ap⟩
theorem OutsS.based {w : World} {b2 base : Nat} {v ov : Value} {G : Got} (h : OutsS w base v ov G) (hb : b2 ≤ base) : OutsS w b2 v ov G :=
  ⟨own_base h.row hb, fun p hp => own_base (h.fr p hp) hb, fun p hp => (h.ak p hp).base hb, h.ap⟩
end Go.Proofs.Ytincfdhfoaimbaa
