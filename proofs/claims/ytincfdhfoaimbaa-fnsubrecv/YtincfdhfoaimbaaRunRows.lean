import Derived.Test.YtincfdhfoaimbaaRunWalk
namespace Go.Proofs.Ytincfdhfoaimbaa
open Go.ChangeShapes Go.WideShapes Go.ChangeAt Go.RowKit
set_option linter.unusedVariables false

theorem flatO_cd (G : Got) (i : Nat) (hi : i < G.length) (x : Int) : (flatO G).set (i * 5 + 0) (.int .i64 x) = flatO (G.set i ({ (G[i]).1 with code := x }, (G[i]).2)) := by
  rw [← flatO_set G i _ hi]
  obtain ⟨f0, f1, f2, f3, f4⟩ := flatO_at hi
  have hs : ∀ (l : List Value) (j : Nat) (x : Value), l[j]? = some x → l.set j x = l := fun l j x hj => by
    obtain ⟨hl, he⟩ := List.getElem?_eq_some_iff.1 hj
    rw [← he, List.set_getElem_self]
  have g : ∀ (j : Nat) (y : Value), 0 < j → (flatO G)[i * 5 + j]? = some y → ((flatO G).set (i * 5) (.int .i64 x))[i * 5 + j]? = some y := fun j y hj h => by rw [List.getElem?_set_ne (by omega)]; exact h
  rw [hs _ _ _ (g 1 _ (by omega) f1), hs _ _ _ (g 2 _ (by omega) f2), hs _ _ _ (g 3 _ (by omega) f3), hs _ _ _ (g 4 _ (by omega) f4)]
  rfl
theorem flatO_dd (G : Got) (i : Nat) (hi : i < G.length) (x : Int) : (flatO G).set (i * 5 + 3) (.int .i64 x) = flatO (G.set i ({ (G[i]).1 with died := x }, (G[i]).2)) := by
  rw [← flatO_set G i _ hi]
  obtain ⟨f0, f1, f2, f3, f4⟩ := flatO_at hi
  have hs : ∀ (l : List Value) (j : Nat) (x : Value), l[j]? = some x → l.set j x = l := fun l j x hj => by
    obtain ⟨hl, he⟩ := List.getElem?_eq_some_iff.1 hj
    rw [← he, List.set_getElem_self]
  rw [hs _ _ _ f0, hs _ _ _ f1, hs _ _ _ f2, hs (List.set _ _ _) _ _ (by rw [List.getElem?_set_ne (by omega)]; exact f4)]
theorem flatO_rv (G : Got) (i : Nat) (hi : i < G.length) (x : Int) : (flatO G).set (i * 5 + 4) (.int .i64 x) = flatO (G.set i ({ (G[i]).1 with revived := x }, (G[i]).2)) := by
  rw [← flatO_set G i _ hi]
  obtain ⟨f0, f1, f2, f3, f4⟩ := flatO_at hi
  have hs : ∀ (l : List Value) (j : Nat) (x : Value), l[j]? = some x → l.set j x = l := fun l j x hj => by
    obtain ⟨hl, he⟩ := List.getElem?_eq_some_iff.1 hj
    rw [← he, List.set_getElem_self]
  rw [hs _ _ _ f0, hs _ _ _ f1, hs _ _ _ f2, hs _ _ _ f3]

section
variable {w w' : World} {base g cap n i : Nat} {G : Got} {o : Ot} {fv av : Value}
theorem at_get (hp : G[i]? = some (o, fv, av)) : ∃ h : i < G.length, G[i] = (o, fv, av) := List.getElem?_eq_some_iff.1 hp
theorem Outs.code1 (h : Outs w base nilV (.slice (some ⟨g, 0, none⟩) n cap) G) (hn : G.length = n) (hp : G[i]? = some (o, fv, av)) (x : Int) : Outs (w.setCell ⟨g, i * 5, none⟩ (.int .i64 x)) base nilV (.slice (some ⟨g, 0, none⟩) n cap) (G.set i ({ o with code := x }, fv, av)) := by
  subst hn
  obtain ⟨hi, e⟩ := at_get hp
  have := h.store i hi 0 (.int .i64 x) { (G[i]).1 with code := x } rfl rfl (flatO_cd G i hi x)
  rw [e] at this
  exact this
theorem Outs.died1 (h : Outs w base nilV (.slice (some ⟨g, 0, none⟩) n cap) G) (hn : G.length = n) (hp : G[i]? = some (o, fv, av)) (x : Int) : Outs (w.setCell ⟨g, i * 5 + 3, none⟩ (.int .i64 x)) base nilV (.slice (some ⟨g, 0, none⟩) n cap) (G.set i ({ o with died := x }, fv, av)) := by
  subst hn
  obtain ⟨hi, e⟩ := at_get hp
  have := h.store i hi 3 (.int .i64 x) { (G[i]).1 with died := x } rfl rfl (flatO_dd G i hi x)
  rw [e] at this
  exact this
theorem Outs.revd1 (h : Outs w base nilV (.slice (some ⟨g, 0, none⟩) n cap) G) (hn : G.length = n) (hp : G[i]? = some (o, fv, av)) (x : Int) : Outs (w.setCell ⟨g, i * 5 + 4, none⟩ (.int .i64 x)) base nilV (.slice (some ⟨g, 0, none⟩) n cap) (G.set i ({ o with revived := x }, fv, av)) := by
  subst hn
  obtain ⟨hi, e⟩ := at_get hp
  have := h.store i hi 4 (.int .i64 x) { (G[i]).1 with revived := x } rfl rfl (flatO_rv G i hi x)
  rw [e] at this
  exact this
theorem Outs.frames1 {ov : Value} (h : Outs w base nilV ov G) (hp : G[i]? = some (o, fv, av)) (F : Triples) (hF : F.length = o.frames.length) (hg : w.grownBy w' fv.ownBlock) (hnew : w'.ownsRow base 49 3 fv o.frames.length (flat3 .i64 .u32 .i64 F)) : Outs w' base nilV ov (G.set i ({ o with frames := F }, fv, av)) := by
  obtain ⟨hi, e⟩ := at_get hp
  have := h.frames i hi F (by rw [e]; exact hF) (by rw [e]; exact hg) (by rw [e]; exact hnew)
  rw [e] at this
  exact this
theorem Outs.acked1 {ov : Value} (h : Outs w base nilV ov G) (hp : G[i]? = some (o, fv, av)) (A : List Int) (hA : A.length = o.acked.length) (hg : w.grownBy w' av.ownBlock) (hnew : w'.ownsRow base 2 1 av o.acked.length (A.map (.int .i64))) : Outs w' base nilV ov (G.set i ({ o with acked := A }, fv, av)) := by
  obtain ⟨hi, e⟩ := at_get hp
  have := h.acked i hi A (by rw [e]; exact hA) (by rw [e]; exact hg) (by rw [e]; exact hnew)
  rw [e] at this
  exact this
/-- What lies at one place of the row of answers. -/
theorem at5 {e : TypeId} {v : Value} (h : w.ownsRow base e 5 v n (flatO G)) (hn : G.length = n) (hp : G[i]? = some (o, fv, av)) : ∃ g cap, v = .slice (some ⟨g, 0, none⟩) n cap ∧ base ≤ g ∧ g < w.heap.size ∧ w.cell? ⟨g, i * 5, none⟩ = some (.int .i64 o.code) ∧ w.cell? ⟨g, i * 5 + 1, none⟩ = some fv ∧ w.cell? ⟨g, i * 5 + 2, none⟩ = some av ∧ w.cell? ⟨g, i * 5 + 3, none⟩ = some (.int .i64 o.died) ∧ w.cell? ⟨g, i * 5 + 4, none⟩ = some (.int .i64 o.revived) ∧ ∀ j, w.frozen? ⟨g, j, none⟩ = false := by
  obtain ⟨hi, he⟩ := at_get hp
  have hl := h.1
  obtain ⟨f0, f1, f2, f3, f4⟩ := flatO_at hi
  rw [he] at f0 f1 f2 f3 f4
  rcases h.2 with ⟨_, h0⟩ | ⟨g, cap, cur, rfl, hb, hh, _⟩
  · omega
  · refine ⟨g, cap, rfl, hb, (Array.getElem?_eq_some_iff.1 hh).1, ?_, ?_, ?_, ?_, ?_, fun j => h.frozenAt _⟩
    · rw [h.cellAt (i * 5) (by omega)]; exact f0
    · rw [h.cellAt (i * 5 + 1) (by omega)]; exact f1
    · rw [h.cellAt (i * 5 + 2) (by omega)]; exact f2
    · rw [h.cellAt (i * 5 + 3) (by omega)]; exact f3
    · rw [h.cellAt (i * 5 + 4) (by omega)]; exact f4
end

set_option maxHeartbeats 1000000 in
set_option maxRecDepth 100000 in
theorem eqSubOutS_same (G G' : Got) (b1 b2 : Nat) (a a' : Option Addr) (n cap cap' : Nat) (w : World) (hn : G.length = n) (hG : G.map (·.1) = G'.map (·.1)) (hsm : Small G) (h1 : Outs w b1 nilV (.slice a n cap) G) (h2 : OutsS w b2 nilV (.slice a' n cap') G') (hl : n ≤ 1048576) :
    Calls Try.prog 30 #[.slice a n cap, .slice a' n cap'] w fun e w' => e = .returned (.bool true) ∧ Below w.heap.size w w' := by
  have hn' : G'.length = n := by
    have e := congrArg List.length hG
    simp only [List.length_map] at e
    omega
  have HN : Hid (G.length = n) := hn
  have HN2 : Hid (G'.length = n) := hn'
  have HG : Hid (G.map (·.1) = G'.map (·.1)) := hG
  clear hn hn' hG
  go_enter Try.func30, Try.ntmps30
  go_wp2
  go_loopw [5] (fun i wr => ∃ k : Nat, k ≤ n ∧ i = .int .i64 k ∧ Below w.heap.size w wr) (fun i _ => n - (intOf i).toNat)
  case atStart => exact ⟨0, Nat.zero_le _, rfl, Below.refl _ _⟩
  case round =>
    obtain ⟨k, hk, rfl, hb⟩ := hrel
    by_cases hlt : k < n
    · obtain ⟨⟨o, fv, av⟩, hp⟩ : ∃ p, G[k]? = some p := ⟨_, List.getElem?_eq_getElem (by have := HN.out; omega)⟩
      obtain ⟨⟨o', fv', av'⟩, hp'⟩ : ∃ p, G'[k]? = some p := ⟨_, List.getElem?_eq_getElem (by have := HN2.out; omega)⟩
      obtain rfl : o = o' := by
        have e1 : (G.map (·.1))[k]? = some o := by rw [List.getElem?_map, hp]; rfl
        have e2 : (G'.map (·.1))[k]? = some o' := by rw [List.getElem?_map, hp']; rfl
        rw [HG.out, e2] at e1
        exact (Option.some.inj e1).symm
      have hm := List.mem_of_getElem? hp
      have hm' := List.mem_of_getElem? hp'
      have hs := hsm _ hm
      have hf := h1.fr _ hm
      have hf' := h2.fr _ hm'
      have ha := h1.ak _ hm
      have ha' := h2.ak _ hm'
      simp only at hs hf hf' ha ha'
      obtain ⟨fa, fc, rfl⟩ := own_shape hf
      obtain ⟨fa', fc', rfl⟩ := own_shape hf'
      obtain ⟨aa, ac, rfl⟩ := own_shape ha
      obtain ⟨aa', ac', rfl, _, _, _, hi'⟩ := ha'.shape
      have L1 := (Lie3.ofRow rfl hf).moved hb
      have L2 := (Lie3.ofRow rfl hf').moved hb
      have L3 := (Ints.ofRow ha).moved3 hb
      have L4 := hi'.moved3 hb
      obtain ⟨g, cc, e1, _, lg, q0, q1, q2, q3, q4, _⟩ := at5 h1.row rfl hp
      obtain ⟨g', cc', e2, _, lg', t0, t1, t2, t3, t4, _⟩ := at5 h2.row rfl hp'
      simp only [Value.slice.injEq] at e1 e2
      obtain ⟨rfl, en1, rfl⟩ := e1
      obtain ⟨rfl, en2, rfl⟩ := e2
      clear en1 en2
      have r0 := (hb.cell (p := ⟨g, k * 5, none⟩) lg).trans q0
      have r1 := (hb.cell (p := ⟨g, k * 5 + 1, none⟩) lg).trans q1
      have r2 := (hb.cell (p := ⟨g, k * 5 + 2, none⟩) lg).trans q2
      have r3 := (hb.cell (p := ⟨g, k * 5 + 3, none⟩) lg).trans q3
      have r4 := (hb.cell (p := ⟨g, k * 5 + 4, none⟩) lg).trans q4
      have v0 := (hb.cell (p := ⟨g', k * 5, none⟩) lg').trans t0
      have v1 := (hb.cell (p := ⟨g', k * 5 + 1, none⟩) lg').trans t1
      have v2 := (hb.cell (p := ⟨g', k * 5 + 2, none⟩) lg').trans t2
      have v3 := (hb.cell (p := ⟨g', k * 5 + 3, none⟩) lg').trans t3
      have v4 := (hb.cell (p := ⟨g', k * 5 + 4, none⟩) lg').trans t4
      obtain ⟨nf, hnf⟩ : ∃ nf, nf = o.frames.length := ⟨_, rfl⟩
      obtain ⟨na, hna⟩ : ∃ na, na = o.acked.length := ⟨_, rfl⟩
      rw [← hnf] at r1 v1 hs
      rw [← hna] at r2 v2 hs
      have HNF : Hid (nf = o.frames.length) := hnf
      have HNA : Hid (na = o.acked.length) := hna
      have hlA : nf ≤ 1048576 := by omega
      have hlB : na ≤ 1048576 := by omega
      have hcl := fun (W : World) (hW : Below wr.heap.size wr W) => eqSubOut_same o.code o.died o.revived fa fa' aa aa' o.frames o.acked nf na fc fc' ac ac' W HNF.out.symm HNA.out.symm hlA hlB (L1.moved hW) (L2.moved hW) (L3.moved3 hW) (L4.moved3 hW)
      have hclA := hcl wr (Below.refl _ _)
      have hclB := hcl wr.drew (Below.refl _ _).drew
      clear hcl q0 q1 q2 q3 q4 t0 t1 t2 t3 t4 hnf hna hp hp' hm hm' hf hf' ha ha' hi' L1 L2 L3 L4 hs h1 h2 hsm
      go_wp2
      go_region_with (go_at_call 49; with_reducible (first | refine Calls.mono hclB ?_ | refine Calls.mono hclA ?_); rintro e w2 ⟨rfl, hb2⟩)
      all_goals
        have hb3 := hb.drew.trans (hb2.mono hb.size)
        clear hb hb2
        go_wp2
        go_roundw
        case rel => exact ⟨k + 1, by omega, by go_num, by first | exact hb3 | exact hb3.drew⟩
        case measure => simp [intOf]; omega
    · go_wp2
      go_ret
      exact ⟨rfl, hb⟩
end Go.Proofs.Ytincfdhfoaimbaa
