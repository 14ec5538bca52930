import Derived.Test.YtincfdhfoaimbaaSubRun
namespace Go.Proofs.Ytincfdhfoaimbaa
open Go.ChangeShapes Go.WideShapes Go.ChangeAt Go.RowKit
set_option linter.unusedVariables false

theorem info_so : (Try.prog.info? 47).map (fun i => (i.zero, i.size, i.bytes)) = some (some (.agg #[.int .i64 0, .slice none 0 0, .slice none 0 0, .int .i64 0, .int .i64 0]), 5, 72) := by kernel_rfl

/-- One append of one answer that lies in block b, in a walk. -/
theorem wpList_app5 (w : World) {ops : Array Oper} {rest : List Oper} {o : Oper} {a : Act} {Q : Exit → Act → World → Prop} (hgd : o.guard = none) (s x : Operand)
    (ho : o.op = .call { callee := .builtin .append, args := #[s, x], argTypes := #[39, 39] })
    (base : Nat) (av : Option Addr) (n cap : Nat) (xs : List Value) (hs : a.eval s = .slice av n cap) (hown : w.ownsRow base 47 5 (.slice av n cap) n xs)
    (b : Nat) (u0 u1 u2 u3 u4 : Value) (hx : a.eval x = .slice (some ⟨b, 0, none⟩) 1 1) (hb : w.heap[b]? = some (.cells #[u0, u1, u2, u3, u4] 47)) (h1 : ∀ u ∈ [u0, u1, u2, u3, u4], u.oneCell' = true) (hl : n ≤ 1048576) (hbase : base ≤ w.heap.size)
    (h : ∀ g cap' w', w'.ownsRow base 47 5 (.slice (some ⟨g, 0, none⟩) (n + 1) cap') (n + 1) (xs ++ [u0, u1, u2, u3, u4]) → w.grownBy w' (Value.slice av n cap).ownBlock →
      wpList Try.prog ops Q rest (a.put o.dst (.slice (some ⟨g, 0, none⟩) (n + 1) cap')) w') : wpList Try.prog ops Q (o :: rest) a w := by
  obtain ⟨i0, hi, hz0, hz1, hz2⟩ := info_parts info_so
  obtain ⟨⟨f0, f1, f2, f3, f4⟩, _⟩ := cells5 hb
  refine wpList_append_own w hgd s x 39 ho base 47 i0 (.agg #[.int .i64 0, .slice none 0 0, .slice none 0 0, .int .i64 0, .int .i64 0]) 5 72 Try.underlying39 hi hz0 hz1 hz2 rfl (by decide) (.slice av n cap) n xs hs hown ⟨b, 0, none⟩ 1 1 [u0, u1, u2, u3, u4] hx rfl ?_ h1 ?_ ?_ hbase ?_
  · intro j u hj
    match j, hj with
    | 0, hj => simp at hj; subst hj; rw [← f0]; congr 1
    | 1, hj => simp at hj; subst hj; rw [← f1]; congr 1
    | 2, hj => simp at hj; subst hj; rw [← f2]; congr 1
    | 3, hj => simp at hj; subst hj; rw [← f3]; congr 1
    | 4, hj => simp at hj; subst hj; rw [← f4]; congr 1
  · unfold maxLen; omega
  · omega
  · intro v' w' h2 h3 h4
    rcases h2.2 with ⟨rfl, h0⟩ | ⟨g, cap', cur, rfl, rest⟩
    · omega
    · exact h g cap' w' h2 h3

theorem row_block {w : World} {base : Nat} {e : TypeId} {size : Nat} {u : Value} {n : Nat} {xs : List Value} (h : w.ownsRow base e size u n xs) {k : Nat} (hk : u.ownBlock = some k) : ∃ cs, w.heap[k]? = some (.cells cs e (0, 0)) := by
  rcases h.2 with ⟨rfl, _⟩ | ⟨g, c, cur, rfl, _, hg, _⟩
  · cases hk
  · obtain rfl : g = k := by simpa [Value.ownBlock] using hk
    exact ⟨cur, hg⟩
theorem tags_block {w : World} {base : Nat} {v : Value} {ts : List Int} (h : Tags w base v ts) {k : Nat} (hk : v.ownBlock = some k) : ∃ cs, w.heap[k]? = some (.cells cs 2 (0, 0)) := by
  rcases h with ⟨rfl, _⟩ | ⟨g, off, cap, cur, rfl, _, hg, _⟩
  · cases hk
  · obtain rfl : g = k := by simpa [Value.ownBlock] using hk
    exact ⟨cur, hg⟩
theorem type_ne {w : World} {j k : Nat} {c1 c2 : Array Value} {t1 t2 : TypeId} {f1 f2 : Nat × Nat} (h1 : w.heap[j]? = some (.cells c1 t1 f1)) (h2 : w.heap[k]? = some (.cells c2 t2 f2)) (h : t1 ≠ t2) : j ≠ k := by
  rintro rfl
  rw [h1] at h2
  simp only [Option.some.injEq, Obj.cells.injEq] at h2
  exact h h2.2.1
theorem row_mv {w w' : World} {B base : Nat} {r : Option Nat} {e : TypeId} {size : Nat} {v : Value} {n : Nat} {xs : List Value} (h : w.ownsRow base e size v n xs) (hm : Mv w w' B r) (hB : ∀ k, v.ownBlock = some k → k ≠ B) (hr : ∀ k, v.ownBlock = some k → some k ≠ r) : w'.ownsRow base e size v n xs := by
  refine ⟨h.1, ?_⟩
  rcases h.2 with hn | ⟨g, cap, cur, rfl, hg, hh, rest⟩
  · exact .inl hn
  · exact .inr ⟨g, cap, cur, rfl, hg, (hm.block g (Array.getElem?_eq_some_iff.1 hh).1 (hB g rfl) (hr g rfl)).trans hh, rest⟩

abbrev Got := List (Ot × Value × Value)
def flatO (G : Got) : List Value := G.flatMap fun p => [.int .i64 p.1.code, p.2.1, p.2.2, .int .i64 p.1.died, .int .i64 p.1.revived]
theorem flatO_snoc (G : Got) (p : Ot × Value × Value) : flatO (G ++ [p]) = flatO G ++ [.int .i64 p.1.code, p.2.1, p.2.2, .int .i64 p.1.died, .int .i64 p.1.revived] := by simp [flatO]
theorem flatO_length (G : Got) : (flatO G).length = G.length * 5 := by
  induction G with
  | nil => rfl
  | cons p r ih => simp [flatO] at ih ⊢; omega
theorem flatO_at {G : Got} {i : Nat} (h : i < G.length) : (flatO G)[i * 5]? = some (.int .i64 (G[i]).1.code) ∧ (flatO G)[i * 5 + 1]? = some (G[i]).2.1 ∧ (flatO G)[i * 5 + 2]? = some (G[i]).2.2 ∧ (flatO G)[i * 5 + 3]? = some (.int .i64 (G[i]).1.died) ∧ (flatO G)[i * 5 + 4]? = some (.int .i64 (G[i]).1.revived) := by
  induction G generalizing i with
  | nil => simp at h
  | cons p r ih =>
    cases i with
    | zero => exact ⟨rfl, rfl, rfl, rfl, rfl⟩
    | succ i =>
      have := ih (i := i) (by simpa using h)
      have e1 : (i + 1) * 5 = i * 5 + 5 := by omega
      have e2 : flatO (p :: r) = .int .i64 p.1.code :: p.2.1 :: p.2.2 :: .int .i64 p.1.died :: .int .i64 p.1.revived :: flatO r := rfl
      rw [e1, e2]
      simpa using this

/-- The answers so far: their row, and the rows in it, each in a block of its own. -/
structure Outs (w : World) (base : Nat) (v ov : Value) (G : Got) : Prop where
  row : w.ownsRow base 47 5 ov G.length (flatO G)
  fr : ∀ p ∈ G, w.ownsRow base 49 3 p.2.1 p.1.frames.length (flat3 .i64 .u32 .i64 p.1.frames)
  ak : ∀ p ∈ G, w.ownsRow base 2 1 p.2.2 p.1.acked.length (p.1.acked.map (.int .i64))
  fn : (G.filterMap fun p => p.2.1.ownBlock).Nodup
  an : (G.filterMap fun p => p.2.2.ownBlock).Nodup
  ap : ∀ p ∈ G, ∀ k, p.2.2.ownBlock = some k → v.ownBlock ≠ some k

theorem Outs.start {w : World} {base : Nat} {v ov : Value} (h : w.ownsRow base 47 5 ov 0 []) : Outs w base v ov [] :=
  ⟨h, by simp, by simp, by simp, by simp, by simp⟩

theorem Outs.step {w w' : World} {B base : Nat} {c : Cf} {s : St} {v ov : Value} {G : Got} {Q : Ot × St} {fv av v' : Value} (h : Outs w base v ov G) (hS : SndAt w B base c s v) (hbs : base ≤ w.heap.size) (hs : Stepped w B base c v Q w' fv av v') :
    w'.ownsRow base 47 5 ov G.length (flatO G) ∧
    (∀ p ∈ G ++ [(Q.1, fv, av)], w'.ownsRow base 49 3 p.2.1 p.1.frames.length (flat3 .i64 .u32 .i64 p.1.frames)) ∧
    (∀ p ∈ G ++ [(Q.1, fv, av)], w'.ownsRow base 2 1 p.2.2 p.1.acked.length (p.1.acked.map (.int .i64))) ∧
    ((G ++ [(Q.1, fv, av)]).filterMap fun p => p.2.1.ownBlock).Nodup ∧ ((G ++ [(Q.1, fv, av)]).filterMap fun p => p.2.2.ownBlock).Nodup ∧
    ∀ p ∈ G ++ [(Q.1, fv, av)], ∀ k, p.2.2.ownBlock = some k → v'.ownBlock ≠ some k := by
  have hv : ∀ {e : TypeId} {size : Nat} {u : Value} {n : Nat} {xs : List Value}, w.ownsRow base e size u n xs → e ≠ 89 → ∀ k, u.ownBlock = some k → k ≠ B := fun ho he k hk => by
    obtain ⟨cs, hc⟩ := row_block ho hk
    exact type_ne hc hS.blk he
  have hr : ∀ {e : TypeId} {size : Nat} {u : Value} {n : Nat} {xs : List Value}, w.ownsRow base e size u n xs → e ≠ 2 → ∀ k, u.ownBlock = some k → some k ≠ v.ownBlock := fun ho he k hk e => by
    obtain ⟨cs, hc⟩ := row_block ho hk
    obtain ⟨ct, hct⟩ := tags_block hS.row e.symm
    exact type_ne hc hct he rfl
  refine ⟨row_mv h.row hs.mv (hv h.row (by decide)) (hr h.row (by decide)), ?_, ?_, ?_, ?_, ?_⟩
  · intro p hp
    rcases List.mem_append.1 hp with hp | hp
    · exact row_mv (h.fr p hp) hs.mv (hv (h.fr p hp) (by decide)) (hr (h.fr p hp) (by decide))
    · simp at hp; subst hp
      exact own_base hs.fr hbs
  · intro p hp
    rcases List.mem_append.1 hp with hp | hp
    · exact row_mv (h.ak p hp) hs.mv (hv (h.ak p hp) (by decide)) (fun k hk e => h.ap p hp k hk e.symm)
    · simp at hp; subst hp
      exact own_base hs.ak hbs
  · rw [List.filterMap_append, List.nodup_append]
    refine ⟨h.fn, by simp only [List.filterMap_cons, List.filterMap_nil]; split <;> simp, ?_⟩
    intro x hx y hy e
    subst e
    obtain ⟨p, hp, hpx⟩ := List.mem_filterMap.1 hx
    have h1 := ((h.fr p hp).lt x hpx).2
    simp at hy
    have h2 := (hs.fr.lt x hy).1
    omega
  · rw [List.filterMap_append, List.nodup_append]
    refine ⟨h.an, by simp only [List.filterMap_cons, List.filterMap_nil]; split <;> simp, ?_⟩
    intro x hx y hy e
    subst e
    obtain ⟨p, hp, hpx⟩ := List.mem_filterMap.1 hx
    have h1 := ((h.ak p hp).lt x hpx).2
    simp at hy
    have h2 := (hs.ak.lt x hy).1
    omega
  · intro p hp k hk
    rcases List.mem_append.1 hp with hp | hp
    · have h1 := ((h.ak p hp).lt k hk).2
      rcases hs.blk with e | e
      · rw [e]; exact h.ap p hp k hk
      · intro e2; have := e k e2; omega
    · simp at hp; subst hp
      exact hs.ap k hk

theorem Outs.push {w w' : World} {B base : Nat} {c : Cf} {s : St} {v ov : Value} {n : Nat} {xs : List Value} {G : Got} {g cap : Nat} (hS : SndAt w B base c s v) (hrow : w.ownsRow base 47 5 ov n xs)
    (fr : ∀ p ∈ G, w.ownsRow base 49 3 p.2.1 p.1.frames.length (flat3 .i64 .u32 .i64 p.1.frames)) (ak : ∀ p ∈ G, w.ownsRow base 2 1 p.2.2 p.1.acked.length (p.1.acked.map (.int .i64)))
    (fn : (G.filterMap fun p => p.2.1.ownBlock).Nodup) (an : (G.filterMap fun p => p.2.2.ownBlock).Nodup) (ap : ∀ p ∈ G, ∀ k, p.2.2.ownBlock = some k → v.ownBlock ≠ some k)
    (hg : w.grownBy w' ov.ownBlock) (hnew : w'.ownsRow base 47 5 (.slice (some ⟨g, 0, none⟩) G.length cap) G.length (flatO G)) :
    Outs w' base v (.slice (some ⟨g, 0, none⟩) G.length cap) G ∧ SndAt w' B base c s v := by
  have hn : ∀ {e : TypeId} {size : Nat} {u : Value} {m : Nat} {ys : List Value}, w.ownsRow base e size u m ys → e ≠ 47 → u.ownBlock = none ∨ u.ownBlock ≠ ov.ownBlock := fun {e size u m ys} ho he => by
    cases hu : u.ownBlock with
    | none => exact .inl rfl
    | some k =>
      refine .inr fun e2 => ?_
      obtain ⟨cs, hc⟩ := row_block ho hu
      obtain ⟨ct, hct⟩ := row_block hrow e2.symm
      exact type_ne hc hct he rfl
  refine ⟨⟨hnew, fun p hp => (fr p hp).kept hg (hn (fr p hp) (by decide)), fun p hp => (ak p hp).kept hg (hn (ak p hp) (by decide)), fn, an, ap⟩, ?_⟩
  have hB : some B ≠ ov.ownBlock := fun e => by
    obtain ⟨ct, hct⟩ := row_block hrow e.symm
    exact type_ne hS.blk hct (by decide) rfl
  refine ⟨(hg.block B hS.lt hB).trans hS.blk, hS.row.kept fun k hk => hg.block k (hS.row.lt hk).2 (fun e => ?_), hS.ne⟩
  obtain ⟨cs, hc⟩ := tags_block hS.row hk
  obtain ⟨ct, hct⟩ := row_block hrow e.symm
  exact type_ne hc hct (by decide) rfl
end Go.Proofs.Ytincfdhfoaimbaa
