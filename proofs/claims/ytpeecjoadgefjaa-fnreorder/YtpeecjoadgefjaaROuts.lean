import Derived.Test.YtpeecjoadgefjaaRStep
namespace Go.Proofs.Ytpeecjoadgefjaa
open Go.ChangeShapes Go.WideShapes Go.ChangeAt Go.RowKit
set_option linter.unusedVariables false

theorem box_new (W : World) (o : Obj) (b : Nat) (h : b = W.heap.size) : (W.alloc o).heap[b]? = some o := by subst h; exact heap_alloc_new W o
theorem own_alloc {w : World} {base : Nat} {e : TypeId} {size : Nat} {v : Value} {n : Nat} {xs : List Value} (h : w.ownsRow base e size v n xs) (o : Obj) : (w.alloc o).ownsRow base e size v n xs := h.alloc o
theorem own_shape {w : World} {base : Nat} {e : TypeId} {size : Nat} {v : Value} {n : Nat} {xs : List Value} (h : w.ownsRow base e size v n xs) : ∃ a c, v = .slice a n c := by
  rcases h.2 with ⟨rfl, rfl⟩ | ⟨g, cap, cur, rfl, _⟩
  · exact ⟨_, _, rfl⟩
  · exact ⟨_, _, rfl⟩
theorem row_block {w : World} {base : Nat} {e : TypeId} {size : Nat} {u : Value} {n : Nat} {xs : List Value} (h : w.ownsRow base e size u n xs) {k : Nat} (hk : u.ownBlock = some k) : ∃ cs, w.heap[k]? = some (.cells cs e (0, 0)) := by
  rcases h.2 with ⟨rfl, _⟩ | ⟨g, c, cur, rfl, _, hg, _⟩
  · cases hk
  · obtain rfl : g = k := by simpa [Value.ownBlock] using hk
    exact ⟨cur, hg⟩
theorem type_ne {w : World} {j k : Nat} {c1 c2 : Array Value} {t1 t2 : TypeId} {f1 f2 : Nat × Nat} (h1 : w.heap[j]? = some (.cells c1 t1 f1)) (h2 : w.heap[k]? = some (.cells c2 t2 f2)) (h : t1 ≠ t2) : j ≠ k := by
  rintro rfl
  rw [h1] at h2
  simp only [Option.some.injEq, Obj.cells.injEq] at h2
  exact h h2.2.1
/-- An owned row stays where its block does. -/
theorem row_stays {w w' : World} {base : Nat} {e : TypeId} {size : Nat} {v : Value} {n : Nat} {xs : List Value} (h : w.ownsRow base e size v n xs) (hb : ∀ k, v.ownBlock = some k → w'.heap[k]? = w.heap[k]?) : w'.ownsRow base e size v n xs := by
  refine ⟨h.1, ?_⟩
  rcases h.2 with hn | ⟨g, cap, cur, rfl, hg, hh, rest⟩
  · exact .inl hn
  · exact .inr ⟨g, cap, cur, rfl, hg, (hb g rfl).trans hh, rest⟩

theorem info_ro : (Try.prog.info? 50).map (fun i => (i.zero, i.size, i.bytes)) = some (some (.agg #[.int .i64 0, .int .i64 0, .slice none 0 0]), 3, 40) := by kernel_rfl
/-- One append of one answer that lies in block b, in a walk. -/
theorem wpList_appR (w : World) {ops : Array Oper} {rest : List Oper} {o : Oper} {a : Act} {Q : Exit → Act → World → Prop} (hgd : o.guard = none) (s x : Operand)
    (ho : o.op = .call { callee := .builtin .append, args := #[s, x], argTypes := #[40, 40] })
    (base : Nat) (av : Option Addr) (n cap : Nat) (xs : List Value) (hs : a.eval s = .slice av n cap) (hown : w.ownsRow base 50 3 (.slice av n cap) n xs)
    (b : Nat) (u0 u1 u2 : Value) (hx : a.eval x = .slice (some ⟨b, 0, none⟩) 1 1) (hb : w.heap[b]? = some (.cells #[u0, u1, u2] 50)) (h1 : ∀ u ∈ [u0, u1, u2], u.oneCell' = true) (hl : n ≤ 1048576) (hbase : base ≤ w.heap.size)
    (h : ∀ g cap' w', w'.ownsRow base 50 3 (.slice (some ⟨g, 0, none⟩) (n + 1) cap') (n + 1) (xs ++ [u0, u1, u2]) → w.grownBy w' (Value.slice av n cap).ownBlock →
      wpList Try.prog ops Q rest (a.put o.dst (.slice (some ⟨g, 0, none⟩) (n + 1) cap')) w') : wpList Try.prog ops Q (o :: rest) a w := by
  obtain ⟨i0, hi, hz0, hz1, hz2⟩ := info_parts info_ro
  obtain ⟨⟨f0, f1, f2⟩, _⟩ := cells3r hb
  refine wpList_append_own w hgd s x 40 ho base 50 i0 (.agg #[.int .i64 0, .int .i64 0, .slice none 0 0]) 3 40 Try.underlying40 hi hz0 hz1 hz2 rfl (by decide) (.slice av n cap) n xs hs hown ⟨b, 0, none⟩ 1 1 [u0, u1, u2] hx rfl ?_ h1 ?_ ?_ hbase ?_
  · intro j u hj
    match j, hj with
    | 0, hj => simp at hj; subst hj; rw [← f0]; congr 1
    | 1, hj => simp at hj; subst hj; rw [← f1]; congr 1
    | 2, hj => simp at hj; subst hj; rw [← f2]; congr 1
  · unfold maxLen; omega
  · omega
  · intro v' w' h2 h3 h4
    rcases h2.2 with ⟨rfl, h0⟩ | ⟨g, cap', cur, rfl, rest⟩
    · omega
    · exact h g cap' w' h2 h3

abbrev GotO := List (ROut × Value)
def flatO (G : GotO) : List Value := G.flatMap fun p => [.int .i64 p.1.code, .int .i64 p.1.n, p.2]
theorem flatO_snoc (G : GotO) (p : ROut × Value) : flatO (G ++ [p]) = flatO G ++ [.int .i64 p.1.code, .int .i64 p.1.n, p.2] := by simp [flatO]
theorem flatO_length (G : GotO) : (flatO G).length = G.length * 3 := by
  induction G with
  | nil => rfl
  | cons p r ih => simp [flatO] at ih ⊢; omega
theorem flatO_at {G : GotO} {i : Nat} (h : i < G.length) : (flatO G)[i * 3]? = some (.int .i64 (G[i]).1.code) ∧ (flatO G)[i * 3 + 1]? = some (.int .i64 (G[i]).1.n) ∧ (flatO G)[i * 3 + 2]? = some (G[i]).2 := by
  induction G generalizing i with
  | nil => simp at h
  | cons p r ih =>
    cases i with
    | zero => exact ⟨rfl, rfl, rfl⟩
    | succ i =>
      have := ih (i := i) (by simpa using h)
      have e1 : (i + 1) * 3 = i * 3 + 3 := by omega
      have e2 : flatO (p :: r) = .int .i64 p.1.code :: .int .i64 p.1.n :: p.2 :: flatO r := rfl
      rw [e1, e2]
      simpa using this
/-- The answers so far: their row, and the rows of bytes in it, each in a block of its own. -/
structure OutsR (w : World) (base : Nat) (ov : Value) (G : GotO) : Prop where
  row : w.ownsRow base 50 3 ov G.length (flatO G)
  dat : ∀ p ∈ G, w.ownsRow base 5 1 p.2 p.1.dat.length (p.1.dat.map (.int .u8))
  apart : (G.filterMap fun p => p.2.ownBlock).Nodup
theorem OutsR.start {w : World} {base : Nat} {ov : Value} (h : w.ownsRow base 50 3 ov 0 []) : OutsR w base ov [] := ⟨h, by simp, by simp⟩
theorem OutsR.stays {w w' : World} {base : Nat} {ov : Value} {G : GotO} (h : OutsR w base ov G) (hb : ∀ k cs (t : TypeId), base ≤ k → (t = 50 ∨ t = 5) → w.heap[k]? = some (.cells cs t (0, 0)) → w'.heap[k]? = w.heap[k]?) : OutsR w' base ov G := by
  refine ⟨row_stays h.row fun k hk => ?_, fun p hp => row_stays (h.dat p hp) fun k hk => ?_, h.apart⟩
  · obtain ⟨cs, hc⟩ := row_block h.row hk
    exact hb k cs _ (h.row.lt k hk).1 (.inl rfl) hc
  · obtain ⟨cs, hc⟩ := row_block (h.dat p hp) hk
    exact hb k cs _ ((h.dat p hp).lt k hk).1 (.inr rfl) hc
theorem OutsR.push {w w' : World} {base lim : Nat} {ov : Value} {G : GotO} {q : ROut} {dv : Value} {g cap : Nat} (h : OutsR w base ov G) (hl : base ≤ lim) (hd : w.ownsRow lim 5 1 dv q.dat.length (q.dat.map (.int .u8))) (hlt : ∀ p ∈ G, ∀ k, p.2.ownBlock = some k → k < lim)
    (hg : w.grownBy w' ov.ownBlock) (hnew : w'.ownsRow base 50 3 (.slice (some ⟨g, 0, none⟩) (G.length + 1) cap) (G.length + 1) (flatO G ++ [.int .i64 q.code, .int .i64 q.n, dv])) :
    OutsR w' base (.slice (some ⟨g, 0, none⟩) (G.length + 1) cap) (G ++ [(q, dv)]) := by
  have hn : ∀ {u : Value} {m : Nat} {ys : List Value} {b : Nat}, w.ownsRow b 5 1 u m ys → u.ownBlock = none ∨ u.ownBlock ≠ ov.ownBlock := fun {u m ys b} ho => by
    cases hu : u.ownBlock with
    | none => exact .inl rfl
    | some k =>
      refine .inr fun e2 => ?_
      obtain ⟨cs, hc⟩ := row_block ho hu
      obtain ⟨ct, hct⟩ := row_block h.row e2.symm
      exact type_ne hc hct (by decide) rfl
  refine ⟨by rw [flatO_snoc, List.length_append]; exact hnew, fun p hp => ?_, ?_⟩
  · rcases List.mem_append.1 hp with hp | hp
    · exact (h.dat p hp).kept hg (hn (h.dat p hp))
    · simp at hp; subst hp
      exact owned_base (hd.kept hg (hn hd)) hl
  · rw [List.filterMap_append, List.nodup_append]
    refine ⟨h.apart, by simp only [List.filterMap_cons, List.filterMap_nil]; split <;> simp, ?_⟩
    intro x hx y hy e
    subst e
    obtain ⟨p, hp, hpx⟩ := List.mem_filterMap.1 hx
    have h1 := hlt p hp x hpx
    simp at hy
    have h2 := (hd.lt x hy).1
    omega

/-! ### Events in memory -/
abbrev Evs := List (REv × Option Addr × Nat)
structure EvLie (w : World) (lim : Nat) (a : Option Addr) (G : Evs) : Prop where
  at_ : G = [] ∨ ∃ b off, a = some ⟨b, off, none⟩ ∧ b < lim ∧ ∀ i, ∀ h : i < G.length, w.cell? ⟨b, off + i * 4, none⟩ = some (.int .i64 (G[i]).1.kd) ∧ w.cell? ⟨b, off + i * 4 + 1, none⟩ = some (.int .u64 (G[i]).1.off) ∧ w.cell? ⟨b, off + i * 4 + 2, none⟩ = some (.slice (G[i]).2.1 (G[i]).1.dat.length (G[i]).2.2) ∧ w.cell? ⟨b, off + i * 4 + 3, none⟩ = some (.int .i64 (G[i]).1.n)
  dat : ∀ p ∈ G, Ints .u8 w p.2.1 p.1.dat ∧ ∀ b o, p.2.1 = some ⟨b, o, none⟩ → b < lim
theorem Ints.stays {k : IntKind} {w w' : World} {a : Option Addr} {zs : List Int} (h : Ints k w a zs) (hb : ∀ b o, a = some ⟨b, o, none⟩ → zs ≠ [] → w'.heap[b]? = w.heap[b]?) : Ints k w' a zs := by
  rcases h with h | ⟨b, off, ha, hc⟩
  · exact .inl h
  · by_cases hz : zs = []
    · exact .inl hz
    · exact .inr ⟨b, off, ha, fun i hi => (World.cell?_of_block (a := ⟨b, off + i, none⟩) (hb b off ha hz)).trans (hc i hi)⟩
theorem EvLie.stays {w w' : World} {lim : Nat} {a : Option Addr} {G : Evs} (h : EvLie w lim a G) (hb : ∀ k, k < lim → w'.heap[k]? = w.heap[k]?) : EvLie w' lim a G := by
  refine ⟨?_, fun p hp => ⟨(h.dat p hp).1.stays fun b o ha hz => hb b ((h.dat p hp).2 b o ha), (h.dat p hp).2⟩⟩
  rcases h.at_ with h0 | ⟨b, off, ha, hl, hc⟩
  · exact .inl h0
  · refine .inr ⟨b, off, ha, hl, fun i hi => ?_⟩
    obtain ⟨a1, a2, a3, a4⟩ := hc i hi
    have e : ∀ j, w'.cell? ⟨b, j, none⟩ = w.cell? ⟨b, j, none⟩ := fun j => World.cell?_of_block (hb b hl)
    exact ⟨(e _).trans a1, (e _).trans a2, (e _).trans a3, (e _).trans a4⟩
/-- What an event's numbers keep to. -/
structure EvOk (e : REv) : Prop where
  o0 : 0 ≤ e.off
  o1 : e.off ≤ 18446744073709551615
  n0 : -9223372036854775808 ≤ e.n
  n1 : e.n ≤ 9223372036854775807
  dv : ∀ v ∈ e.dat, 0 ≤ v ∧ v ≤ 255
  dl : e.dat.length ≤ 1048576
theorem stepOk_of {x : Int} {z m : Nat} {s : RB} {e : REv} (h : RInv x z m s) (x0 : 0 ≤ x) (x1 : x ≤ 4611686018427387904) (hm : m ≤ 4000) (hz : z ≤ 4096) (he : EvOk e) : StepOk z s e := by
  have h1 : m * z ≤ 16384000 := Nat.mul_le_mul hm hz
  have h2 : ((m * z : Nat) : Int) ≤ 16384000 := by omega
  rw [Int.natCast_mul] at h2
  have hh := h.hi
  have hl := h.lo
  have f1 := h.f1
  exact ⟨h.at_, by omega, h.hf, h.f0, by omega, he.o0, he.o1, he.n0, he.n1, he.dv, by have := he.dl; omega⟩
theorem stateR_take (z : Nat) (x : Int) (es : List REv) (k : Nat) (h : k < es.length) : stateR z x (es.take (k + 1)) = (stepR z (stateR z x (es.take k)) (es[k])).2 := by
  rw [stateR, List.take_succ_eq_append_getElem h, List.foldl_append]
  rfl
theorem outsR_snoc (z : Nat) (es : List REv) (e : REv) : ∀ s, outsR z s (es ++ [e]) = outsR z s es ++ [(stepR z (es.foldl (fun s e => (stepR z s e).2) s) e).1] := by
  induction es with
  | nil => intro s; rfl
  | cons x es ih => intro s; simp [outsR, ih]
theorem outsR_take (z : Nat) (x : Int) (es : List REv) (k : Nat) (h : k < es.length) : outsR z (startR x) (es.take (k + 1)) = outsR z (startR x) (es.take k) ++ [(stepR z (stateR z x (es.take k)) (es[k])).1] := by
  rw [List.take_succ_eq_append_getElem h, outsR_snoc]
  rfl
theorem outsR_length (z : Nat) (es : List REv) : ∀ s, (outsR z s es).length = es.length := by
  induction es with
  | nil => intro s; rfl
  | cons x es ih => intro s; simp [outsR, ih]
end Go.Proofs.Ytpeecjoadgefjaa
