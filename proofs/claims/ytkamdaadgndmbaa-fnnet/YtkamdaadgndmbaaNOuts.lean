import Derived.Test.YtkamdaadgndmbaaNModel
import Derived.Test.YtkamdaadgndmbaaGrown
import Derived.Lib.SmallJoins
import Derived.Deep.Cut
import Derived.Deep.CutRange
import Derived.Deep.RegionHeld3
namespace Go.Proofs.Ytkamdaadgndmbaa
open Go.ChangeShapes Go.WideShapes Go.ChangeAt Go.RowKit
set_option linter.unusedVariables false

theorem box_new (W : World) (o : Obj) (b : Nat) (h : b = W.heap.size) : (W.alloc o).heap[b]? = some o := by subst h; exact heap_alloc_new W o
theorem own_alloc {w : World} {base : Nat} {e : TypeId} {size : Nat} {v : Value} {n : Nat} {xs : List Value} (h : w.ownsRow base e size v n xs) (o : Obj) : (w.alloc o).ownsRow base e size v n xs := h.alloc o
theorem own_shape {w : World} {base : Nat} {e : TypeId} {size : Nat} {v : Value} {n : Nat} {xs : List Value} (h : w.ownsRow base e size v n xs) : ∃ a c, v = .slice a n c := by
  rcases h.2 with ⟨rfl, rfl⟩ | ⟨g, cap, cur, rfl, _⟩
  · exact ⟨_, _, rfl⟩
  · exact ⟨_, _, rfl⟩
theorem row_block {w : World} {base : Nat} {e : TypeId} {size : Nat} {u : Value} {n : Nat} {xs : List Value} (h : w.ownsRow base e size u n xs) {k : Nat} (hk : u.ownBlock = some k) : ∃ cs, w.heap[k]? = some (.cells cs e (0, 0)) := by
  rcases h.2 with ⟨rfl, _⟩ | ⟨g, c, cur, rfl, _, hg, _⟩
  · cases hk
  · obtain rfl : g = k := by simpa [Value.ownBlock] using hk
    exact ⟨cur, hg⟩
theorem type_ne {w : World} {j k : Nat} {c1 c2 : Array Value} {t1 t2 : TypeId} {f1 f2 : Nat × Nat} (h1 : w.heap[j]? = some (.cells c1 t1 f1)) (h2 : w.heap[k]? = some (.cells c2 t2 f2)) (h : t1 ≠ t2) : j ≠ k := by
  rintro rfl
  rw [h1] at h2
  simp only [Option.some.injEq, Obj.cells.injEq] at h2
  exact h h2.2.1
/-- An owned row stays where its block does. -/
theorem row_stays {w w' : World} {base : Nat} {e : TypeId} {size : Nat} {v : Value} {n : Nat} {xs : List Value} (h : w.ownsRow base e size v n xs) (hb : ∀ k, v.ownBlock = some k → w'.heap[k]? = w.heap[k]?) : w'.ownsRow base e size v n xs := by
  refine ⟨h.1, ?_⟩
  rcases h.2 with hn | ⟨g, cap, cur, rfl, hg, hh, rest⟩
  · exact .inl hn
  · exact .inr ⟨g, cap, cur, rfl, hg, (hb g rfl).trans hh, rest⟩

theorem cells5r {w : World} {B : Nat} {t : TypeId} {x0 x1 x2 x3 x4 : Value} (h : w.heap[B]? = some (.cells #[x0, x1, x2, x3, x4] t (0, 0))) :
    (w.cell? ⟨B, 0, none⟩ = some x0 ∧ w.cell? ⟨B, 1, none⟩ = some x1 ∧ w.cell? ⟨B, 2, none⟩ = some x2 ∧ w.cell? ⟨B, 3, none⟩ = some x3 ∧ w.cell? ⟨B, 4, none⟩ = some x4) ∧ (∀ j, w.frozen? ⟨B, j, none⟩ = false) :=
  ⟨⟨Go.Joins.cell_of_block h 0, Go.Joins.cell_of_block h 1, Go.Joins.cell_of_block h 2, Go.Joins.cell_of_block h 3, Go.Joins.cell_of_block h 4⟩, fun j => Go.Joins.unfrozen_of_block h _⟩
theorem set5r {w : World} {b : Nat} {x0 x1 x2 x3 x4 : Value} {t : TypeId} (h : w.heap[b]? = some (.cells #[x0, x1, x2, x3, x4] t (0, 0))) (u v s q r : Value) :
    (((((w.setCell ⟨b, 0, none⟩ u).setCell ⟨b, 1, none⟩ v).setCell ⟨b, 2, none⟩ s).setCell ⟨b, 3, none⟩ q).setCell ⟨b, 4, none⟩ r).heap[b]? = some (.cells #[u, v, s, q, r] t (0, 0)) := by
  have h0 := heap_setCell_same w b 0 _ _ u h
  have h1 := heap_setCell_same _ b 1 _ _ v h0
  have h2 := heap_setCell_same _ b 2 _ _ s h1
  have h3 := heap_setCell_same _ b 3 _ _ q h2
  exact heap_setCell_same _ b 4 _ _ r h3
theorem fill5_other (w : World) {b k : Nat} (h : k ≠ b) (u v s q r : Value) : (((((w.setCell ⟨b, 0, none⟩ u).setCell ⟨b, 1, none⟩ v).setCell ⟨b, 2, none⟩ s).setCell ⟨b, 3, none⟩ q).setCell ⟨b, 4, none⟩ r).heap[k]? = w.heap[k]? := by
  rw [heap_setCell_other _ _ _ _ h, heap_setCell_other _ _ _ _ h, heap_setCell_other _ _ _ _ h, heap_setCell_other _ _ _ _ h, heap_setCell_other _ _ _ _ h]
theorem fill5_below {B : Nat} {w0 w : World} (h : Below B w0 w) {b : Nat} (hb : B ≤ b) (u v s q r : Value) : Below B w0 (((((w.setCell ⟨b, 0, none⟩ u).setCell ⟨b, 1, none⟩ v).setCell ⟨b, 2, none⟩ s).setCell ⟨b, 3, none⟩ q).setCell ⟨b, 4, none⟩ r) :=
  ((((h.setCell (p := ⟨b, 0, none⟩) hb _).setCell (p := ⟨b, 1, none⟩) hb _).setCell (p := ⟨b, 2, none⟩) hb _).setCell (p := ⟨b, 3, none⟩) hb _).setCell (p := ⟨b, 4, none⟩) hb _

theorem cell_fill5 (w : World) {b k : Nat} (h : k ≠ b) (j : Nat) (u v s q r : Value) : (((((w.setCell ⟨b, 0, none⟩ u).setCell ⟨b, 1, none⟩ v).setCell ⟨b, 2, none⟩ s).setCell ⟨b, 3, none⟩ q).setCell ⟨b, 4, none⟩ r).cell? ⟨k, j, none⟩ = w.cell? ⟨k, j, none⟩ := by
  have e := fill5_other w h u v s q r
  unfold World.cell?
  simp only [e]

theorem cells3r {w : World} {B : Nat} {t : TypeId} {x0 x1 x2 : Value} (h : w.heap[B]? = some (.cells #[x0, x1, x2] t (0, 0))) :
    (w.cell? ⟨B, 0, none⟩ = some x0 ∧ w.cell? ⟨B, 1, none⟩ = some x1 ∧ w.cell? ⟨B, 2, none⟩ = some x2) ∧ w.frozen? ⟨B, 0, none⟩ = false ∧ w.frozen? ⟨B, 1, none⟩ = false ∧ w.frozen? ⟨B, 2, none⟩ = false :=
  ⟨⟨Go.Joins.cell_of_block h 0, Go.Joins.cell_of_block h 1, Go.Joins.cell_of_block h 2⟩, Go.Joins.unfrozen_of_block h _, Go.Joins.unfrozen_of_block h _, Go.Joins.unfrozen_of_block h _⟩
theorem set3r {w : World} {b : Nat} {x y z : Value} {t : TypeId} (h : w.heap[b]? = some (.cells #[x, y, z] t (0, 0))) (u v s : Value) :
    (((w.setCell ⟨b, 0, none⟩ u).setCell ⟨b, 1, none⟩ v).setCell ⟨b, 2, none⟩ s).heap[b]? = some (.cells #[u, v, s] t (0, 0)) := by
  have h0 := heap_setCell_same w b 0 _ _ u h
  have h1 := heap_setCell_same _ b 1 _ _ v h0
  exact heap_setCell_same _ b 2 _ _ s h1
theorem cells2r {w : World} {B : Nat} {t : TypeId} {x0 x1 : Value} (h : w.heap[B]? = some (.cells #[x0, x1] t (0, 0))) :
    (w.cell? ⟨B, 0, none⟩ = some x0 ∧ w.cell? ⟨B, 1, none⟩ = some x1) ∧ (∀ j, w.frozen? ⟨B, j, none⟩ = false) :=
  ⟨⟨Go.Joins.cell_of_block h 0, Go.Joins.cell_of_block h 1⟩, fun j => Go.Joins.unfrozen_of_block h _⟩
theorem info_no : (Try.prog.info? 37).map (fun i => (i.zero, i.size, i.bytes)) = some (some (.agg #[.int .i64 0, .slice none 0 0]), 2, 32) := by kernel_rfl
/-- One append of one answer that lies in block b, in a walk. -/
theorem wpList_appO (w : World) {ops : Array Oper} {rest : List Oper} {o : Oper} {a : Act} {Q : Exit → Act → World → Prop} (hgd : o.guard = none) (s x : Operand)
    (ho : o.op = .call { callee := .builtin .append, args := #[s, x], argTypes := #[26, 26] })
    (base : Nat) (av : Option Addr) (n cap : Nat) (xs : List Value) (hs : a.eval s = .slice av n cap) (hown : w.ownsRow base 37 2 (.slice av n cap) n xs)
    (b : Nat) (u0 u1 : Value) (hx : a.eval x = .slice (some ⟨b, 0, none⟩) 1 1) (hb : w.heap[b]? = some (.cells #[u0, u1] 37)) (h1 : ∀ u ∈ [u0, u1], u.oneCell' = true) (hl : n ≤ 1048576) (hbase : base ≤ w.heap.size)
    (h : ∀ g cap' w', w'.ownsRow base 37 2 (.slice (some ⟨g, 0, none⟩) (n + 1) cap') (n + 1) (xs ++ [u0, u1]) → w.grownBy w' (Value.slice av n cap).ownBlock →
      wpList Try.prog ops Q rest (a.put o.dst (.slice (some ⟨g, 0, none⟩) (n + 1) cap')) w') : wpList Try.prog ops Q (o :: rest) a w := by
  obtain ⟨i0, hi, hz0, hz1, hz2⟩ := info_parts info_no
  obtain ⟨⟨f0, f1⟩, _⟩ := cells2r hb
  refine wpList_append_own w hgd s x 26 ho base 37 i0 (.agg #[.int .i64 0, .slice none 0 0]) 2 32 Try.underlying26 hi hz0 hz1 hz2 rfl (by decide) (.slice av n cap) n xs hs hown ⟨b, 0, none⟩ 1 1 [u0, u1] hx rfl ?_ h1 ?_ ?_ hbase ?_
  · intro j u hj
    match j, hj with
    | 0, hj => simp at hj; subst hj; rw [← f0]; congr 1
    | 1, hj => simp at hj; subst hj; rw [← f1]; congr 1
  · unfold maxLen; omega
  · omega
  · intro v' w' h2 h3 h4
    rcases h2.2 with ⟨rfl, h0⟩ | ⟨g, cap', cur, rfl, rest⟩
    · omega
    · exact h g cap' w' h2 h3

abbrev GotO := List (NOut × Value)
def flatO (G : GotO) : List Value := G.flatMap fun p => [.int .i64 p.1.code, p.2]
theorem flatO_snoc (G : GotO) (p : NOut × Value) : flatO (G ++ [p]) = flatO G ++ [.int .i64 p.1.code, p.2] := by simp [flatO]
theorem flatO_length (G : GotO) : (flatO G).length = G.length * 2 := by
  induction G with
  | nil => rfl
  | cons p r ih => simp [flatO] at ih ⊢; omega
theorem flatO_at {G : GotO} {i : Nat} (h : i < G.length) : (flatO G)[i * 2]? = some (.int .i64 (G[i]).1.code) ∧ (flatO G)[i * 2 + 1]? = some (G[i]).2 := by
  induction G generalizing i with
  | nil => simp at h
  | cons p r ih =>
    cases i with
    | zero => exact ⟨rfl, rfl⟩
    | succ i =>
      have := ih (i := i) (by simpa using h)
      have e1 : (i + 1) * 2 = i * 2 + 2 := by omega
      have e2 : flatO (p :: r) = .int .i64 p.1.code :: p.2 :: flatO r := rfl
      rw [e1, e2]
      simpa using this
/-- The answers so far: their row, and the rows of bytes in it, each in a block of its own. -/
structure OutsN (w : World) (base : Nat) (ov : Value) (G : GotO) : Prop where
  row : w.ownsRow base 37 2 ov G.length (flatO G)
  dat : ∀ p ∈ G, w.ownsRow base 5 1 p.2 p.1.dat.length (p.1.dat.map (.int .u8))
  apart : (G.filterMap fun p => p.2.ownBlock).Nodup
theorem OutsN.start {w : World} {base : Nat} {ov : Value} (h : w.ownsRow base 37 2 ov 0 []) : OutsN w base ov [] := ⟨h, by simp, by simp⟩
theorem OutsN.stays {w w' : World} {base : Nat} {ov : Value} {G : GotO} (h : OutsN w base ov G) (hb : ∀ k cs (t : TypeId), base ≤ k → (t = 37 ∨ t = 5) → w.heap[k]? = some (.cells cs t (0, 0)) → w'.heap[k]? = w.heap[k]?) : OutsN w' base ov G := by
  refine ⟨row_stays h.row fun k hk => ?_, fun p hp => row_stays (h.dat p hp) fun k hk => ?_, h.apart⟩
  · obtain ⟨cs, hc⟩ := row_block h.row hk
    exact hb k cs _ (h.row.lt k hk).1 (.inl rfl) hc
  · obtain ⟨cs, hc⟩ := row_block (h.dat p hp) hk
    exact hb k cs _ ((h.dat p hp).lt k hk).1 (.inr rfl) hc
theorem OutsN.push {w w' : World} {base : Nat} {ov : Value} {G : GotO} {q : NOut} {dv : Value} {g cap : Nat} (h : OutsN w base ov G) (hd : w.ownsRow base 5 1 dv q.dat.length (q.dat.map (.int .u8))) (hlt : ∀ p ∈ G, ∀ k, p.2.ownBlock = some k → dv.ownBlock ≠ some k)
    (hg : w.grownBy w' ov.ownBlock) (hnew : w'.ownsRow base 37 2 (.slice (some ⟨g, 0, none⟩) (G.length + 1) cap) (G.length + 1) (flatO G ++ [.int .i64 q.code, dv])) :
    OutsN w' base (.slice (some ⟨g, 0, none⟩) (G.length + 1) cap) (G ++ [(q, dv)]) := by
  have hn : ∀ {u : Value} {m : Nat} {ys : List Value} {b : Nat}, w.ownsRow b 5 1 u m ys → u.ownBlock = none ∨ u.ownBlock ≠ ov.ownBlock := fun {u m ys b} ho => by
    cases hu : u.ownBlock with
    | none => exact .inl rfl
    | some k =>
      refine .inr fun e2 => ?_
      obtain ⟨cs, hc⟩ := row_block ho hu
      obtain ⟨ct, hct⟩ := row_block h.row e2.symm
      exact type_ne hc hct (by decide) rfl
  refine ⟨by rw [flatO_snoc, List.length_append]; exact hnew, fun p hp => ?_, ?_⟩
  · rcases List.mem_append.1 hp with hp | hp
    · exact (h.dat p hp).kept hg (hn (h.dat p hp))
    · simp at hp; subst hp
      exact hd.kept hg (hn hd)
  · rw [List.filterMap_append, List.nodup_append]
    refine ⟨h.apart, by simp only [List.filterMap_cons, List.filterMap_nil]; split <;> simp, ?_⟩
    intro x hx y hy e
    subst e
    obtain ⟨p, hp, hpx⟩ := List.mem_filterMap.1 hx
    simp at hy
    exact hlt p hp x hpx hy

/-! ### Events in memory -/
abbrev Evs := List (NEv × Option Addr × Nat)
structure EvLie (w : World) (lim : Nat) (a : Option Addr) (G : Evs) : Prop where
  at_ : G = [] ∨ ∃ b off, a = some ⟨b, off, none⟩ ∧ b < lim ∧ ∀ i, ∀ h : i < G.length, w.cell? ⟨b, off + i * 5, none⟩ = some (.int .i64 (G[i]).1.kd) ∧ w.cell? ⟨b, off + i * 5 + 1, none⟩ = some (.int .i64 (G[i]).1.pa) ∧ w.cell? ⟨b, off + i * 5 + 2, none⟩ = some (.int .i64 (G[i]).1.di) ∧ w.cell? ⟨b, off + i * 5 + 3, none⟩ = some (.int .i64 (G[i]).1.ix) ∧ w.cell? ⟨b, off + i * 5 + 4, none⟩ = some (.slice (G[i]).2.1 (G[i]).1.dat.length (G[i]).2.2)
  dat : ∀ p ∈ G, Ints .u8 w p.2.1 p.1.dat ∧ ∀ b o, p.2.1 = some ⟨b, o, none⟩ → b < lim
  nil : ∀ p ∈ G, p.2.1 = none → p.2.2 = 0
theorem Ints.stays {k : IntKind} {w w' : World} {a : Option Addr} {zs : List Int} (h : Ints k w a zs) (hb : ∀ b o, a = some ⟨b, o, none⟩ → zs ≠ [] → w'.heap[b]? = w.heap[b]?) : Ints k w' a zs := by
  rcases h with h | ⟨b, off, ha, hc⟩
  · exact .inl h
  · by_cases hz : zs = []
    · exact .inl hz
    · exact .inr ⟨b, off, ha, fun i hi => (World.cell?_of_block (a := ⟨b, off + i, none⟩) (hb b off ha hz)).trans (hc i hi)⟩
theorem EvLie.stays {w w' : World} {lim : Nat} {a : Option Addr} {G : Evs} (h : EvLie w lim a G) (hb : ∀ k, k < lim → w'.heap[k]? = w.heap[k]?) : EvLie w' lim a G := by
  refine ⟨?_, fun p hp => ⟨(h.dat p hp).1.stays fun b o ha hz => hb b ((h.dat p hp).2 b o ha), (h.dat p hp).2⟩, h.nil⟩
  rcases h.at_ with h0 | ⟨b, off, ha, hl, hc⟩
  · exact .inl h0
  · refine .inr ⟨b, off, ha, hl, fun i hi => ?_⟩
    obtain ⟨a1, a2, a3, a4, a5⟩ := hc i hi
    have e : ∀ j, w'.cell? ⟨b, j, none⟩ = w.cell? ⟨b, j, none⟩ := fun j => World.cell?_of_block (hb b hl)
    exact ⟨(e _).trans a1, (e _).trans a2, (e _).trans a3, (e _).trans a4, (e _).trans a5⟩
/-- What an event's numbers keep to. -/
structure EvOk (e : NEv) : Prop where
  k0 : -9223372036854775808 ≤ e.kd
  k1 : e.kd ≤ 9223372036854775807
  p0 : -9223372036854775808 ≤ e.pa
  p1 : e.pa ≤ 9223372036854775807
  d0 : -9223372036854775808 ≤ e.di
  d1 : e.di ≤ 9223372036854775807
  i0 : -9223372036854775808 ≤ e.ix
  i1 : e.ix ≤ 9223372036854775807
  dv : ∀ v ∈ e.dat, 0 ≤ v ∧ v ≤ 255
  dl : e.dat.length ≤ 1048576
end Go.Proofs.Ytkamdaadgndmbaa
