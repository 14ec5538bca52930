import Derived.Test.YtkamdaadgndmbaaNSp1
import Derived.Test.YtkamdaadgndmbaaNHandle
namespace Go.Proofs.Ytkamdaadgndmbaa
open Go.ChangeShapes Go.WideShapes Go.ChangeAt Go.RowKit
set_option linter.unusedVariables false

theorem info_it : (Try.prog.info? 100).map (fun i => (i.zero, i.size, i.bytes)) = some (some (.agg #[.int .i64 0, .int .i64 0, .slice none 0 0, .bool false]), 4, 48) := by kernel_rfl
/-- One append of one item that lies in block b, in a region that draws. -/
theorem step_appI (w : World) {ops : Array Oper} {o : Oper} {a : Act} {K : Act → World → Prop} {Q : Exit → Act → World → Prop} {E : Prop} (hgd : o.guard = none) (s x : Operand)
    (ho : o.op = .call { callee := .builtin .append, args := #[s, x], argTypes := #[68, 68] })
    (base : Nat) (av : Option Addr) (n cap : Nat) (xs : List Value) (hs : a.eval s = .slice av n cap) (hown : w.ownsRow base 100 4 (.slice av n cap) n xs)
    (b : Nat) (u0 u1 u2 u3 : Value) (hx : a.eval x = .slice (some ⟨b, 0, none⟩) 1 1) (hb : w.heap[b]? = some (.cells #[u0, u1, u2, u3] 100 (0, 0))) (h1 : ∀ u ∈ [u0, u1, u2, u3], u.oneCell' = true) (hl : n ≤ 1048576) (hbase : base ≤ w.heap.size)
    (h : ∀ g cap' w', w'.ownsRow base 100 4 (.slice (some ⟨g, 0, none⟩) (n + 1) cap') (n + 1) (xs ++ [u0, u1, u2, u3]) → w.grownBy w' (Value.slice av n cap).ownBlock → K (a.put o.dst (.slice (some ⟨g, 0, none⟩) (n + 1) cap')) w') :
    if Region.wanted o (yielded ops a.tmps) = true then Oper.wp Try.prog o a w K Q else E := by
  obtain ⟨i0, hi, hz0, hz1, hz2⟩ := info_parts info_it
  have f0 := Go.Joins.cell_of_block hb 0
  have f1 := Go.Joins.cell_of_block hb 1
  have f2 := Go.Joins.cell_of_block hb 2
  have f3 := Go.Joins.cell_of_block hb 3
  refine step_append_lies w hgd s x 68 ho base 100 i0 (.agg #[.int .i64 0, .int .i64 0, .slice none 0 0, .bool false]) 4 48 Try.underlying68 hi hz0 hz1 hz2 rfl (by decide) (.slice av n cap) n xs hs hown ⟨b, 0, none⟩ 1 1 [u0, u1, u2, u3] hx rfl ?_ h1 (by omega) (by unfold maxLen; omega) (by omega) hbase w.heap.size rfl ?_
  · intro j u hj
    match j, hj with
    | 0, hj => simp at hj; subst hj; exact f0
    | 1, hj => simp at hj; subst hj; exact f1
    | 2, hj => simp at hj; subst hj; exact f2
    | 3, hj => simp at hj; subst hj; exact f3
  · intro g cap' w' h2 h3 _ _
    exact h g cap' w' h2 h3
theorem own_ne {w : World} {base : Nat} {e t : TypeId} {size : Nat} {u : Value} {n k : Nat} {xs : List Value} {cs : Array Value} {f : Nat × Nat} (h : w.ownsRow base e size u n xs) (hk : w.heap[k]? = some (.cells cs t f)) (hne : e ≠ t) : u.ownBlock ≠ some k := fun e' => by
  obtain ⟨cs', h'⟩ := row_block h e'
  exact type_ne h' hk hne rfl
theorem put_row {w : World} {base : Nat} {e : TypeId} {size g n cap : Nat} {xs ys : List Value} (h : w.ownsRow base e size (.slice (some ⟨g, 0, none⟩) n cap) n xs) (j : Nat) (v : Value) (he : xs.set j v = ys) : (w.setCell ⟨g, j, none⟩ v).ownsRow base e size (.slice (some ⟨g, 0, none⟩) n cap) n ys := by
  have h1 := (h.stored j v).1
  rw [he] at h1
  exact h1
theorem grown_set1 (w : World) (b i : Nat) (v : Value) : w.grownBy (w.setCell ⟨b, i, none⟩ v) (some b) := grown_set w b i v
section
variable {w w' V : World} {B base n N R : Nat} {s : NS} {cv av : Value} {C : List Int} {I : SIs}
theorem SpN.as (h : SpN w B base n s cv av C I) {s' : NS} (hc : ∀ i : Nat, i < n → s'.cut i = s.cut i) (hb : ∀ p d, s'.bag p d = s.bag p d) : SpN w B base n s' cv av C I :=
  ⟨h.blk, h.cut, h.all, h.dat, h.cl, fun i hi => (h.cs i hi).trans (hc i hi).symm, fun p d => (h.bs p d).trans (hb p d).symm⟩
theorem SpN.drewN (h : SpN w B base n s cv av C I) (m : Nat) : SpN (w.drewN m) B base n s cv av C I := ⟨h.blk, h.cut, h.all, h.dat, h.cl, h.cs, h.bs⟩
theorem SpN.drew (h : SpN w B base n s cv av C I) : SpN w.drew B base n s cv av C I := ⟨h.blk, h.cut, h.all, h.dat, h.cl, h.cs, h.bs⟩
theorem SpN.fill {cs : Array Value} (h : SpN V B base n s cv av C I) (hR : V.heap[R]? = some (.cells cs 37 (0, 0))) (u v : Value) : SpN ((V.setCell ⟨R, 0, none⟩ u).setCell ⟨R, 1, none⟩ v) B base n s cv av C I :=
  h.stays fun k cs' t ht hk => fill2_other V (type_ne hk hR (by rcases ht with rfl | rfl | rfl | rfl <;> decide)) u v
theorem KeepS.fill (h : KeepS w V B base) (hR : w.heap.size ≤ R) (u v : Value) : KeepS w ((V.setCell ⟨R, 0, none⟩ u).setCell ⟨R, 1, none⟩ v) B base :=
  (h.grown (grown_set1 V R 0 u) (fun k e => by cases e; exact .inl hR)).grown (grown_set1 _ R 1 v) (fun k e => by cases e; exact .inl hR)
theorem KeepS.at {cs : Array Value} {t : TypeId} (h : KeepS w V B base) (hR : w.heap[R]? = some (.cells cs t (0, 0))) (h1 : t ≠ 2) (h2 : t ≠ 100) (hX : R ≠ B) : V.heap[R]? = some (.cells cs t (0, 0)) :=
  (h.block R (Array.getElem?_eq_some_iff.1 hR).1 hX (.inr fun c => ⟨fun e => by rw [hR] at e; simp at e; exact h1 e.2, fun e => by rw [hR] at e; simp at e; exact h2 e.2⟩)).trans hR
theorem SpN.cutAt {gc cc : Nat} (h : SpN w B base n s (.slice (some ⟨gc, 0, none⟩) n cc) av C I) {i : Nat} (hi : i < n) (x : Int) : SpN (w.setCell ⟨gc, i, none⟩ (.int .i64 x)) B base n ⟨fun p => if p = i then x else s.cut p, s.bag⟩ (.slice (some ⟨gc, 0, none⟩) n cc) av (C.set i x) I ∧ KeepS w (w.setCell ⟨gc, i, none⟩ (.int .i64 x)) B base := by
  obtain ⟨c0, hc0⟩ := row_block h.cut rfl
  have ho : ∀ (k : Nat) (cs : Array Value) (t : TypeId), t ≠ 2 → w.heap[k]? = some (.cells cs t (0, 0)) → (w.setCell ⟨gc, i, none⟩ (.int .i64 x)).heap[k]? = w.heap[k]? := fun k cs t ht hk => heap_setCell_other _ _ _ _ (type_ne hk hc0 ht)
  refine ⟨⟨(ho B _ _ (by decide) h.blk).trans h.blk, put_row h.cut i _ (by rw [List.map_set]), row_stays h.all fun k hk => ?_, fun p hp => row_stays (h.dat p hp) fun k hk => ?_, by rw [List.length_set]; exact h.cl, fun j hj => ?_, h.bs⟩, (KeepS.refl _ _ _).grown (grown_set1 _ _ _ _) fun k e => ?_⟩
  · obtain ⟨cs, hc⟩ := row_block h.all hk; exact ho k cs _ (by decide) hc
  · obtain ⟨cs, hc⟩ := row_block (h.dat p hp) hk; exact ho k cs _ (by decide) hc
  · simp only
    have hj' : j < C.length := by rw [h.cl]; exact hj
    by_cases e : j = i
    · subst e; rw [List.getD_eq_getElem?_getD, List.getElem?_set_self hj']; simp
    · rw [List.getD_eq_getElem?_getD, List.getElem?_set_ne (fun e2 => e e2.symm), ← List.getD_eq_getElem?_getD, if_neg (by omega)]
      exact h.cs j hj
  · cases e; exact .inr (.inr ⟨(h.cut.lt _ rfl).1, c0, .inl hc0⟩)
theorem SpN.gone {ga ac : Nat} (h : SpN w B base n s cv (.slice (some ⟨ga, 0, none⟩) N ac) C I) (hN : I.length = N) {j : Nat} {i : SI} {iv : Value} (hj : I[j]? = some (i, iv)) : SpN (w.setCell ⟨ga, j * 4 + 3, none⟩ (.bool true)) B base n ⟨s.cut, fun p d => bagS ((I.set j (goneI i, iv)).map (·.1)) p d⟩ cv (.slice (some ⟨ga, 0, none⟩) N ac) C (I.set j (goneI i, iv)) ∧ KeepS w (w.setCell ⟨ga, j * 4 + 3, none⟩ (.bool true)) B base := by
  subst hN
  obtain ⟨hjl, hje⟩ := List.getElem?_eq_some_iff.1 hj
  obtain ⟨c0, hc0⟩ := row_block h.all rfl
  have ho : ∀ (k : Nat) (cs : Array Value) (t : TypeId), t ≠ 100 → w.heap[k]? = some (.cells cs t (0, 0)) → (w.setCell ⟨ga, j * 4 + 3, none⟩ (.bool true)).heap[k]? = w.heap[k]? := fun k cs t ht hk => heap_setCell_other _ _ _ _ (type_ne hk hc0 ht)
  have hfl := flatI_gone I j hjl
  rw [hje] at hfl
  refine ⟨⟨(ho B _ _ (by decide) h.blk).trans h.blk, row_stays h.cut fun k hk => ?_, by rw [List.length_set]; exact put_row h.all _ _ hfl, fun p hp => ?_, h.cl, h.cs, fun _ _ => rfl⟩, (KeepS.refl _ _ _).grown (grown_set1 _ _ _ _) fun k e => ?_⟩
  · obtain ⟨cs, hc⟩ := row_block h.cut hk; exact ho k cs _ (by decide) hc
  · have : w.ownsRow base 5 1 p.2 p.1.dat.length (p.1.dat.map (.int .u8)) := by
      rcases List.mem_or_eq_of_mem_set hp with hp | rfl
      · exact h.dat p hp
      · exact h.dat (i, iv) (List.mem_of_getElem? hj)
    refine row_stays this fun k hk => ?_
    obtain ⟨cs, hc⟩ := row_block this hk; exact ho k cs _ (by decide) hc
  · cases e; exact .inr (.inr ⟨(h.all.lt _ rfl).1, c0, .inr hc0⟩)
/-- One item more. -/
theorem SpN.push {aa : Option Addr} {ac : Nat} (h : SpN w B base n s cv (.slice aa N ac) C I) (hN : I.length = N) {pa di : Int} {dat : List Int} {dv : Value} (hd : w.ownsRow base 5 1 dv dat.length (dat.map (.int .u8))) {o : Obj} {w1 : World} {g cap : Nat} (hg : (w.alloc o).grownBy w1 (Value.slice aa N ac).ownBlock) (hbs : base ≤ w.heap.size)
    (hrow : w1.ownsRow base 100 4 (.slice (some ⟨g, 0, none⟩) (N + 1) cap) (N + 1) (flatI I ++ [.int .i64 pa, .int .i64 di, dv, .bool false])) :
    SpN (w1.setCell ⟨B, 2, none⟩ (.slice (some ⟨g, 0, none⟩) (N + 1) cap)) B base n (s.put pa di (s.bag pa di ++ [dat])) cv (.slice (some ⟨g, 0, none⟩) (N + 1) cap) C (I ++ [(⟨pa, di, dat, false⟩, dv)]) ∧ KeepS w (w1.setCell ⟨B, 2, none⟩ (.slice (some ⟨g, 0, none⟩) (N + 1) cap)) B base := by
  subst hN
  have ho : ∀ (k : Nat) (cs : Array Value) (t : TypeId), t ≠ 100 → w.heap[k]? = some (.cells cs t (0, 0)) → w1.heap[k]? = w.heap[k]? := fun k cs t ht hk => by
    have hkl := (Array.getElem?_eq_some_iff.1 hk).1
    refine (hg.block k (by simp; omega) fun e => ?_).trans (Below.heap_alloc _ _ _ hkl)
    obtain ⟨c2, hc2⟩ := row_block h.all e.symm
    exact type_ne hk hc2 ht rfl
  have hB1 := (ho B _ _ (by decide) h.blk).trans h.blk
  have ho2 : ∀ (k : Nat) (cs : Array Value) (t : TypeId), t ≠ 100 → t ≠ 70 → w.heap[k]? = some (.cells cs t (0, 0)) → (w1.setCell ⟨B, 2, none⟩ (.slice (some ⟨g, 0, none⟩) (I.length + 1) cap)).heap[k]? = w.heap[k]? := fun k cs t ht ht2 hk =>
    (heap_setCell_other _ _ _ _ (type_ne hk h.blk ht2)).trans (ho k cs t ht hk)
  refine ⟨⟨?_, row_stays h.cut fun k hk => ?_, ?_, fun p hp => ?_, h.cl, h.cs, fun p d => ?_⟩, ?_⟩
  · exact heap_setCell_same _ _ 2 _ _ _ hB1
  · obtain ⟨cs, hc⟩ := row_block h.cut hk; exact ho2 k cs _ (by decide) (by decide) hc
  · rw [flatI_snoc, List.length_append]
    refine row_stays hrow fun k hk => heap_setCell_other _ _ _ _ ?_
    obtain ⟨cs, hc⟩ := row_block hrow hk
    exact type_ne hc hB1 (by decide)
  · have : w.ownsRow base 5 1 p.2 p.1.dat.length (p.1.dat.map (.int .u8)) := by
      rcases List.mem_append.1 hp with hp | hp
      · exact h.dat p hp
      · simp at hp; subst hp; exact hd
    refine row_stays this fun k hk => ?_
    obtain ⟨cs, hc⟩ := row_block this hk
    exact ho2 k cs _ (by decide) (by decide) hc
  · rw [List.map_append, List.map_cons, List.map_nil, bagS_snoc, h.bs]
    simp only [NS.put]
    by_cases e : p = pa ∧ d = di
    · obtain ⟨rfl, rfl⟩ := e
      simp [liveI]
    · rw [if_neg e, live_one (p := pa) (d := di) (by simp [liveI]) e]
      simp
  · have hKa : KeepS w (w.alloc o) B base := KeepS.ofBelow ((Below.refl _ _).alloc (Nat.le_refl _) _)
    refine (hKa.grown hg fun k e => .inr (.inr ?_)).grown (grown_set1 _ _ _ _) fun k e => .inr (.inl (by cases e; rfl))
    obtain ⟨cs, hc⟩ := row_block h.all e
    have hkl := (Array.getElem?_eq_some_iff.1 hc).1
    exact ⟨(h.all.lt k e).1, cs, .inr ((Below.heap_alloc _ _ _ hkl).trans hc)⟩
end
end Go.Proofs.Ytkamdaadgndmbaa
