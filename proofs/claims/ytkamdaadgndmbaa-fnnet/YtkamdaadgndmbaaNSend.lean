import Derived.Test.YtkamdaadgndmbaaNNet2
import Derived.Test.YtkamdaadgndmbaaNLaw5
namespace Go.Proofs.Ytkamdaadgndmbaa
open Go.ChangeShapes Go.WideShapes Go.ChangeAt Go.RowKit
set_option linter.unusedVariables false

theorem filterMap_snoc_nodup {α : Type} {f : α → Option Nat} {l : List α} {x : α} {n : Nat} (h : (l.filterMap f).Nodup) (hl : ∀ q ∈ l, ∀ k, f q = some k → k < n) (hx : ∀ k, f x = some k → n ≤ k) : ((l ++ [x]).filterMap f).Nodup := by
  rw [List.filterMap_append, List.nodup_append]
  refine ⟨h, by simp only [List.filterMap_cons, List.filterMap_nil]; split <;> simp, fun a ha b hb e => ?_⟩
  subst e
  obtain ⟨q, hq, hqa⟩ := List.mem_filterMap.1 ha
  obtain ⟨y, hy, hya⟩ := List.mem_filterMap.1 hb
  simp at hy
  subst hy
  have := hl q hq a hqa
  have := hx a hya
  omega
theorem map_erase {α β : Type} (f : α → β) (l : List α) (p : Nat) : (l.eraseIdx p).map f = (l.map f).eraseIdx p := by
  rw [List.eraseIdx_eq_take_drop_succ, List.eraseIdx_eq_take_drop_succ, List.map_append, List.map_take, List.map_drop]
/-- A copy of bytes is laid down in a bag. -/
theorem put_net (X base i d : Nat) (s : NS) (L : List Lk) (w : World) (h : NetAt w X base s L) (hi : i < L.length) (hd : d < 2) (hb : base ≤ w.heap.size) (hl : (s.bag i d).length < 64) (y : List Int) (ua : Option Addr) (uc lim : Nat) (hu : w.ownsRow lim 5 1 (.slice ua y.length uc) y.length (y.map (.int .u8))) (hlim : base ≤ lim) (hnew : ∀ p ∈ bagsL L, ∀ q ∈ p.2, ∀ k, q.2.ownBlock = some k → k < lim) (n : Nat) (hn : y.length = n) :
    Calls Try.prog 56 #[.pointer (some ⟨X, i * 3 + 1 + d, none⟩), .slice ua n uc] w fun e w' => ∃ L', e = .returned (.tuple #[]) ∧ L'.length = L.length ∧ NetAt w' X base (s.put i d (s.bag i d ++ [y])) L' ∧ SubD lim L L' ∧ Keeps w w' X base := by
  subst hn
  obtain ⟨B1, B2, e1, _⟩ := bagsL_at L i hi hd
  have hbl : ((L[i]).bag d).2.length = (s.bag i d).length := by rw [← h.bag i hi d hd, List.length_map]
  have hrow := h.row hi hd
  obtain ⟨av, cap, hsh⟩ := own_shape hrow
  have hcell : (flatL L).toArray[i * 3 + 1 + d]? = some (.slice av ((L[i]).bag d).2.length cap) := by rw [List.getElem?_toArray, flatL_bag hi hd, hsh]
  rw [hsh] at hrow
  have hsh' : ((L[i]).bag d).1.ownBlock = (Value.slice av ((L[i]).bag d).2.length cap).ownBlock := by rw [hsh]
  refine (qput_any X (i * 3 + 1 + d) base _ cap av _ ua y.length uc w _ _ (by decide) h.blk hcell hrow hb (by omega)).mono ?_
  rintro e w' ⟨g, cp, rfl, ho, hX, hat, hm⟩
  rw [← hsh'] at hm hat
  have hdk : ∀ {b : Nat} {u : Value} {m : Nat} {ys : List Value}, w.ownsRow b 5 1 u m ys → w'.ownsRow b 5 1 u m ys := fun {b u m ys} h1 => by
    refine row_stays h1 fun k hk => ?_
    obtain ⟨c1, hc1⟩ := row_block h1 hk
    refine hm.block k (h1.lt k hk).2 (type_ne hc1 h.blk (by decide)) fun e => ?_
    obtain ⟨c2, hc2⟩ := row_block (h.row hi hd) e
    exact type_ne hc1 hc2 (by decide) rfl
  have hlt : ∀ q ∈ ((L[i]).bag d).2, ∀ k, q.2.ownBlock = some k → k < lim := fun q hq k hk => hnew _ (by rw [e1]; simp) q hq k hk
  obtain ⟨r1, r2, r3⟩ := h.swap (w' := w') hi hd (v' := .slice (some ⟨g, 0, none⟩) (((L[i]).bag d).2.length + 1) cp) (bg' := ((L[i]).bag d).2 ++ [(y, .slice ua y.length uc)]) hm hX (by rw [List.length_append, List.map_append]; exact ho)
    (fun k hk => by
      obtain rfl : g = k := by simpa [Value.ownBlock] using hk
      exact hat)
    (fun q hq => by
      rcases List.mem_append.1 hq with hq | hq
      · exact hdk (h.dat hi hd q hq)
      · simp at hq
        subst hq
        exact hdk (owned_base hu hlim))
    (filterMap_snoc_nodup (n := lim) (h.apart hi hd) hlt (fun k hk => (hu.lt k hk).1))
    hnew
    (fun q hq k hk => by
      rcases List.mem_append.1 hq with hq | hq
      · exact .inr ⟨q, hq, hk⟩
      · simp at hq
        subst hq
        exact .inl (hu.lt k hk).1)
  rw [List.map_append, h.bag i hi d hd] at r1
  exact ⟨_, rfl, by rw [List.length_set], r1, r2, r3⟩
/-- The thing at a place leaves a bag. -/
theorem take_net (X base i d p : Nat) (s : NS) (L : List Lk) (w : World) (h : NetAt w X base s L) (hi : i < L.length) (hd : d < 2) (hb : base ≤ w.heap.size) (hl : (s.bag i d).length ≤ 64) (hp : p < (s.bag i d).length) :
    Calls Try.prog 57 #[.pointer (some ⟨X, i * 3 + 1 + d, none⟩), .int .i64 (p : Int)] w fun e w' => ∃ (L' : List Lk) (ya : Option Addr) (yc : Nat), e = .returned (.slice ya ((s.bag i d).getD p []).length yc) ∧ L'.length = L.length ∧ NetAt w' X base (s.put i d ((s.bag i d).eraseIdx p)) L' ∧ SubD w.heap.size L L' ∧ Keeps w w' X base ∧
      w'.ownsRow base 5 1 (.slice ya ((s.bag i d).getD p []).length yc) ((s.bag i d).getD p []).length (((s.bag i d).getD p []).map (.int .u8)) ∧ (∀ k, (Value.slice ya ((s.bag i d).getD p []).length yc).ownBlock = some k → (∃ q ∈ bagsL L, ∃ r ∈ q.2, r.2.ownBlock = some k) ∧ ∀ q ∈ bagsL L', ∀ r ∈ q.2, r.2.ownBlock ≠ some k) := by
  obtain ⟨B1, B2, e1, e2⟩ := bagsL_at L i hi hd
  have hbg := h.bag i hi d hd
  have hbl : ((L[i]).bag d).2.length = (s.bag i d).length := by rw [← hbg, List.length_map]
  have hrow := h.row hi hd
  have hpl : p < ((L[i]).bag d).2.length := by omega
  obtain ⟨g, cap, hsh⟩ : ∃ g cap, ((L[i]).bag d).1 = .slice (some ⟨g, 0, none⟩) ((L[i]).bag d).2.length cap := by
    rcases hrow.2 with ⟨_, h0⟩ | ⟨g, cap, cur, e, _⟩
    · omega
    · exact ⟨g, cap, e⟩
  have hcell : (flatL L).toArray[i * 3 + 1 + d]? = some (.slice (some ⟨g, 0, none⟩) ((L[i]).bag d).2.length cap) := by rw [List.getElem?_toArray, flatL_bag hi hd, hsh]
  rw [hsh] at hrow
  obtain ⟨⟨y, u⟩, hyu⟩ : ∃ q, ((L[i]).bag d).2[p]? = some q := ⟨_, List.getElem?_eq_getElem hpl⟩
  have hy : (s.bag i d).getD p [] = y := by rw [← hbg, List.getD_eq_getElem?_getD, List.getElem?_map, hyu]; rfl
  rw [hy]
  have hmem : (y, u) ∈ ((L[i]).bag d).2 := List.mem_of_getElem? hyu
  have hud : w.ownsRow base 5 1 u y.length (y.map (.int .u8)) := h.dat hi hd _ hmem
  have one : ∀ v ∈ ((L[i]).bag d).2.map (·.2), v.oneCell' = true := by
    intro v hv
    obtain ⟨q, hq, rfl⟩ := List.mem_map.1 hv
    obtain ⟨a, c, e⟩ := own_shape (h.dat hi hd q hq)
    rw [e]
    rfl
  refine (qtake_any X (i * 3 + 1 + d) base g _ cap p _ w _ _ (by decide) h.blk hcell hrow hb (by omega) hpl one u (by rw [List.getElem?_map, hyu]; rfl)).mono ?_
  rintro e w' ⟨v', rfl, ho, hX, hat, hm⟩
  have hsh' : ((L[i]).bag d).1.ownBlock = some g := by rw [hsh]; rfl
  have hdk : ∀ {b : Nat} {u : Value} {m : Nat} {ys : List Value}, w.ownsRow b 5 1 u m ys → w'.ownsRow b 5 1 u m ys := fun {b u m ys} h1 => by
    refine row_stays h1 fun k hk => ?_
    obtain ⟨c1, hc1⟩ := row_block h1 hk
    refine hm.block k (h1.lt k hk).2 (type_ne hc1 h.blk (by decide)) fun e => ?_
    obtain ⟨c2, hc2⟩ := row_block (h.row hi hd) (hsh'.trans e)
    exact type_ne hc1 hc2 (by decide) rfl
  have hel : (((L[i]).bag d).2.eraseIdx p).length = ((L[i]).bag d).2.length - 1 := by rw [List.length_eraseIdx, if_pos hpl]
  have hem : (((L[i]).bag d).2.eraseIdx p).map (·.2) = (((L[i]).bag d).2.map (·.2)).eraseIdx p := map_erase _ _ _
  obtain ⟨r1, r2, r3⟩ := h.swap (w' := w') (lim := w.heap.size) hi hd (v' := v') (bg' := ((L[i]).bag d).2.eraseIdx p) (by rw [hsh']; exact hm) hX (by rw [hel, hem]; exact ho)
    (fun k hk => by
      rw [hsh']
      rcases hat with e | e
      · exact .inl (e.symm.trans hk)
      · exact .inr (by rw [e] at hk; cases hk; exact Nat.le_refl _))
    (fun q hq => hdk (h.dat hi hd q (List.mem_of_mem_eraseIdx hq)))
    ((h.apart hi hd).sublist ((List.eraseIdx_sublist ..).filterMap _))
    (fun p hp q hq k hk => ((h.bags.dat p hp q hq).lt k hk).2)
    (fun q hq k hk => .inr ⟨q, List.mem_of_mem_eraseIdx hq, hk⟩)
  rw [map_erase, hbg] at r1
  obtain ⟨ya, yc, rfl⟩ := own_shape hud
  refine ⟨_, ya, yc, rfl, by rw [List.length_set], r1, r2, r3, hdk hud, fun k hk => ⟨⟨_, by rw [e1]; simp, _, hmem, hk⟩, fun q hq r hr e => ?_⟩⟩
  have hD := h.bags.apD
  rw [e1, List.flatMap_append, List.flatMap_cons, List.filterMap_append, List.filterMap_append] at hD
  obtain ⟨_, d2, d3⟩ := List.nodup_append.1 hD
  obtain ⟨_, _, d6⟩ := List.nodup_append.1 d2
  have kin : k ∈ ((L[i]).bag d).2.filterMap (fun q => q.2.ownBlock) := List.mem_filterMap.2 ⟨_, hmem, hk⟩
  rw [e2] at hq
  rcases List.mem_append.1 hq with hq | hq
  · exact d3 k (List.mem_filterMap.2 ⟨r, List.mem_flatMap.2 ⟨q, hq, hr⟩, e⟩) k (List.mem_append_left _ kin) rfl
  · rcases List.mem_cons.1 hq with rfl | hq
    · simp only at hr
      obtain ⟨j, hj, hjp, rfl⟩ := List.mem_eraseIdx_iff_getElem.1 hr
      obtain ⟨_, hpe⟩ := List.getElem?_eq_some_iff.1 hyu
      exact apart_of (h.apart hi hd) hj hpl hjp e (by rw [hpe]; exact hk)
    · exact d6 k kin k (List.mem_filterMap.2 ⟨r, List.mem_flatMap.2 ⟨q, hq, hr⟩, e⟩) rfl
end Go.Proofs.Ytkamdaadgndmbaa
