import Derived.Test.YtkamdaadgndmbaaNNet1
namespace Go.Proofs.Ytkamdaadgndmbaa
open Go.ChangeShapes Go.WideShapes Go.ChangeAt Go.RowKit
set_option linter.unusedVariables false

def Lk.bag (l : Lk) (d : Nat) : Value × Bg := if d = 0 then l.b0 else l.b1
def Lk.set (l : Lk) (d : Nat) (p : Value × Bg) : Lk := if d = 0 then { l with b0 := p } else { l with b1 := p }
theorem Lk.cut_set (l : Lk) (d : Nat) (p : Value × Bg) : (l.set d p).cut = l.cut := by unfold Lk.set; split <;> rfl
theorem flatL_bag {L : List Lk} {i : Nat} (h : i < L.length) {d : Nat} (hd : d < 2) : (flatL L)[i * 3 + 1 + d]? = some ((L[i]).bag d).1 := by
  obtain ⟨_, h1, h2⟩ := flatL_at h
  rcases (show d = 0 ∨ d = 1 by omega) with rfl | rfl
  · exact h1
  · exact h2
theorem flatL_set (L : List Lk) (i : Nat) (h : i < L.length) {d : Nat} (hd : d < 2) (p : Value × Bg) : (flatL L).set (i * 3 + 1 + d) p.1 = flatL (L.set i ((L[i]).set d p)) := by
  rcases (show d = 0 ∨ d = 1 by omega) with rfl | rfl
  · exact flatL_b0 L i h p
  · exact flatL_b1 L i h p
theorem bagsL_at (L : List Lk) (i : Nat) (h : i < L.length) {d : Nat} (hd : d < 2) : ∃ B1 B2, bagsL L = B1 ++ (L[i]).bag d :: B2 ∧ ∀ p, bagsL (L.set i ((L[i]).set d p)) = B1 ++ p :: B2 := by
  rcases (show d = 0 ∨ d = 1 by omega) with rfl | rfl
  · exact ⟨bagsL (L.take i), (L[i]).b1 :: bagsL (L.drop (i + 1)), bagsL_split L i h, fun p => bagsL_set L i h _⟩
  · refine ⟨bagsL (L.take i) ++ [(L[i]).b0], bagsL (L.drop (i + 1)), ?_, fun p => ?_⟩
    · rw [bagsL_split L i h, List.append_assoc]; rfl
    · rw [bagsL_set L i h, List.append_assoc]; rfl

/-- The network in memory. -/
structure NetAt (w : World) (X base : Nat) (s : NS) (L : List Lk) : Prop where
  blk : w.heap[X]? = some (.cells (flatL L).toArray 92 (0, 0))
  bags : Bags w base (bagsL L)
  cut : ∀ i, ∀ h : i < L.length, (L[i]).cut = s.cut i
  bag : ∀ i, ∀ h : i < L.length, ∀ d, d < 2 → ((L[i]).bag d).2.map (·.1) = s.bag i d
/-- What a method leaves of the memory. -/
structure Keeps (w w' : World) (X base : Nat) : Prop where
  os : w'.os = w.os
  tape : w'.tape = w.tape
  output : w'.output = w.output
  size : w.heap.size ≤ w'.heap.size
  block : ∀ k, k < w.heap.size → k ≠ X → (k < base ∨ ∀ cs, w.heap[k]? ≠ some (.cells cs 22 (0, 0))) → w'.heap[k]? = w.heap[k]?
theorem Keeps.ofMv {w w' : World} {X base : Nat} {r : Option Nat} (h : Mv w w' X r) (hr : ∀ k, r = some k → base ≤ k ∧ ∃ cs, w.heap[k]? = some (.cells cs 22 (0, 0))) : Keeps w w' X base :=
  ⟨h.os, h.tape, h.output, h.size, fun k hk h1 h2 => h.block k hk h1 fun e => by
    obtain ⟨h3, cs, h4⟩ := hr k e
    rcases h2 with h2 | h2
    · omega
    · exact h2 cs h4⟩
/-- The blocks of bytes in the bags are those of before, or new. -/
def SubD (n : Nat) (L L' : List Lk) : Prop := ∀ p ∈ bagsL L', ∀ q ∈ p.2, ∀ k, q.2.ownBlock = some k → n ≤ k ∨ ∃ p' ∈ bagsL L, ∃ q' ∈ p'.2, q'.2.ownBlock = some k
theorem SubD.refl (n : Nat) (L : List Lk) : SubD n L L := fun p hp q hq k hk => .inr ⟨p, hp, q, hq, hk⟩
theorem NetAt.row {w : World} {X base : Nat} {s : NS} {L : List Lk} (h : NetAt w X base s L) {i d : Nat} (hi : i < L.length) (hd : d < 2) : w.ownsRow base 22 1 ((L[i]).bag d).1 ((L[i]).bag d).2.length (((L[i]).bag d).2.map (·.2)) := by
  obtain ⟨B1, B2, e1, _⟩ := bagsL_at L i hi hd
  exact h.bags.row _ (by rw [e1]; simp)
theorem NetAt.dat {w : World} {X base : Nat} {s : NS} {L : List Lk} (h : NetAt w X base s L) {i d : Nat} (hi : i < L.length) (hd : d < 2) : ∀ q ∈ ((L[i]).bag d).2, w.ownsRow base 5 1 q.2 q.1.length (q.1.map (.int .u8)) := by
  obtain ⟨B1, B2, e1, _⟩ := bagsL_at L i hi hd
  exact h.bags.dat _ (by rw [e1]; simp)
theorem NetAt.apart {w : World} {X base : Nat} {s : NS} {L : List Lk} (h : NetAt w X base s L) {i d : Nat} (hi : i < L.length) (hd : d < 2) : (((L[i]).bag d).2.filterMap fun q => q.2.ownBlock).Nodup := by
  obtain ⟨B1, B2, e1, _⟩ := bagsL_at L i hi hd
  have := h.bags.apD
  rw [e1, List.flatMap_append, List.flatMap_cons, List.filterMap_append, List.filterMap_append] at this
  exact (List.nodup_append.1 (List.nodup_append.1 this).2.1).1
theorem NetAt.swap {w w' : World} {X base lim : Nat} {s : NS} {L : List Lk} (h : NetAt w X base s L) {i d : Nat} (hi : i < L.length) (hd : d < 2) {v' : Value} {bg' : Bg} (hm : Mv w w' X ((L[i]).bag d).1.ownBlock)
    (hX : w'.heap[X]? = some (.cells ((flatL L).toArray.setIfInBounds (i * 3 + 1 + d) v') 92 (0, 0)))
    (hrow : w'.ownsRow base 22 1 v' bg'.length (bg'.map (·.2))) (hat : ∀ k, v'.ownBlock = some k → ((L[i]).bag d).1.ownBlock = some k ∨ w.heap.size ≤ k) (hdat : ∀ q ∈ bg', w'.ownsRow base 5 1 q.2 q.1.length (q.1.map (.int .u8)))
    (hap : (bg'.filterMap fun q => q.2.ownBlock).Nodup) (hlim : ∀ p ∈ bagsL L, ∀ q ∈ p.2, ∀ k, q.2.ownBlock = some k → k < lim) (hsub : ∀ q ∈ bg', ∀ k, q.2.ownBlock = some k → lim ≤ k ∨ ∃ q' ∈ ((L[i]).bag d).2, q'.2.ownBlock = some k) :
    NetAt w' X base (s.put i d (bg'.map (·.1))) (L.set i ((L[i]).set d (v', bg'))) ∧ SubD lim L (L.set i ((L[i]).set d (v', bg'))) ∧ Keeps w w' X base := by
  obtain ⟨B1, B2, e1, e2⟩ := bagsL_at L i hi hd
  have hb := h.bags
  rw [e1] at hb
  have hlim' := hlim
  rw [e1] at hlim'
  have hs := Bags.swap (v := ((L[i]).bag d).1) (bg := ((L[i]).bag d).2) (bg' := bg') hb h.blk hm hrow hat hdat hap hlim' hsub
  refine ⟨⟨?_, by rw [e2]; exact hs, fun i' hi' => ?_, fun i' hi' d' hd' => ?_⟩, fun p hp q hq k hk => ?_, Keeps.ofMv hm fun k hk => ?_⟩
  · rw [← flatL_set L i hi hd (v', bg'), hX]
    simp
  · simp only [NS.put]
    rw [List.length_set] at hi'
    rw [List.getElem_set]
    split
    · rename_i e; subst e; rw [Lk.cut_set]; exact h.cut _ hi
    · exact h.cut i' hi'
  · rw [List.length_set] at hi'
    simp only [NS.put]
    rw [List.getElem_set]
    by_cases e : i = i'
    · subst e
      rw [if_pos rfl]
      have q0 := h.bag i hi 0 (by omega)
      have q1 := h.bag i hi 1 (by omega)
      unfold Lk.bag at q0 q1 ⊢
      unfold Lk.set
      rcases (show d = 0 ∨ d = 1 by omega) with rfl | rfl <;> rcases (show d' = 0 ∨ d' = 1 by omega) with rfl | rfl <;> simp
      · exact q1
      · exact q0
    · rw [if_neg e, if_neg (by rintro ⟨e3, _⟩; omega)]
      exact h.bag i' hi' d' hd'
  · rw [e2] at hp
    rw [e1]
    rcases List.mem_append.1 hp with hp | hp
    · exact .inr ⟨p, by simp [hp], q, hq, hk⟩
    · rcases List.mem_cons.1 hp with rfl | hp
      · rcases hsub q hq k hk with e | ⟨q', hq', e⟩
        · exact .inl e
        · exact .inr ⟨(L[i]).bag d, by simp, q', hq', e⟩
      · exact .inr ⟨p, by simp [hp], q, hq, hk⟩
  · exact ⟨((h.row hi hd).lt k hk).1, row_block (h.row hi hd) hk⟩
end Go.Proofs.Ytkamdaadgndmbaa
