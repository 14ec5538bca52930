import Derived.Test.YtpeecjoadgefjaaJ9
namespace Go.Proofs.Ytpeecjoadgefjaa
open Go.ChangeShapes Go.WideShapes Go.ChangeAt Go.RowKit
set_option linter.unusedVariables false
set_option linter.unusedSimpArgs false

/-- What was changed lies in the blocks from base on, below lim. -/
structure Only (w w' : World) (base lim : Nat) : Prop where
  os : w'.os = w.os
  tape : w'.tape = w.tape
  output : w'.output = w.output
  size : w.heap.size ≤ w'.heap.size
  block : ∀ k, k < w.heap.size → (k < base ∨ lim ≤ k) → w'.heap[k]? = w.heap[k]?
theorem Only.refl (w : World) (base lim : Nat) : Only w w base lim := ⟨rfl, rfl, rfl, Nat.le_refl _, fun _ _ _ => rfl⟩
theorem Only.grown {w w1 w2 : World} {base lim : Nat} {r : Option Nat} (h : Only w w1 base lim) (g : w1.grownBy w2 r) (hr : ∀ k, r = some k → base ≤ k ∧ k < lim) : Only w w2 base lim :=
  ⟨g.os.trans h.os, g.tape.trans h.tape, g.output.trans h.output, Nat.le_trans h.size g.size, fun k hk h1 => (g.block k (Nat.lt_of_lt_of_le hk h.size) (fun e => by have := hr k e.symm; omega)).trans (h.block k hk h1)⟩
theorem Only.set {w w1 : World} {base lim : Nat} (h : Only w w1 base lim) (g j : Nat) (hg : base ≤ g) (hl : g < lim) (v : Value) : Only w (w1.setCell ⟨g, j, none⟩ v) base lim := by
  refine h.grown (r := some g) ⟨rfl, rfl, rfl, by simp, fun k hk hne => heap_setCell_other _ _ _ _ (fun e => hne (by rw [e]))⟩ fun k hk => ?_
  have := Option.some.inj hk
  omega
theorem apart_of {α β : Type} {f : α → Option β} {G : List α} (h : (G.filterMap f).Nodup) {i j : Nat} (hi : i < G.length) (hj : j < G.length) (hij : i ≠ j) {k : β} (h1 : f G[i] = some k) (h2 : f G[j] = some k) : False := by
  induction G generalizing i j with
  | nil => simp at hi
  | cons q r ih =>
    rw [List.filterMap_cons] at h
    have hr : (r.filterMap f).Nodup := by
      cases hq : f q with
      | none => rw [hq] at h; exact h
      | some b => rw [hq] at h; exact (List.nodup_cons.1 h).2
    cases i with
    | zero =>
      cases j with
      | zero => exact hij rfl
      | succ j =>
        simp only [List.getElem_cons_zero] at h1
        rw [h1] at h
        simp only [List.getElem_cons_succ] at h2
        exact (List.nodup_cons.1 h).1 (List.mem_filterMap.2 ⟨_, List.getElem_mem (by simpa using hj), h2⟩)
    | succ i =>
      cases j with
      | zero =>
        simp only [List.getElem_cons_zero] at h2
        rw [h2] at h
        simp only [List.getElem_cons_succ] at h1
        exact (List.nodup_cons.1 h).1 (List.mem_filterMap.2 ⟨_, List.getElem_mem (by simpa using hi), h1⟩)
      | succ j => exact ih hr (by simpa using hi) (by simpa using hj) (by omega) (by simpa using h1) (by simpa using h2)
theorem mem_set_at {α : Type} {G : List α} {i : Nat} {p q : α} (h : q ∈ G.set i p) : q = p ∨ ∃ j, ∃ hj : j < G.length, j ≠ i ∧ q = G[j] := by
  obtain ⟨j, hj, e⟩ := List.getElem_of_mem h
  rw [List.getElem_set] at e
  split at e
  · exact .inl e.symm
  · exact .inr ⟨j, by simpa using hj, by omega, e.symm⟩
theorem flatE_kd (G : Evs) (i : Nat) (hi : i < G.length) (x : Int) : (flatE G).set (i * 4) (.int .i64 x) = flatE (G.set i ({ (G[i]).1 with kd := x }, (G[i]).2)) := by
  induction G generalizing i with
  | nil => simp at hi
  | cons q r ih =>
    cases i with
    | zero => rfl
    | succ i =>
      have e1 : (i + 1) * 4 = i * 4 + 4 := by omega
      have h1 := ih i (by simpa using hi)
      simp only [List.set_cons_succ, List.getElem_cons_succ]
      rw [show ∀ (q : REv × Option Addr × Nat) (r : Evs), flatE (q :: r) = .int .i64 q.1.kd :: .int .u64 q.1.off :: .slice q.2.1 q.1.dat.length q.2.2 :: .int .i64 q.1.n :: flatE r from fun _ _ => rfl, show ∀ (q : REv × Option Addr × Nat) (r : Evs), flatE (q :: r) = .int .i64 q.1.kd :: .int .u64 q.1.off :: .slice q.2.1 q.1.dat.length q.2.2 :: .int .i64 q.1.n :: flatE r from fun _ _ => rfl, e1, ← h1]
      rfl
theorem flatE_off (G : Evs) (i : Nat) (hi : i < G.length) (x : Int) : (flatE G).set (i * 4 + 1) (.int .u64 x) = flatE (G.set i ({ (G[i]).1 with off := x }, (G[i]).2)) := by
  induction G generalizing i with
  | nil => simp at hi
  | cons q r ih =>
    cases i with
    | zero => rfl
    | succ i =>
      have e1 : (i + 1) * 4 + 1 = i * 4 + 1 + 4 := by omega
      have h1 := ih i (by simpa using hi)
      simp only [List.set_cons_succ, List.getElem_cons_succ]
      rw [show ∀ (q : REv × Option Addr × Nat) (r : Evs), flatE (q :: r) = .int .i64 q.1.kd :: .int .u64 q.1.off :: .slice q.2.1 q.1.dat.length q.2.2 :: .int .i64 q.1.n :: flatE r from fun _ _ => rfl, show ∀ (q : REv × Option Addr × Nat) (r : Evs), flatE (q :: r) = .int .i64 q.1.kd :: .int .u64 q.1.off :: .slice q.2.1 q.1.dat.length q.2.2 :: .int .i64 q.1.n :: flatE r from fun _ _ => rfl, e1, ← h1]
      rfl
theorem flatE_n (G : Evs) (i : Nat) (hi : i < G.length) (x : Int) : (flatE G).set (i * 4 + 3) (.int .i64 x) = flatE (G.set i ({ (G[i]).1 with n := x }, (G[i]).2)) := by
  induction G generalizing i with
  | nil => simp at hi
  | cons q r ih =>
    cases i with
    | zero => rfl
    | succ i =>
      have e1 : (i + 1) * 4 + 3 = i * 4 + 3 + 4 := by omega
      have h1 := ih i (by simpa using hi)
      simp only [List.set_cons_succ, List.getElem_cons_succ]
      rw [show ∀ (q : REv × Option Addr × Nat) (r : Evs), flatE (q :: r) = .int .i64 q.1.kd :: .int .u64 q.1.off :: .slice q.2.1 q.1.dat.length q.2.2 :: .int .i64 q.1.n :: flatE r from fun _ _ => rfl, show ∀ (q : REv × Option Addr × Nat) (r : Evs), flatE (q :: r) = .int .i64 q.1.kd :: .int .u64 q.1.off :: .slice q.2.1 q.1.dat.length q.2.2 :: .int .i64 q.1.n :: flatE r from fun _ _ => rfl, e1, ← h1]
      rfl
theorem flatO_cd (G : GotO) (i : Nat) (hi : i < G.length) (x : Int) : (flatO G).set (i * 3) (.int .i64 x) = flatO (G.set i ({ (G[i]).1 with code := x }, (G[i]).2)) := by
  induction G generalizing i with
  | nil => simp at hi
  | cons q r ih =>
    cases i with
    | zero => rfl
    | succ i =>
      have e1 : (i + 1) * 3 = i * 3 + 3 := by omega
      have h1 := ih i (by simpa using hi)
      simp only [List.set_cons_succ, List.getElem_cons_succ]
      rw [show ∀ (q : ROut × Value) (r : GotO), flatO (q :: r) = .int .i64 q.1.code :: .int .i64 q.1.n :: q.2 :: flatO r from fun _ _ => rfl, show ∀ (q : ROut × Value) (r : GotO), flatO (q :: r) = .int .i64 q.1.code :: .int .i64 q.1.n :: q.2 :: flatO r from fun _ _ => rfl, e1, ← h1]
      rfl
theorem flatO_n (G : GotO) (i : Nat) (hi : i < G.length) (x : Int) : (flatO G).set (i * 3 + 1) (.int .i64 x) = flatO (G.set i ({ (G[i]).1 with n := x }, (G[i]).2)) := by
  induction G generalizing i with
  | nil => simp at hi
  | cons q r ih =>
    cases i with
    | zero => rfl
    | succ i =>
      have e1 : (i + 1) * 3 + 1 = i * 3 + 1 + 3 := by omega
      have h1 := ih i (by simpa using hi)
      simp only [List.set_cons_succ, List.getElem_cons_succ]
      rw [show ∀ (q : ROut × Value) (r : GotO), flatO (q :: r) = .int .i64 q.1.code :: .int .i64 q.1.n :: q.2 :: flatO r from fun _ _ => rfl, show ∀ (q : ROut × Value) (r : GotO), flatO (q :: r) = .int .i64 q.1.code :: .int .i64 q.1.n :: q.2 :: flatO r from fun _ _ => rfl, e1, ← h1]
      rfl
theorem EvsR.store {w : World} {base g cap n : Nat} {G : Evs} (hn : G.length = n) (h : EvsR w base (.slice (some ⟨g, 0, none⟩) n cap) G) (i : Nat) (hi : i < G.length) (j : Nat) (x : Value) (e' : REv) (hd : e'.dat = (G[i]).1.dat) (hx : (flatE G).set j x = flatE (G.set i (e', (G[i]).2))) :
    EvsR (w.setCell ⟨g, j, none⟩ x) base (.slice (some ⟨g, 0, none⟩) n cap) (G.set i (e', (G[i]).2)) := by
  subst hn
  obtain ⟨cs, hcs⟩ := row_block h.row (k := g) rfl
  have hk : ∀ q ∈ G, (w.setCell ⟨g, j, none⟩ x).ownsRow base 5 1 (evP q) q.1.dat.length (q.1.dat.map (.int .u8)) := fun q hq => row_stays (h.dat q hq) fun k hk => by
    obtain ⟨c2, hc2⟩ := row_block (h.dat q hq) hk
    exact heap_setCell_other _ _ _ _ (type_ne hc2 hcs (by decide))
  refine ⟨?_, fun q hq => ?_, ?_⟩
  · have h1 := (h.row.stored j x).1
    rw [hx] at h1
    rw [List.length_set]
    exact h1
  · rcases mem_set_iff hq with rfl | hq
    · have h1 := hk _ (List.getElem_mem hi)
      simp only [evP] at h1 ⊢
      rw [hd]
      exact h1
    · exact hk q hq
  · rw [filterMap_set _ _ _ hi (by simp only [evP]; rw [hd])]
    exact h.apart
theorem EvsR.bytes {w w' : World} {base : Nat} {ov : Value} {G : Evs} (h : EvsR w base ov G) (i : Nat) (hi : i < G.length) (F : List Int) (hF : F.length = (G[i]).1.dat.length) (hg : w.grownBy w' (evP (G[i])).ownBlock) (hnew : w'.ownsRow base 5 1 (evP (G[i])) (G[i]).1.dat.length (F.map (.int .u8))) :
    EvsR w' base ov (G.set i ({ (G[i]).1 with dat := F }, (G[i]).2)) := by
  refine ⟨?_, fun q hq => ?_, ?_⟩
  · have e : flatE (G.set i ({ (G[i]).1 with dat := F }, (G[i]).2)) = flatE G := by
      have gen : ∀ (G : Evs) (i : Nat) (hi : i < G.length), F.length = (G[i]).1.dat.length → flatE (G.set i ({ (G[i]).1 with dat := F }, (G[i]).2)) = flatE G := by
        intro G
        induction G with
        | nil => intro i hi; simp at hi
        | cons q r ih =>
          intro i hi hF
          cases i with
          | zero => simp only [List.set_cons_zero, List.getElem_cons_zero] at hF ⊢; simp only [flatE, List.flatMap_cons, hF]
          | succ i =>
            have := ih i (by simpa using hi) (by simpa using hF)
            simp only [List.set_cons_succ, List.getElem_cons_succ]
            simp only [flatE, List.flatMap_cons] at this ⊢
            rw [this]
      exact gen G i hi hF
    rw [e, List.length_set]
    refine row_stays h.row fun k hk => hg.block k (h.row.lt k hk).2 (fun e2 => ?_)
    obtain ⟨c1, hc1⟩ := row_block h.row hk
    obtain ⟨c2, hc2⟩ := row_block (h.dat _ (List.getElem_mem hi)) e2.symm
    exact type_ne hc1 hc2 (by decide) rfl
  · rcases mem_set_at hq with rfl | ⟨j, hj, hji, rfl⟩
    · simp only [evP] at hnew ⊢
      rw [hF]
      exact hnew
    · refine row_stays (h.dat _ (List.getElem_mem hj)) fun k hk => hg.block k ((h.dat _ (List.getElem_mem hj)).lt k hk).2 (fun e2 => ?_)
      exact apart_of h.apart hj hi hji hk e2.symm
  · rw [filterMap_set _ _ _ hi (by simp only [evP]; rw [hF])]
    exact h.apart
theorem OutsR.store {w : World} {base g cap n : Nat} {G : GotO} (hn : G.length = n) (h : OutsR w base (.slice (some ⟨g, 0, none⟩) n cap) G) (i : Nat) (hi : i < G.length) (j : Nat) (x : Value) (e' : ROut) (hd : e'.dat = (G[i]).1.dat) (hx : (flatO G).set j x = flatO (G.set i (e', (G[i]).2))) :
    OutsR (w.setCell ⟨g, j, none⟩ x) base (.slice (some ⟨g, 0, none⟩) n cap) (G.set i (e', (G[i]).2)) := by
  subst hn
  obtain ⟨cs, hcs⟩ := row_block h.row (k := g) rfl
  have hk : ∀ q ∈ G, (w.setCell ⟨g, j, none⟩ x).ownsRow base 5 1 (q.2) q.1.dat.length (q.1.dat.map (.int .u8)) := fun q hq => row_stays (h.dat q hq) fun k hk => by
    obtain ⟨c2, hc2⟩ := row_block (h.dat q hq) hk
    exact heap_setCell_other _ _ _ _ (type_ne hc2 hcs (by decide))
  refine ⟨?_, fun q hq => ?_, ?_⟩
  · have h1 := (h.row.stored j x).1
    rw [hx] at h1
    rw [List.length_set]
    exact h1
  · rcases mem_set_iff hq with rfl | hq
    · have h1 := hk _ (List.getElem_mem hi)
      simp only [List.length_map] at h1 ⊢
      rw [hd]
      exact h1
    · exact hk q hq
  · rw [filterMap_set _ _ _ hi (by simp only [List.length_map])]
    exact h.apart
theorem OutsR.bytes {w w' : World} {base : Nat} {ov : Value} {G : GotO} (h : OutsR w base ov G) (i : Nat) (hi : i < G.length) (F : List Int) (hF : F.length = (G[i]).1.dat.length) (hg : w.grownBy w' ((G[i]).2).ownBlock) (hnew : w'.ownsRow base 5 1 ((G[i]).2) (G[i]).1.dat.length (F.map (.int .u8))) :
    OutsR w' base ov (G.set i ({ (G[i]).1 with dat := F }, (G[i]).2)) := by
  refine ⟨?_, fun q hq => ?_, ?_⟩
  · have e : flatO (G.set i ({ (G[i]).1 with dat := F }, (G[i]).2)) = flatO G := by
      have gen : ∀ (G : GotO) (i : Nat) (hi : i < G.length), F.length = (G[i]).1.dat.length → flatO (G.set i ({ (G[i]).1 with dat := F }, (G[i]).2)) = flatO G := by
        intro G
        induction G with
        | nil => intro i hi; simp at hi
        | cons q r ih =>
          intro i hi hF
          cases i with
          | zero => simp only [List.set_cons_zero, List.getElem_cons_zero] at hF ⊢; simp only [flatO, List.flatMap_cons, hF]
          | succ i =>
            have := ih i (by simpa using hi) (by simpa using hF)
            simp only [List.set_cons_succ, List.getElem_cons_succ]
            simp only [flatO, List.flatMap_cons] at this ⊢
            rw [this]
      exact gen G i hi hF
    rw [e, List.length_set]
    refine row_stays h.row fun k hk => hg.block k (h.row.lt k hk).2 (fun e2 => ?_)
    obtain ⟨c1, hc1⟩ := row_block h.row hk
    obtain ⟨c2, hc2⟩ := row_block (h.dat _ (List.getElem_mem hi)) e2.symm
    exact type_ne hc1 hc2 (by decide) rfl
  · rcases mem_set_at hq with rfl | ⟨j, hj, hji, rfl⟩
    · simp only [List.length_map] at hnew ⊢
      rw [hF]
      exact hnew
    · refine row_stays (h.dat _ (List.getElem_mem hj)) fun k hk => hg.block k ((h.dat _ (List.getElem_mem hj)).lt k hk).2 (fun e2 => ?_)
      exact apart_of h.apart hj hi hji hk e2.symm
  · rw [filterMap_set _ _ _ hi (by simp only [List.length_map])]
    exact h.apart
end Go.Proofs.Ytpeecjoadgefjaa
