import Derived.Test.YtkamdaadgndmbaaNQ2
namespace Go.Proofs.Ytkamdaadgndmbaa
open Go.ChangeShapes Go.WideShapes Go.ChangeAt Go.RowKit
set_option linter.unusedVariables false

/-! ### The bags in memory -/
/-- What lies in a bag: the bytes, and the value that leads to them. -/
abbrev Bg := List (List Int × Value)
abbrev Bgs := List (Value × Bg)
structure Bags (w : World) (base : Nat) (B : Bgs) : Prop where
  row : ∀ p ∈ B, w.ownsRow base 22 1 p.1 p.2.length (p.2.map (·.2))
  dat : ∀ p ∈ B, ∀ q ∈ p.2, w.ownsRow base 5 1 q.2 q.1.length (q.1.map (.int .u8))
  apB : (B.filterMap fun p => p.1.ownBlock).Nodup
  apD : ((B.flatMap (·.2)).filterMap fun q => q.2.ownBlock).Nodup
theorem Bags.stays {w w' : World} {base : Nat} {B : Bgs} (h : Bags w base B) (hb : ∀ k cs (t : TypeId), base ≤ k → (t = 22 ∨ t = 5) → w.heap[k]? = some (.cells cs t (0, 0)) → w'.heap[k]? = w.heap[k]?) : Bags w' base B := by
  refine ⟨fun p hp => row_stays (h.row p hp) fun k hk => ?_, fun p hp q hq => row_stays (h.dat p hp q hq) fun k hk => ?_, h.apB, h.apD⟩
  · obtain ⟨cs, hc⟩ := row_block (h.row p hp) hk
    exact hb k cs _ ((h.row p hp).lt k hk).1 (.inl rfl) hc
  · obtain ⟨cs, hc⟩ := row_block (h.dat p hp q hq) hk
    exact hb k cs _ ((h.dat p hp q hq).lt k hk).1 (.inr rfl) hc
theorem nodup_mid {α : Type} {F1 F2 : List α} {k : α} (h : (F1 ++ F2).Nodup) (hk : k ∉ F1 ++ F2) : (F1 ++ k :: F2).Nodup :=
  (List.perm_middle.nodup_iff).2 (List.nodup_cons.2 ⟨hk, h⟩)
/-- One bag is another; all that lies elsewhere is as it was. -/
theorem Bags.swap {w w' : World} {base X lim : Nat} {cs : Array Value} {B1 B2 : Bgs} {v v' : Value} {bg bg' : Bg} (h : Bags w base (B1 ++ (v, bg) :: B2)) (hX : w.heap[X]? = some (.cells cs 92 (0, 0))) (hm : Mv w w' X v.ownBlock)
    (hrow : w'.ownsRow base 22 1 v' bg'.length (bg'.map (·.2))) (hat : ∀ k, v'.ownBlock = some k → v.ownBlock = some k ∨ w.heap.size ≤ k) (hdat : ∀ q ∈ bg', w'.ownsRow base 5 1 q.2 q.1.length (q.1.map (.int .u8)))
    (hap : (bg'.filterMap fun q => q.2.ownBlock).Nodup) (hlim : ∀ p ∈ B1 ++ (v, bg) :: B2, ∀ q ∈ p.2, ∀ k, q.2.ownBlock = some k → k < lim) (hsub : ∀ q ∈ bg', ∀ k, q.2.ownBlock = some k → lim ≤ k ∨ ∃ q' ∈ bg, q'.2.ownBlock = some k) : Bags w' base (B1 ++ (v', bg') :: B2) := by
  have hin : ∀ p, p ∈ B1 ∨ p ∈ B2 → p ∈ B1 ++ (v, bg) :: B2 := fun p hp => by rcases hp with hp | hp <;> simp [hp]
  have hv : (v, bg) ∈ B1 ++ (v, bg) :: B2 := by simp
  have hB := h.apB
  have hD := h.apD
  rw [List.filterMap_append, List.filterMap_cons] at hB
  rw [List.flatMap_append, List.flatMap_cons, List.filterMap_append, List.filterMap_append] at hD
  have hB0 : (B1.filterMap (fun p => p.1.ownBlock) ++ B2.filterMap (fun p => p.1.ownBlock)).Nodup ∧ ∀ k, v.ownBlock = some k → k ∉ B1.filterMap (fun p => p.1.ownBlock) ++ B2.filterMap (fun p => p.1.ownBlock) := by
    cases hv0 : v.ownBlock with
    | none => rw [hv0] at hB; exact ⟨hB, fun k hk => by cases hk⟩
    | some k0 =>
      rw [hv0] at hB
      have := List.nodup_cons.1 (List.perm_middle.nodup_iff.1 hB)
      exact ⟨this.2, fun k hk => by cases hk; exact this.1⟩
  have hlt : ∀ k, k ∈ B1.filterMap (fun p => p.1.ownBlock) ++ B2.filterMap (fun p => p.1.ownBlock) → k < w.heap.size := by
    intro k hk
    rw [← List.filterMap_append] at hk
    obtain ⟨p, hp, hpk⟩ := List.mem_filterMap.1 hk
    exact ((h.row p (hin p (List.mem_append.1 hp))).lt k hpk).2
  have kd : ∀ p, p ∈ B1 ∨ p ∈ B2 → ∀ q ∈ p.2, w'.ownsRow base 5 1 q.2 q.1.length (q.1.map (.int .u8)) := fun p hp q hq => by
    have h1 := h.dat p (hin p hp) q hq
    refine row_stays h1 fun k hk => ?_
    obtain ⟨c1, hc1⟩ := row_block h1 hk
    refine hm.block k (h1.lt k hk).2 (type_ne hc1 hX (by decide)) fun e => ?_
    obtain ⟨c2, hc2⟩ := row_block (h.row _ hv) e
    exact type_ne hc1 hc2 (by decide) rfl
  have kr : ∀ p, p ∈ B1 ∨ p ∈ B2 → w'.ownsRow base 22 1 p.1 p.2.length (p.2.map (·.2)) := fun p hp => by
    have h1 := h.row p (hin p hp)
    refine row_stays h1 fun k hk => ?_
    obtain ⟨c1, hc1⟩ := row_block h1 hk
    refine hm.block k (h1.lt k hk).2 (type_ne hc1 hX (by decide)) fun e => ?_
    refine hB0.2 k e ?_
    rw [← List.filterMap_append]
    exact List.mem_filterMap.2 ⟨p, List.mem_append.2 hp, hk⟩
  refine ⟨fun p hp => ?_, fun p hp q hq => ?_, ?_, ?_⟩
  · rcases List.mem_append.1 hp with hp | hp
    · exact kr p (.inl hp)
    · rcases List.mem_cons.1 hp with rfl | hp
      · exact hrow
      · exact kr p (.inr hp)
  · rcases List.mem_append.1 hp with hp | hp
    · exact kd p (.inl hp) q hq
    · rcases List.mem_cons.1 hp with rfl | hp
      · exact hdat q hq
      · exact kd p (.inr hp) q hq
  · rw [List.filterMap_append, List.filterMap_cons]
    cases hv1 : v'.ownBlock with
    | none => exact hB0.1
    | some k =>
      refine nodup_mid hB0.1 fun hk => ?_
      rcases hat k hv1 with e | e
      · exact hB0.2 k e hk
      · have := hlt k hk; omega
  · rw [List.flatMap_append, List.flatMap_cons, List.filterMap_append, List.filterMap_append]
    rw [List.nodup_append] at hD ⊢
    obtain ⟨d1, d2, d3⟩ := hD
    rw [List.nodup_append] at d2
    obtain ⟨d4, d5, d6⟩ := d2
    have ltD : ∀ p, p ∈ B1 ∨ p ∈ B2 → ∀ q ∈ p.2, ∀ k, q.2.ownBlock = some k → k < lim := fun p hp q hq k hk => hlim p (hin p hp) q hq k hk
    have old : ∀ k, k ∈ bg'.filterMap (fun q => q.2.ownBlock) → lim ≤ k ∨ k ∈ bg.filterMap (fun q => q.2.ownBlock) := fun k hk => by
      obtain ⟨q, hq, hqk⟩ := List.mem_filterMap.1 hk
      rcases hsub q hq k hqk with e | ⟨q', hq', e⟩
      · exact .inl e
      · exact .inr (List.mem_filterMap.2 ⟨q', hq', e⟩)
    have lt1 : ∀ k, k ∈ (B1.flatMap (·.2)).filterMap (fun q => q.2.ownBlock) → k < lim := fun k hk => by
      obtain ⟨q, hq, hqk⟩ := List.mem_filterMap.1 hk
      obtain ⟨p, hp, hqp⟩ := List.mem_flatMap.1 hq
      exact ltD p (.inl hp) q hqp k hqk
    have lt2 : ∀ k, k ∈ (B2.flatMap (·.2)).filterMap (fun q => q.2.ownBlock) → k < lim := fun k hk => by
      obtain ⟨q, hq, hqk⟩ := List.mem_filterMap.1 hk
      obtain ⟨p, hp, hqp⟩ := List.mem_flatMap.1 hq
      exact ltD p (.inr hp) q hqp k hqk
    refine ⟨d1, List.nodup_append.2 ⟨hap, d5, fun x hx y hy => ?_⟩, fun x hx y hy => ?_⟩
    · rcases old x hx with e | e
      · have := lt2 y hy; omega
      · exact d6 x e y hy
    · rcases List.mem_append.1 hy with hy | hy
      · rcases old y hy with e | e
        · have := lt1 x hx; omega
        · exact d3 x hx y (List.mem_append_left _ e)
      · exact d3 x hx y (List.mem_append_right _ hy)

/-! ### The links -/
structure Lk where
  cut : Int
  b0 : Value × Bg
  b1 : Value × Bg
def flatL (L : List Lk) : List Value := L.flatMap fun l => [.int .i64 l.cut, l.b0.1, l.b1.1]
def bagsL (L : List Lk) : Bgs := L.flatMap fun l => [l.b0, l.b1]
theorem flatL_length (L : List Lk) : (flatL L).length = L.length * 3 := by
  induction L with
  | nil => rfl
  | cons p r ih => simp [flatL] at ih ⊢; omega
theorem flatL_cons (l : Lk) (L : List Lk) : flatL (l :: L) = .int .i64 l.cut :: l.b0.1 :: l.b1.1 :: flatL L := rfl
theorem flatL_at {L : List Lk} {i : Nat} (h : i < L.length) : (flatL L)[i * 3]? = some (.int .i64 (L[i]).cut) ∧ (flatL L)[i * 3 + 1]? = some (L[i]).b0.1 ∧ (flatL L)[i * 3 + 2]? = some (L[i]).b1.1 := by
  induction L generalizing i with
  | nil => simp at h
  | cons p r ih =>
    cases i with
    | zero => exact ⟨rfl, rfl, rfl⟩
    | succ i =>
      have := ih (i := i) (by simpa using h)
      rw [show (i + 1) * 3 = i * 3 + 3 by omega, flatL_cons]
      simpa using this
theorem flatL_cut (L : List Lk) (i : Nat) (h : i < L.length) (x : Int) : (flatL L).set (i * 3) (.int .i64 x) = flatL (L.set i { L[i] with cut := x }) := by
  induction L generalizing i with
  | nil => simp at h
  | cons p r ih =>
    cases i with
    | zero => rfl
    | succ i =>
      have := ih i (by simpa using h)
      rw [show (i + 1) * 3 = i * 3 + 3 by omega, flatL_cons]
      simp only [List.set_cons_succ, List.getElem_cons_succ, flatL_cons]
      rw [this]
theorem flatL_b0 (L : List Lk) (i : Nat) (h : i < L.length) (p : Value × Bg) : (flatL L).set (i * 3 + 1) p.1 = flatL (L.set i { L[i] with b0 := p }) := by
  induction L generalizing i with
  | nil => simp at h
  | cons l r ih =>
    cases i with
    | zero => rfl
    | succ i =>
      have := ih i (by simpa using h)
      rw [show (i + 1) * 3 + 1 = i * 3 + 1 + 3 by omega, flatL_cons]
      simp only [List.set_cons_succ, List.getElem_cons_succ, flatL_cons]
      rw [this]
theorem flatL_b1 (L : List Lk) (i : Nat) (h : i < L.length) (p : Value × Bg) : (flatL L).set (i * 3 + 2) p.1 = flatL (L.set i { L[i] with b1 := p }) := by
  induction L generalizing i with
  | nil => simp at h
  | cons l r ih =>
    cases i with
    | zero => rfl
    | succ i =>
      have := ih i (by simpa using h)
      rw [show (i + 1) * 3 + 2 = i * 3 + 2 + 3 by omega, flatL_cons]
      simp only [List.set_cons_succ, List.getElem_cons_succ, flatL_cons]
      rw [this]
theorem bagsL_split (L : List Lk) (i : Nat) (h : i < L.length) : bagsL L = bagsL (L.take i) ++ (L[i]).b0 :: (L[i]).b1 :: bagsL (L.drop (i + 1)) := by
  have e : L = L.take i ++ L[i] :: L.drop (i + 1) := by rw [← List.drop_eq_getElem_cons h, List.take_append_drop]
  conv => lhs; rw [e]
  simp only [bagsL, List.flatMap_append, List.flatMap_cons]
  rfl
theorem bagsL_set (L : List Lk) (i : Nat) (h : i < L.length) (l : Lk) : bagsL (L.set i l) = bagsL (L.take i) ++ l.b0 :: l.b1 :: bagsL (L.drop (i + 1)) := by
  rw [List.set_eq_take_append_cons_drop, if_pos h]
  simp only [bagsL, List.flatMap_append, List.flatMap_cons]
  rfl
end Go.Proofs.Ytkamdaadgndmbaa
