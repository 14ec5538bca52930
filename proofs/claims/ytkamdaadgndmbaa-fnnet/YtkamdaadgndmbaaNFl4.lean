import Derived.Test.YtkamdaadgndmbaaNFl3
namespace Go.Proofs.Ytkamdaadgndmbaa
open Go.ChangeShapes Go.WideShapes Go.ChangeAt Go.RowKit
set_option linter.unusedVariables false

/-! ### Marking bags -/
def lenF (F : List FB) : Nat := (F.map fun b => 3 + lenG b.g).sum
def markFB (s : Int) (b : FB) : FB := ⟨s, s + 1, s + 1 + 1, b.v, markGs (s + 1 + 1 + 1) b.g⟩
def markF : Int → List FB → List FB
  | _, [] => []
  | s, b :: r => markFB s b :: markF (s + ((3 + lenG b.g : Nat) : Int)) r
theorem lenF_cons (b : FB) (r : List FB) : lenF (b :: r) = 3 + lenG b.g + lenF r := by simp [lenF]
theorem lenF_snoc (r : List FB) (b : FB) : lenF (r ++ [b]) = lenF r + (3 + lenG b.g) := by simp [lenF]
theorem markF_length (F : List FB) : ∀ s, (markF s F).length = F.length := by
  induction F with
  | nil => intro s; rfl
  | cons q r ih => intro s; simp [markF, ih]
theorem markF_append (u v : List FB) : ∀ s, markF s (u ++ v) = markF s u ++ markF (s + (lenF u : Nat)) v := by
  induction u with
  | nil => intro s; simp [markF, lenF]
  | cons p r ih =>
    intro s
    simp only [List.cons_append, markF, ih, lenF_cons]
    congr 3
    omega
theorem lenF_le (F : List FB) (h : ∀ b ∈ F, lenG b.g ≤ 4096) : lenF F ≤ F.length * 4099 := by
  induction F with
  | nil => simp [lenF]
  | cons q r ih =>
    have h1 := h q (List.mem_cons_self ..)
    have h2 := ih fun p hp => h p (List.mem_cons_of_mem _ hp)
    rw [lenF_cons, List.length_cons, Nat.add_mul]
    omega
theorem markFTo_at {F : List FB} {k : Nat} (s : Int) (h : k < F.length) : (markF s (F.take k) ++ F.drop k)[k]? = some F[k] := by
  have e : (markF s (F.take k)).length = k := by rw [markF_length, List.length_take]; omega
  rw [List.getElem?_append_right (by omega), e, Nat.sub_self, List.getElem?_drop]
  simp [h]
theorem markFTo_set {F : List FB} {k : Nat} (s : Int) (h : k < F.length) : (markF s (F.take k) ++ F.drop k).set k (markFB (s + (lenF (F.take k) : Nat)) F[k]) = markF s (F.take (k + 1)) ++ F.drop (k + 1) := by
  have e : (markF s (F.take k)).length = k := by rw [markF_length, List.length_take]; omega
  rw [List.set_append_right _ _ (by omega), e, Nat.sub_self, List.take_succ_eq_append_getElem h, markF_append, List.append_assoc]
  congr 1
  rw [List.drop_eq_getElem_cons h]
  rfl
theorem flatF_set (F : List FB) (i : Nat) (hi : i < F.length) (p d c : Int) : (((flatF F).set (i * 4) (.int .i64 p)).set (i * 4 + 1) (.int .i64 d)).set (i * 4 + 2) (.int .i64 c) = flatF (F.set i ⟨p, d, c, (F[i]).v, (F[i]).g⟩) := by
  induction F generalizing i with
  | nil => simp at hi
  | cons b r ih =>
    cases i with
    | zero => rfl
    | succ i =>
      have := ih i (by simpa using hi)
      rw [show (i + 1) * 4 = i * 4 + 4 by omega, show i * 4 + 4 + 1 = i * 4 + 1 + 4 by omega, show i * 4 + 4 + 2 = i * 4 + 2 + 4 by omega, flatF_cons]
      simp only [List.set_cons_succ, List.getElem_cons_succ, flatF_cons]
      rw [this]
theorem bgs_set_same (F : List FB) (i : Nat) (hi : i < F.length) (p d c : Int) : bgs (F.set i ⟨p, d, c, (F[i]).v, (F[i]).g⟩) = bgs F := by
  unfold bgs
  rw [List.map_set]
  refine List.ext_getElem? fun j => ?_
  by_cases e : i = j
  · subst e; rw [List.getElem?_set_self (by simpa using hi), List.getElem?_map, List.getElem?_eq_getElem hi]; rfl
  · rw [List.getElem?_set_ne e]
/-- The three numbers of a bag are others. -/
theorem OutsF.nums {w : World} {base g cap n : Nat} {F : List FB} (h : OutsF w base (.slice (some ⟨g, 0, none⟩) n cap) F) (hn : F.length = n) {i : Nat} (hi : i < F.length) (p d c : Int) :
    OutsF (((w.setCell ⟨g, i * 4, none⟩ (.int .i64 p)).setCell ⟨g, i * 4 + 1, none⟩ (.int .i64 d)).setCell ⟨g, i * 4 + 2, none⟩ (.int .i64 c)) base (.slice (some ⟨g, 0, none⟩) n cap) (F.set i ⟨p, d, c, (F[i]).v, (F[i]).g⟩) := by
  have hr := h.row
  rw [hn] at hr
  obtain ⟨c0, hc0⟩ := row_block hr rfl
  have r1 := (hr.stored (i * 4) (.int .i64 p)).1
  have r2 := (r1.stored (i * 4 + 1) (.int .i64 d)).1
  have r3 := (r2.stored (i * 4 + 2) (.int .i64 c)).1
  rw [flatF_set F i hi p d c] at r3
  refine ⟨by rw [List.length_set, hn]; exact r3, ?_⟩
  rw [bgs_set_same F i hi]
  refine h.bags.stays fun k cs t _ ht hk => ?_
  have hne : k ≠ g := type_ne hk hc0 (by rcases ht with rfl | rfl <;> decide)
  rw [heap_setCell_other _ _ _ _ hne, heap_setCell_other _ _ _ _ hne, heap_setCell_other _ _ _ _ hne]
/-- A bag's bytes are others. -/
theorem OutsF.bag {w w' : World} {base : Nat} {ov : Value} {F : List FB} (h : OutsF w base ov F) {i : Nat} (hi : i < F.length) {g' : Bg} (hv : g'.map (·.2) = (F[i]).g.map (·.2)) (hO : OnlyG w w' (F[i]).g) (hR : RowB w' base (F[i]).v g') : OutsF w' base ov (F.set i { F[i] with g := g' }) := by
  have eF : F = F.take i ++ F[i] :: F.drop (i + 1) := by rw [← List.drop_eq_getElem_cons hi, List.take_append_drop]
  have eS : F.set i { F[i] with g := g' } = F.take i ++ { F[i] with g := g' } :: F.drop (i + 1) := by rw [List.set_eq_take_append_cons_drop, if_pos hi]
  obtain ⟨b, hb⟩ : ∃ b, F[i] = b := ⟨_, rfl⟩
  rw [hb] at hv hO hR eF eS ⊢
  have hbag := h.bags
  have e0 : bgs F = bgs (F.take i) ++ (b.v, b.g) :: bgs (F.drop (i + 1)) := by conv => lhs; rw [eF]
                                                                               simp [bgs]
  have e1 : bgs (F.set i { b with g := g' }) = bgs (F.take i) ++ (b.v, g') :: bgs (F.drop (i + 1)) := by rw [eS]; simp [bgs]
  have hdb := fun q hq => hbag.dat (b.v, b.g) (by rw [e0]; simp) q hq
  have hfl : flatF (F.set i { b with g := g' }) = flatF F := by
    rw [eS]
    conv => rhs; rw [eF]
    simp [flatF]
  have notD : ∀ (k : Nat) (cs : Array Value) (t : TypeId), t ≠ 5 → w.heap[k]? = some (.cells cs t (0, 0)) → w'.heap[k]? = w.heap[k]? := fun k cs t ht hk => hO.block k (Array.getElem?_eq_some_iff.1 hk).1 fun q hq e => by
    obtain ⟨c2, hc2⟩ := row_block (hdb q hq) e
    exact type_ne hk hc2 ht rfl
  have hD := hbag.apD
  rw [e0, List.flatMap_append, List.flatMap_cons, List.filterMap_append, List.filterMap_append] at hD
  have hD' := hD
  rw [List.nodup_append] at hD
  obtain ⟨d1, d2, d3⟩ := hD
  rw [List.nodup_append] at d2
  obtain ⟨d4, d5, d6⟩ := d2
  have ev : (g'.filterMap fun q => q.2.ownBlock) = b.g.filterMap fun q => q.2.ownBlock := by
    have e1 : ∀ G : Bg, (G.filterMap fun q => q.2.ownBlock) = (G.map (·.2)).filterMap Value.ownBlock := fun G => by rw [List.filterMap_map]; rfl
    rw [e1, hv, ← e1]
  refine ⟨?_, ?_⟩
  · rw [hfl, List.length_set]
    refine row_stays h.row fun k hk => ?_
    obtain ⟨cs, hc⟩ := row_block h.row hk
    exact notD k cs _ (by decide) hc
  · rw [e1]
    have oth : ∀ p, p ∈ bgs (F.take i) ∨ p ∈ bgs (F.drop (i + 1)) → p ∈ bgs F := fun p hp => by rw [e0]; rcases hp with hp | hp <;> simp [hp]
    have kr : ∀ p, p ∈ bgs (F.take i) ∨ p ∈ bgs (F.drop (i + 1)) → w'.ownsRow base 22 1 p.1 p.2.length (p.2.map (·.2)) := fun p hp => row_stays (hbag.row p (oth p hp)) fun k hk => by
      obtain ⟨cs, hc⟩ := row_block (hbag.row p (oth p hp)) hk
      exact notD k cs _ (by decide) hc
    have kd : ∀ p, p ∈ bgs (F.take i) ∨ p ∈ bgs (F.drop (i + 1)) → ∀ q ∈ p.2, w'.ownsRow base 5 1 q.2 q.1.length (q.1.map (.int .u8)) := fun p hp q hq => row_stays (hbag.dat p (oth p hp) q hq) fun k hk => hO.block k ((hbag.dat p (oth p hp) q hq).lt k hk).2 fun q2 hq2 e => by
      have m2 : k ∈ b.g.filterMap fun q => q.2.ownBlock := List.mem_filterMap.2 ⟨q2, hq2, e⟩
      rcases hp with hp | hp
      · exact d3 k (List.mem_filterMap.2 ⟨q, List.mem_flatMap.2 ⟨p, hp, hq⟩, hk⟩) k (List.mem_append_left _ m2) rfl
      · exact d6 k m2 k (List.mem_filterMap.2 ⟨q, List.mem_flatMap.2 ⟨p, hp, hq⟩, hk⟩) rfl
    refine ⟨fun p hp => ?_, fun p hp q hq => ?_, ?_, ?_⟩
    · rcases List.mem_append.1 hp with hp | hp
      · exact kr p (.inl hp)
      · rcases List.mem_cons.1 hp with rfl | hp
        · exact hR.row
        · exact kr p (.inr hp)
    · rcases List.mem_append.1 hp with hp | hp
      · exact kd p (.inl hp) q hq
      · rcases List.mem_cons.1 hp with rfl | hp
        · exact hR.dat q hq
        · exact kd p (.inr hp) q hq
    · have hB := hbag.apB
      rw [e0] at hB
      simpa [List.filterMap_append, List.filterMap_cons] using hB
    · rw [List.flatMap_append, List.flatMap_cons, List.filterMap_append, List.filterMap_append]
      simp only
      rw [ev]
      exact hD'
end Go.Proofs.Ytkamdaadgndmbaa
