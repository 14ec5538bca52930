import Derived.Test.YtkamdaadgndmbaaNLaw1
namespace Go.Proofs.Ytkamdaadgndmbaa
open Go.ChangeShapes Go.WideShapes Go.ChangeAt Go.RowKit
set_option linter.unusedVariables false

set_option maxHeartbeats 1000000 in
theorem toNetEvent_any (kd pa di ix : Int) (a : Option Addr) (ys : List Int) (dl cap : Nat) (w : World) (hz : Ints .u8 w a ys) (hdl : ys.length = dl) (hl : dl ≤ 1048576) :
    Calls Try.prog 29 #[.agg #[.int .i64 kd, .int .i64 pa, .int .i64 di, .int .i64 ix, .slice a dl cap]] w fun e w' => ∃ b, e = .returned (.agg #[.int .i64 kd, .int .i64 pa, .int .i64 di, .int .i64 ix, .slice (some ⟨b, 0, none⟩) dl dl]) ∧ w'.ownsRow w.heap.size 5 1 (.slice (some ⟨b, 0, none⟩) dl dl) dl (ys.map (.int .u8)) ∧ Below w.heap.size w w' := by
  subst hdl
  obtain ⟨W, hW⟩ : ∃ W, W = ((w.alloc (.cells #[.int .i64 kd, .int .i64 pa, .int .i64 di, .int .i64 ix, .slice a ys.length cap] 67)).alloc (.cells #[.int .i64 0, .int .i64 0, .int .i64 0, .int .i64 0, .slice none 0 0] 35)).alloc (.cells #[.int .i64 kd, .int .i64 pa, .int .i64 di, .int .i64 ix, .slice none 0 0] 35) := ⟨_, rfl⟩
  have hb0 : Below w.heap.size w W := by rw [hW]; exact (((Below.refl _ _).alloc (Nat.le_refl _) _).alloc (by simp) _).alloc (by simp; omega) _
  have hs : W.heap.size = w.heap.size + 3 := by rw [hW]; simp
  have hE : W.heap[w.heap.size]? = some (.cells #[.int .i64 kd, .int .i64 pa, .int .i64 di, .int .i64 ix, .slice a ys.length cap] 67) := by rw [hW]; exact (Below.heap_alloc _ _ _ (by simp; omega)).trans ((Below.heap_alloc _ _ _ (by simp)).trans (box_new _ _ _ rfl))
  have hr : W.heap[w.heap.size + 1]? = some (.cells #[.int .i64 0, .int .i64 0, .int .i64 0, .int .i64 0, .slice none 0 0] 35) := by rw [hW]; exact (Below.heap_alloc _ _ _ (by simp)).trans (box_new _ _ _ (by simp))
  have ho : W.heap[w.heap.size + 1 + 1]? = some (.cells #[.int .i64 kd, .int .i64 pa, .int .i64 di, .int .i64 ix, .slice none 0 0] 35) := by rw [hW]; exact box_new _ _ _ (by simp)
  have hzW := hz.moved hb0
  go_enter Try.func29, Try.ntmps29
  go_wp2_with fail
  rw [← hW]
  refine (toByteS_any a ys cap W hzW hl).mono ?_
  rintro e w1 ⟨rfl, ho1, hb1⟩
  have hE1 := (hb1.block _ (by omega)).trans hE
  have hr1 := (hb1.block _ (by omega)).trans hr
  have hO1 := (hb1.block _ (by omega)).trans ho
  have s1 := hb1.size
  have hB := hb0.trans (hb1.mono hb0.size)
  obtain ⟨b, hb⟩ : ∃ b, b = W.heap.size := ⟨_, rfl⟩
  rw [← hb] at ho1
  rw [← hb]
  have HB : Hid _ := hb
  obtain ⟨E, hEe⟩ : ∃ E, E = w.heap.size := ⟨_, rfl⟩
  obtain ⟨R, hRe⟩ : ∃ E, E = w.heap.size + 1 := ⟨_, rfl⟩
  obtain ⟨O, hOe⟩ : ∃ E, E = w.heap.size + 1 + 1 := ⟨_, rfl⟩
  rw [← hOe] at hO1
  rw [← hRe] at hr1
  rw [← hEe] at hE1
  have nRO : R ≠ O := by omega
  have nEO : E ≠ O := by omega
  have nER : E ≠ R := by omega
  have nbO : b ≠ O := by omega
  have nbR : b ≠ R := by omega
  have hRw : w.heap.size ≤ R := by omega
  have hOw : w.heap.size ≤ O := by omega
  have hbw : w.heap.size ≤ b := by omega
  obtain ⟨⟨e0, e1, e2, e3, e4⟩, _⟩ := cells5r hE1
  obtain ⟨⟨q0, q1, q2, q3, q4⟩, qf⟩ := cells5r hO1
  obtain ⟨⟨r0, r1, r2, r3, r4⟩, rf⟩ := cells5r hr1
  have qf4 := qf 4
  have rf0 := rf 0
  have rf1 := rf 1
  have rf2 := rf 2
  have rf3 := rf 3
  have rf4 := rf 4
  have hR2 : (w1.setCell ⟨O, 4, none⟩ (.slice (some ⟨b, 0, none⟩) ys.length ys.length)).heap[R]? = some (.cells #[.int .i64 0, .int .i64 0, .int .i64 0, .int .i64 0, .slice none 0 0] 35 (0, 0)) := by rw [heap_setCell_other _ _ _ _ nRO]; exact hr1
  obtain ⟨⟨z0, z1, z2, z3, z4⟩, _⟩ := cells5r (set5r hR2 (.int .i64 kd) (.int .i64 pa) (.int .i64 di) (.int .i64 ix) (.slice (some ⟨b, 0, none⟩) ys.length ys.length))
  rw [← hOe, ← hRe, ← hEe]
  clear hW hr ho hE hz hb hEe hRe hOe hs qf rf
  go_wp2_with fail
  refine bodyPost_ret (v := .agg #[.int .i64 kd, .int .i64 pa, .int .i64 di, .int .i64 ix, .slice (some ⟨b, 0, none⟩) ys.length ys.length]) (by simp [results, Try.results29, go_sem, z0, z1, z2, z3, z4]) rfl ⟨b, rfl, owned_base (row_stays ho1 fun k hk => ?_) hbw, fill5_below (hB.setCell (p := ⟨O, 4, none⟩) hOw _) hRw _ _ _ _ _⟩
  have e : b = k := by simpa [Value.ownBlock] using hk
  rw [← e, fill5_other _ nbR, heap_setCell_other _ _ _ _ nbO]

/-! ### Events in rows of their own -/
def flatE (G : Evs) : List Value := G.flatMap fun p => [.int .i64 p.1.kd, .int .i64 p.1.pa, .int .i64 p.1.di, .int .i64 p.1.ix, .slice p.2.1 p.1.dat.length p.2.2]
theorem flatE_length (G : Evs) : (flatE G).length = G.length * 5 := by
  induction G with
  | nil => rfl
  | cons p r ih => simp [flatE] at ih ⊢; omega
theorem flatE_at {G : Evs} {i : Nat} (h : i < G.length) : (flatE G)[i * 5]? = some (.int .i64 (G[i]).1.kd) ∧ (flatE G)[i * 5 + 1]? = some (.int .i64 (G[i]).1.pa) ∧ (flatE G)[i * 5 + 2]? = some (.int .i64 (G[i]).1.di) ∧ (flatE G)[i * 5 + 3]? = some (.int .i64 (G[i]).1.ix) ∧ (flatE G)[i * 5 + 4]? = some (.slice (G[i]).2.1 (G[i]).1.dat.length (G[i]).2.2) := by
  induction G generalizing i with
  | nil => simp at h
  | cons p r ih =>
    cases i with
    | zero => exact ⟨rfl, rfl, rfl, rfl, rfl⟩
    | succ i =>
      have := ih (i := i) (by simpa using h)
      have e1 : (i + 1) * 5 = i * 5 + 5 := by omega
      have e2 : flatE (p :: r) = .int .i64 p.1.kd :: .int .i64 p.1.pa :: .int .i64 p.1.di :: .int .i64 p.1.ix :: .slice p.2.1 p.1.dat.length p.2.2 :: flatE r := rfl
      rw [e1, e2]
      simpa using this
theorem flatE_set (G : Evs) (i : Nat) (p : NEv × Option Addr × Nat) (hi : i < G.length) : (((((flatE G).set (i * 5) (.int .i64 p.1.kd)).set (i * 5 + 1) (.int .i64 p.1.pa)).set (i * 5 + 2) (.int .i64 p.1.di)).set (i * 5 + 3) (.int .i64 p.1.ix)).set (i * 5 + 4) (.slice p.2.1 p.1.dat.length p.2.2) = flatE (G.set i p) := by
  induction G generalizing i with
  | nil => simp at hi
  | cons q r ih =>
    cases i with
    | zero => rfl
    | succ i =>
      have e2 : ∀ (q : NEv × Option Addr × Nat) (r : Evs), flatE (q :: r) = .int .i64 q.1.kd :: .int .i64 q.1.pa :: .int .i64 q.1.di :: .int .i64 q.1.ix :: .slice q.2.1 q.1.dat.length q.2.2 :: flatE r := fun _ _ => rfl
      have e1 : (i + 1) * 5 = i * 5 + 1 + 1 + 1 + 1 + 1 := by omega
      rw [List.set_cons_succ, e2, e2, e1, ← ih i (by simpa using hi)]
      rfl
abbrev evP (p : NEv × Option Addr × Nat) : Value := .slice p.2.1 p.1.dat.length p.2.2
structure EvsN (w : World) (base : Nat) (ev : Value) (G : Evs) : Prop where
  row : w.ownsRow base 35 5 ev G.length (flatE G)
  dat : ∀ p ∈ G, w.ownsRow base 5 1 (evP p) p.1.dat.length (p.1.dat.map (.int .u8))
  apart : (G.filterMap fun p => (evP p).ownBlock).Nodup
theorem EvsN.stays {w w' : World} {base : Nat} {ev : Value} {G : Evs} (h : EvsN w base ev G) (hb : ∀ k, base ≤ k → k < w.heap.size → w'.heap[k]? = w.heap[k]?) : EvsN w' base ev G :=
  ⟨row_stays h.row fun k hk => hb k (h.row.lt k hk).1 (h.row.lt k hk).2, fun p hp => row_stays (h.dat p hp) fun k hk => hb k ((h.dat p hp).lt k hk).1 ((h.dat p hp).lt k hk).2, h.apart⟩
theorem EvsN.below {w w' : World} {base : Nat} {ev : Value} {G : Evs} (h : EvsN w base ev G) (hb : Below w.heap.size w w') : EvsN w' base ev G := h.stays fun k _ hk => hb.block k hk
/-- As the calls take them. -/
theorem EvsN.lie {w : World} {base : Nat} {a : Option Addr} {n cp : Nat} {G : Evs} (hn : G.length = n) (h : EvsN w base (.slice a n cp) G) : EvLie w w.heap.size a G := by
  subst hn
  refine ⟨?_, fun p hp => ⟨Ints.ofRow (h.dat p hp), fun b o e => ?_⟩, fun p hp e => ?_⟩
  · rcases h.row.2 with ⟨e, h0⟩ | ⟨g, cp', cur, e, hb, hg, _⟩
    · exact .inl (List.eq_nil_of_length_eq_zero h0)
    · simp only [Value.slice.injEq] at e
      obtain ⟨rfl, _, rfl⟩ := e
      refine .inr ⟨g, 0, rfl, (h.row.lt g rfl).2, fun i hi => ?_⟩
      obtain ⟨f0, f1, f2, f3, f4⟩ := flatE_at hi
      simp only [Nat.zero_add]
      exact ⟨by rw [h.row.cellAt _ (by omega)]; exact f0, by rw [h.row.cellAt _ (by omega)]; exact f1, by rw [h.row.cellAt _ (by omega)]; exact f2, by rw [h.row.cellAt _ (by omega)]; exact f3, by rw [h.row.cellAt _ (by omega)]; exact f4⟩
  · have hd := h.dat p hp
    have := (hd.lt b (by simp only [evP, Value.ownBlock, e])).2
    exact this
  · rcases (h.dat p hp).2 with ⟨e2, _⟩ | ⟨g, cp', cur, e2, _⟩
    · simp only [evP, Value.slice.injEq] at e2; exact e2.2.2
    · simp only [evP, Value.slice.injEq] at e2; rw [e] at e2; cases e2.1
theorem EvLie.in_ {w : World} {lim : Nat} {a : Option Addr} {G : Evs} (h : EvLie w lim a G) : EvIn w a G := by
  refine ⟨?_, fun p hp => (h.dat p hp).1⟩
  rcases h.at_ with h0 | ⟨b, off, ha, _, hc⟩
  · exact .inl h0
  · exact .inr ⟨b, off, ha, hc⟩
def zeroEv : NEv × Option Addr × Nat := (⟨0, 0, 0, 0, []⟩, none, 0)
theorem flatE_replicate (n : Nat) : flatE (List.replicate n zeroEv) = (madeCells #[.int .i64 0, .int .i64 0, .int .i64 0, .int .i64 0, .slice none 0 0] (n * 5)).toList := by
  refine List.ext_getElem? fun i => ?_
  by_cases hi : i < n * 5
  · have hq : i / 5 < (List.replicate n zeroEv).length := by simp; omega
    obtain ⟨h0, h1, h2, h3, h4⟩ := flatE_at (G := List.replicate n zeroEv) hq
    have hr : (madeCells #[.int .i64 0, .int .i64 0, .int .i64 0, .int .i64 0, .slice none 0 0] (n * 5)).toList[i]? = #[Value.int .i64 0, .int .i64 0, .int .i64 0, .int .i64 0, .slice none 0 0][i % 5]? := by
      simp only [madeCells, Array.toList_map, List.getElem?_map]
      rcases (show i % 5 = 0 ∨ i % 5 = 1 ∨ i % 5 = 2 ∨ i % 5 = 3 ∨ i % 5 = 4 by omega) with h | h | h | h | h <;> simp [h, hi]
    rw [hr]
    rcases (show i = i / 5 * 5 ∧ i % 5 = 0 ∨ i = i / 5 * 5 + 1 ∧ i % 5 = 1 ∨ i = i / 5 * 5 + 2 ∧ i % 5 = 2 ∨ i = i / 5 * 5 + 3 ∧ i % 5 = 3 ∨ i = i / 5 * 5 + 4 ∧ i % 5 = 4 by omega) with h | h | h | h | h
    · rw [← h.1] at h0; rw [h0, h.2]; simp [zeroEv]
    · rw [← h.1] at h1; rw [h1, h.2]; simp [zeroEv]
    · rw [← h.1] at h2; rw [h2, h.2]; simp [zeroEv]
    · rw [← h.1] at h3; rw [h3, h.2]; simp [zeroEv]
    · rw [← h.1] at h4; rw [h4, h.2]; simp [zeroEv]
  · rw [List.getElem?_eq_none (by rw [flatE_length]; simp; omega), List.getElem?_eq_none (by simp [madeCells]; omega)]
end Go.Proofs.Ytkamdaadgndmbaa
