import Derived.Test.YtpeecjoadgefjaaRTop
import Derived.Test.YtpeecjoadgefjaaJ5
namespace Go.Proofs.Ytpeecjoadgefjaa
open Go.ChangeShapes Go.WideShapes Go.ChangeAt Go.RowKit
set_option linter.unusedVariables false

/-! ### Events that came in -/
structure EvIn (w : World) (a : Option Addr) (G : Evs) : Prop where
  at_ : G = [] ∨ ∃ b off, a = some ⟨b, off, none⟩ ∧ ∀ i, ∀ h : i < G.length, w.cell? ⟨b, off + i * 4, none⟩ = some (.int .i64 (G[i]).1.kd) ∧ w.cell? ⟨b, off + i * 4 + 1, none⟩ = some (.int .u64 (G[i]).1.off) ∧ w.cell? ⟨b, off + i * 4 + 2, none⟩ = some (.slice (G[i]).2.1 (G[i]).1.dat.length (G[i]).2.2) ∧ w.cell? ⟨b, off + i * 4 + 3, none⟩ = some (.int .i64 (G[i]).1.n)
  dat : ∀ p ∈ G, Ints .u8 w p.2.1 p.1.dat
theorem EvIn.moved {w w' : World} {a : Option Addr} {G : Evs} (h : EvIn w a G) (hb : Below w.heap.size w w') : EvIn w' a G := by
  refine ⟨?_, fun p hp => (h.dat p hp).moved hb⟩
  rcases h.at_ with h0 | ⟨b, off, ha, hc⟩
  · exact .inl h0
  · refine .inr ⟨b, off, ha, fun i hi => ?_⟩
    obtain ⟨a1, a2, a3, a4⟩ := hc i hi
    have hl := World.block_lt_of_cell? w _ a1
    exact ⟨(hb.cell (p := ⟨b, off + i * 4, none⟩) hl).trans a1, (hb.cell (p := ⟨b, off + i * 4 + 1, none⟩) hl).trans a2, (hb.cell (p := ⟨b, off + i * 4 + 2, none⟩) hl).trans a3, (hb.cell (p := ⟨b, off + i * 4 + 3, none⟩) hl).trans a4⟩
def sumD (es : Evs) : Nat := (es.map fun p => p.1.dat.length).sum
theorem sumD_take (es : Evs) (k : Nat) (h : k < es.length) : sumD (es.take (k + 1)) = sumD (es.take k) + (es[k]).1.dat.length := by
  unfold sumD
  rw [List.take_succ_eq_append_getElem h, List.map_append, List.sum_append]
  simp
theorem sumD_le (es : Evs) (k : Nat) : sumD (es.take k) ≤ sumD es := by
  conv => rhs; rw [← List.take_append_drop k es]
  unfold sumD
  rw [List.map_append, List.sum_append]
  omega
theorem sumD_mem {es : Evs} {p : REv × Option Addr × Nat} (h : p ∈ es) : p.1.dat.length ≤ sumD es := by
  induction es with
  | nil => simp at h
  | cons q r ih =>
    have e : sumD (q :: r) = q.1.dat.length + sumD r := by simp [sumD]
    rcases List.mem_cons.1 h with rfl | h
    · omega
    · have := ih h; omega

theorem szByteS_left (a : Option Addr) (n cap : Nat) (left : Int) (w : World) (hm : n ≤ 9223372036854775807) (l0 : 0 ≤ left) (l1 : left ≤ 1048576) :
    Calls Try.prog 79 #[.slice a n cap, .int .i64 left] w fun e w' => e = .returned (.int .i64 (if (n : Int) ≤ left then left - (n : Int) else -1)) ∧ w' = w := by
  by_cases h : (n : Int) ≤ left
  · rw [if_pos h]
    go_enter Try.func79, Try.ntmps79
    go_wp2
    go_ret
    exact ⟨rfl, rfl⟩
  · rw [if_neg h]
    go_enter Try.func79, Try.ntmps79
    go_wp2
    go_ret
    exact ⟨rfl, rfl⟩
theorem szReorderEvent_any (kd off n : Int) (a : Option Addr) (dl cap : Nat) (left : Int) (w : World) (hm : dl ≤ 9223372036854775807) (l0 : 0 ≤ left) (l1 : left ≤ 1048576) :
    Calls Try.prog 56 #[.agg #[.int .i64 kd, .int .u64 off, .slice a dl cap, .int .i64 n], .int .i64 left] w fun e w' => e = .returned (.int .i64 (if (dl : Int) ≤ left then left - (dl : Int) else -1)) ∧ Below w.heap.size w w' := by
  have hb0 : Below w.heap.size w (w.alloc (.cells #[.int .i64 kd, .int .u64 off, .slice a dl cap, .int .i64 n] 93)) := (Below.refl _ _).alloc (Nat.le_refl _) _
  have hs := fun w1 => szByteS_left a dl cap left w1 hm l0 l1
  by_cases h : (dl : Int) ≤ left
  · simp only [if_pos h] at hs ⊢
    go_enter Try.func56, Try.ntmps56
    go_wp2_with (go_at_call 79; refine (hs _).mono ?_; rintro e w1 ⟨rfl, hw⟩; subst hw)
    go_ret
    exact ⟨rfl, hb0⟩
  · simp only [if_neg h] at hs ⊢
    go_enter Try.func56, Try.ntmps56
    go_wp2_with (go_at_call 79; refine (hs _).mono ?_; rintro e w1 ⟨rfl, hw⟩; subst hw)
    go_ret
    exact ⟨rfl, hb0⟩
set_option maxHeartbeats 1000000 in
set_option maxRecDepth 100000 in
theorem szReorderEventS_any (a : Option Addr) (es : Evs) (n cap : Nat) (w : World) (hn : es.length = n) (hm : n ≤ 9223372036854775807) (hd : ∀ p ∈ es, p.1.dat.length ≤ 9223372036854775807) (hz : EvIn w a es) (r : Int) (hr : (n + sumD es ≤ 1048576 ∧ r = 1048576 - (n : Int) - (sumD es : Int)) ∨ (1048576 < n + sumD es ∧ r = -1)) :
    Calls Try.prog 28 #[.slice a n cap, .int .i64 1048576] w fun e w' => e = .returned (.int .i64 r) ∧ Below w.heap.size w w' := by
  have HN : Hid _ := hn
  have HR : Hid _ := hr
  clear hn hr
  by_cases hnn : 1048576 < n
  · have e : r = -1 := by rcases HR.out with h | h <;> omega
    subst e
    have d1 : decide (1048576 - (n : Int) < 0) = true := by rw [decide_eq_true_iff]; omega
    go_enter Try.func28, Try.ntmps28
    go_wp2
    go_ret
    exact ⟨rfl, Below.refl _ _⟩
  · have d1 : decide (1048576 - (n : Int) < 0) = false := by rw [decide_eq_false_iff_not]; omega
    go_enter Try.func28, Try.ntmps28
    go_wp2
    go_loopw [1, 5] (fun lv iv wr => ∃ (k : Nat) (left : Int), k ≤ n ∧ iv = .int .i64 (k : Int) ∧ lv = .int .i64 left ∧ 0 ≤ left ∧ left ≤ 1048576 ∧ Hid (left = 1048576 - (n : Int) - (sumD (es.take k) : Int)) ∧ Below w.heap.size w wr) (fun _ iv _ => n - (intOf iv).toNat)
    case atStart => exact ⟨0, 1048576 - (n : Int), Nat.zero_le _, rfl, rfl, by omega, by omega, by unfold Hid; simp [sumD], Below.refl _ _⟩
    case round =>
    obtain ⟨k, left, hk, rfl, rfl, l0, l1, HL, hb⟩ := hrel
    by_cases hlt : k < n
    · have hkl : k < es.length := by have := HN.out; omega
      rcases hz.at_ with h | ⟨b, off, rfl, hc⟩
      · have := HN.out; simp [h] at this; omega
      obtain ⟨c1, c2, c3, c4⟩ := hc k hkl
      have hmem := hd _ (List.getElem_mem hkl)
      have hst := sumD_take es k hkl
      have hle := sumD_le es (k + 1)
      obtain ⟨⟨⟨kd, o, dat, nn⟩, da, dc⟩, he⟩ : ∃ p, es[k] = p := ⟨_, rfl⟩
      rw [he] at c1 c2 c3 c4 hmem hst
      simp only at c1 c2 c3 c4 hmem hst
      obtain ⟨dl, hdl⟩ : ∃ dl, Hid (dl = dat.length) := ⟨_, rfl⟩
      rw [← hdl.out] at c3 hmem hst
      have HST : Hid _ := hst
      have hlb := World.block_lt_of_cell? w _ c1
      have r1 := (hb.cell (p := ⟨b, off + k * 4, none⟩) hlb).trans c1
      have r2 := (hb.cell (p := ⟨b, off + k * 4 + 1, none⟩) hlb).trans c2
      have r3 := (hb.cell (p := ⟨b, off + k * 4 + 2, none⟩) hlb).trans c3
      have r4 := (hb.cell (p := ⟨b, off + k * 4 + 3, none⟩) hlb).trans c4
      have hcall := szReorderEvent_any kd o nn da dl dc left wr hmem l0 l1
      clear c1 c2 c3 c4 hc he hst
      by_cases hfit : (dl : Int) ≤ left
      · rw [if_pos hfit] at hcall
        have d2 : decide (left - (dl : Int) < 0) = false := by rw [decide_eq_false_iff_not]; omega
        go_wp2_with fail
        refine hcall.mono ?_
        rintro e w2 ⟨rfl, hb2⟩
        go_wp2
        go_roundw
        case rel => exact ⟨k + 1, left - (dl : Int), by omega, by go_num, rfl, by omega, by omega, by unfold Hid; rw [HST.out, HL.out]; omega, hb.trans (hb2.mono hb.size)⟩
        case measure => simp [intOf]; omega
      · rw [if_neg hfit] at hcall
        have e : r = -1 := by have h1 := HST.out; have h2 := HL.out; rcases HR.out with h | h <;> omega
        subst e
        go_wp2_with fail
        refine hcall.mono ?_
        rintro e w2 ⟨rfl, hb2⟩
        go_wp2
        go_ret
        exact ⟨rfl, hb.trans (hb2.mono hb.size)⟩
    · obtain rfl : k = n := by omega
      have e : left = r := by
        have h2 := HL.out
        rw [List.take_of_length_le (by have := HN.out; omega)] at h2
        rcases HR.out with h | h <;> omega
      subst e
      have hkk : ¬ (k : Int) < (k : Int) := by omega
      go_wp2
      go_ret
      exact ⟨rfl, hb⟩
end Go.Proofs.Ytpeecjoadgefjaa

namespace Go.Proofs.Ytpeecjoadgefjaa
open Go.ChangeShapes Go.WideShapes Go.ChangeAt Go.RowKit
set_option linter.unusedVariables false

set_option maxHeartbeats 1000000 in
theorem toReorderEvent_any (kd off n : Int) (a : Option Addr) (ys : List Int) (dl cap : Nat) (w : World) (hz : Ints .u8 w a ys) (hdl : ys.length = dl) (hl : dl ≤ 1048576) :
    Calls Try.prog 57 #[.agg #[.int .i64 kd, .int .u64 off, .slice a dl cap, .int .i64 n]] w fun e w' => ∃ b, e = .returned (.agg #[.int .i64 kd, .int .u64 off, .slice (some ⟨b, 0, none⟩) dl dl, .int .i64 n]) ∧ w'.ownsRow w.heap.size 5 1 (.slice (some ⟨b, 0, none⟩) dl dl) dl (ys.map (.int .u8)) ∧ Below w.heap.size w w' := by
  subst hdl
  obtain ⟨W, hW⟩ : ∃ W, W = ((w.alloc (.cells #[.int .i64 kd, .int .u64 off, .slice a ys.length cap, .int .i64 n] 93)).alloc (.cells #[.int .i64 0, .int .u64 0, .slice none 0 0, .int .i64 0] 48)).alloc (.cells #[.int .i64 kd, .int .u64 off, .slice none 0 0, .int .i64 0] 48) := ⟨_, rfl⟩
  have hb0 : Below w.heap.size w W := by rw [hW]; exact (((Below.refl _ _).alloc (Nat.le_refl _) _).alloc (by simp) _).alloc (by simp; omega) _
  have hs : W.heap.size = w.heap.size + 3 := by rw [hW]; simp
  have hE : W.heap[w.heap.size]? = some (.cells #[.int .i64 kd, .int .u64 off, .slice a ys.length cap, .int .i64 n] 93) := by rw [hW]; exact (Below.heap_alloc _ _ _ (by simp; omega)).trans ((Below.heap_alloc _ _ _ (by simp)).trans (box_new _ _ _ rfl))
  have hr : W.heap[w.heap.size + 1]? = some (.cells #[.int .i64 0, .int .u64 0, .slice none 0 0, .int .i64 0] 48) := by rw [hW]; exact (Below.heap_alloc _ _ _ (by simp)).trans (box_new _ _ _ (by simp))
  have ho : W.heap[w.heap.size + 1 + 1]? = some (.cells #[.int .i64 kd, .int .u64 off, .slice none 0 0, .int .i64 0] 48) := by rw [hW]; exact box_new _ _ _ (by simp)
  have hzW := hz.moved hb0
  go_enter Try.func57, Try.ntmps57
  go_wp2_with fail
  rw [← hW]
  refine (toByteS_any a ys cap W hzW hl).mono ?_
  rintro e w1 ⟨rfl, ho1, hb1⟩
  have hE1 := (hb1.block _ (by omega)).trans hE
  have hr1 := (hb1.block _ (by omega)).trans hr
  have hO1 := (hb1.block _ (by omega)).trans ho
  have s1 := hb1.size
  have hB := hb0.trans (hb1.mono hb0.size)
  obtain ⟨b, hb⟩ : ∃ b, b = W.heap.size := ⟨_, rfl⟩
  rw [← hb] at ho1
  rw [← hb]
  have HB : Hid _ := hb
  obtain ⟨E, hEe⟩ : ∃ E, E = w.heap.size := ⟨_, rfl⟩
  obtain ⟨R, hRe⟩ : ∃ E, E = w.heap.size + 1 := ⟨_, rfl⟩
  obtain ⟨O, hOe⟩ : ∃ E, E = w.heap.size + 1 + 1 := ⟨_, rfl⟩
  rw [← hOe] at hO1
  rw [← hRe] at hr1
  rw [← hEe] at hE1
  have nRO : R ≠ O := by omega
  have nEO : E ≠ O := by omega
  have nER : E ≠ R := by omega
  have nbO : b ≠ O := by omega
  have nbR : b ≠ R := by omega
  have hRw : w.heap.size ≤ R := by omega
  have hOw : w.heap.size ≤ O := by omega
  have hbw : w.heap.size ≤ b := by omega
  obtain ⟨⟨e0, e1, e2, e3⟩, _⟩ := cells4r hE1
  obtain ⟨⟨q0, q1, q2, q3⟩, qf0, qf1, qf2, qf3⟩ := cells4r hO1
  obtain ⟨⟨r0, r1, r2, r3⟩, rf0, rf1, rf2, rf3⟩ := cells4r hr1
  have hR2 : ((w1.setCell ⟨O, 2, none⟩ (.slice (some ⟨b, 0, none⟩) ys.length ys.length)).setCell ⟨O, 3, none⟩ (.int .i64 n)).heap[R]? = some (.cells #[.int .i64 0, .int .u64 0, .slice none 0 0, .int .i64 0] 48 (0, 0)) := by rw [heap_setCell_other _ _ _ _ nRO, heap_setCell_other _ _ _ _ nRO]; exact hr1
  obtain ⟨⟨z0, z1, z2, z3⟩, _⟩ := cells4r (set4r hR2 (.int .i64 kd) (.int .u64 off) (.slice (some ⟨b, 0, none⟩) ys.length ys.length) (.int .i64 n))
  rw [← hOe, ← hRe, ← hEe]
  clear hW hr ho hE hz hb hEe hRe hOe hs
  go_wp2_with fail
  refine bodyPost_ret (v := .agg #[.int .i64 kd, .int .u64 off, .slice (some ⟨b, 0, none⟩) ys.length ys.length, .int .i64 n]) (by simp [results, Try.results57, go_sem, z0, z1, z2, z3]) rfl ⟨b, rfl, owned_base (row_stays ho1 fun k hk => ?_) hbw, fill4_below ((hB.setCell (p := ⟨O, 2, none⟩) hOw _).setCell (p := ⟨O, 3, none⟩) hOw _) hRw _ _ _ _⟩
  have e : b = k := by simpa [Value.ownBlock] using hk
  rw [← e, fill4_other _ nbR, heap_setCell_other _ _ _ _ nbO, heap_setCell_other _ _ _ _ nbO]

/-! ### Events in rows of their own -/
def flatE (G : Evs) : List Value := G.flatMap fun p => [.int .i64 p.1.kd, .int .u64 p.1.off, .slice p.2.1 p.1.dat.length p.2.2, .int .i64 p.1.n]
theorem flatE_length (G : Evs) : (flatE G).length = G.length * 4 := by
  induction G with
  | nil => rfl
  | cons p r ih => simp [flatE] at ih ⊢; omega
theorem flatE_at {G : Evs} {i : Nat} (h : i < G.length) : (flatE G)[i * 4]? = some (.int .i64 (G[i]).1.kd) ∧ (flatE G)[i * 4 + 1]? = some (.int .u64 (G[i]).1.off) ∧ (flatE G)[i * 4 + 2]? = some (.slice (G[i]).2.1 (G[i]).1.dat.length (G[i]).2.2) ∧ (flatE G)[i * 4 + 3]? = some (.int .i64 (G[i]).1.n) := by
  induction G generalizing i with
  | nil => simp at h
  | cons p r ih =>
    cases i with
    | zero => exact ⟨rfl, rfl, rfl, rfl⟩
    | succ i =>
      have := ih (i := i) (by simpa using h)
      have e1 : (i + 1) * 4 = i * 4 + 4 := by omega
      have e2 : flatE (p :: r) = .int .i64 p.1.kd :: .int .u64 p.1.off :: .slice p.2.1 p.1.dat.length p.2.2 :: .int .i64 p.1.n :: flatE r := rfl
      rw [e1, e2]
      simpa using this
theorem flatE_set (G : Evs) (i : Nat) (p : REv × Option Addr × Nat) (hi : i < G.length) : ((((flatE G).set (i * 4) (.int .i64 p.1.kd)).set (i * 4 + 1) (.int .u64 p.1.off)).set (i * 4 + 2) (.slice p.2.1 p.1.dat.length p.2.2)).set (i * 4 + 3) (.int .i64 p.1.n) = flatE (G.set i p) := by
  induction G generalizing i with
  | nil => simp at hi
  | cons q r ih =>
    cases i with
    | zero => rfl
    | succ i =>
      have e2 : ∀ (q : REv × Option Addr × Nat) (r : Evs), flatE (q :: r) = .int .i64 q.1.kd :: .int .u64 q.1.off :: .slice q.2.1 q.1.dat.length q.2.2 :: .int .i64 q.1.n :: flatE r := fun _ _ => rfl
      have e1 : (i + 1) * 4 = i * 4 + 1 + 1 + 1 + 1 := by omega
      rw [List.set_cons_succ, e2, e2, e1, ← ih i (by simpa using hi)]
      rfl
abbrev evP (p : REv × Option Addr × Nat) : Value := .slice p.2.1 p.1.dat.length p.2.2
structure EvsR (w : World) (base : Nat) (ev : Value) (G : Evs) : Prop where
  row : w.ownsRow base 48 4 ev G.length (flatE G)
  dat : ∀ p ∈ G, w.ownsRow base 5 1 (evP p) p.1.dat.length (p.1.dat.map (.int .u8))
  apart : (G.filterMap fun p => (evP p).ownBlock).Nodup
theorem EvsR.stays {w w' : World} {base : Nat} {ev : Value} {G : Evs} (h : EvsR w base ev G) (hb : ∀ k, base ≤ k → k < w.heap.size → w'.heap[k]? = w.heap[k]?) : EvsR w' base ev G :=
  ⟨row_stays h.row fun k hk => hb k (h.row.lt k hk).1 (h.row.lt k hk).2, fun p hp => row_stays (h.dat p hp) fun k hk => hb k ((h.dat p hp).lt k hk).1 ((h.dat p hp).lt k hk).2, h.apart⟩
theorem EvsR.below {w w' : World} {base : Nat} {ev : Value} {G : Evs} (h : EvsR w base ev G) (hb : Below w.heap.size w w') : EvsR w' base ev G := h.stays fun k _ hk => hb.block k hk
/-- As the calls take them. -/
theorem EvsR.lie {w : World} {base : Nat} {a : Option Addr} {n cp : Nat} {G : Evs} (hn : G.length = n) (h : EvsR w base (.slice a n cp) G) : EvLie w w.heap.size a G := by
  subst hn
  refine ⟨?_, fun p hp => ⟨Ints.ofRow (h.dat p hp), fun b o e => ?_⟩⟩
  · rcases h.row.2 with ⟨e, h0⟩ | ⟨g, cp', cur, e, hb, hg, _⟩
    · exact .inl (List.eq_nil_of_length_eq_zero h0)
    · simp only [Value.slice.injEq] at e
      obtain ⟨rfl, _, rfl⟩ := e
      refine .inr ⟨g, 0, rfl, (h.row.lt g rfl).2, fun i hi => ?_⟩
      obtain ⟨f0, f1, f2, f3⟩ := flatE_at hi
      simp only [Nat.zero_add]
      exact ⟨by rw [h.row.cellAt _ (by omega)]; exact f0, by rw [h.row.cellAt _ (by omega)]; exact f1, by rw [h.row.cellAt _ (by omega)]; exact f2, by rw [h.row.cellAt _ (by omega)]; exact f3⟩
  · have hd := h.dat p hp
    have := (hd.lt b (by simp only [evP, Value.ownBlock, e])).2
    exact this
theorem EvLie.in_ {w : World} {lim : Nat} {a : Option Addr} {G : Evs} (h : EvLie w lim a G) : EvIn w a G := by
  refine ⟨?_, fun p hp => (h.dat p hp).1⟩
  rcases h.at_ with h0 | ⟨b, off, ha, _, hc⟩
  · exact .inl h0
  · exact .inr ⟨b, off, ha, hc⟩
def zeroEv : REv × Option Addr × Nat := (⟨0, 0, [], 0⟩, none, 0)
theorem flatE_replicate (n : Nat) : flatE (List.replicate n zeroEv) = (madeCells #[.int .i64 0, .int .u64 0, .slice none 0 0, .int .i64 0] (n * 4)).toList := by
  refine List.ext_getElem? fun i => ?_
  by_cases hi : i < n * 4
  · have hq : i / 4 < (List.replicate n zeroEv).length := by simp; omega
    obtain ⟨h0, h1, h2, h3⟩ := flatE_at (G := List.replicate n zeroEv) hq
    have hr : (madeCells #[.int .i64 0, .int .u64 0, .slice none 0 0, .int .i64 0] (n * 4)).toList[i]? = #[Value.int .i64 0, .int .u64 0, .slice none 0 0, .int .i64 0][i % 4]? := by
      simp only [madeCells, Array.toList_map, List.getElem?_map]
      rcases (show i % 4 = 0 ∨ i % 4 = 1 ∨ i % 4 = 2 ∨ i % 4 = 3 by omega) with h | h | h | h <;> simp [h, hi]
    rw [hr]
    rcases (show i = i / 4 * 4 ∧ i % 4 = 0 ∨ i = i / 4 * 4 + 1 ∧ i % 4 = 1 ∨ i = i / 4 * 4 + 2 ∧ i % 4 = 2 ∨ i = i / 4 * 4 + 3 ∧ i % 4 = 3 by omega) with h | h | h | h
    · rw [← h.1] at h0; rw [h0, h.2]; simp [zeroEv]
    · rw [← h.1] at h1; rw [h1, h.2]; simp [zeroEv]
    · rw [← h.1] at h2; rw [h2, h.2]; simp [zeroEv]
    · rw [← h.1] at h3; rw [h3, h.2]; simp [zeroEv]
  · rw [List.getElem?_eq_none (by rw [flatE_length]; simp; omega), List.getElem?_eq_none (by simp [madeCells]; omega)]
end Go.Proofs.Ytpeecjoadgefjaa
