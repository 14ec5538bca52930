import Derived.Test.YtpeecjoadgefjaaRAll
namespace Go.Proofs.Ytpeecjoadgefjaa
open Go.ChangeShapes Go.WideShapes Go.ChangeAt Go.RowKit
set_option linter.unusedVariables false

theorem info_slot : (Try.prog.info? 128).map (fun i => (i.zero, i.size, i.bytes)) = some (some (.agg #[.bool false, .int .u8 0]), 2, 2) := by kernel_rfl
theorem within_yes (v a b : Int) (w : World) (h1 : a ≤ v) (h2 : v ≤ b) : Calls Try.prog 73 #[.int .i64 v, .int .i64 a, .int .i64 b] w fun e w' => e = .returned (.bool true) ∧ w' = w := by
  go_enter Try.func73, Try.ntmps73
  go_wp2
  go_ret
  exact ⟨rfl, rfl⟩
theorem within_no (v a b : Int) (w : World) (h : ¬ (a ≤ v ∧ v ≤ b)) : Calls Try.prog 73 #[.int .i64 v, .int .i64 a, .int .i64 b] w fun e w' => e = .returned (.bool false) ∧ w' = w := by
  by_cases h1 : a ≤ v
  · have h2 : ¬ v ≤ b := fun h2 => h ⟨h1, h2⟩
    have d2 : decide (v ≤ b) = false := by simpa using h2
    have H : Hid _ := h
    clear h
    go_enter Try.func73, Try.ntmps73
    go_wp2
    go_ret
    exact ⟨rfl, rfl⟩
  · have d2 : decide (a ≤ v) = false := by simpa using h1
    have H : Hid _ := h
    clear h
    go_enter Try.func73, Try.ntmps73
    go_wp2
    go_ret
    exact ⟨rfl, rfl⟩

theorem cells4r {w : World} {B : Nat} {t : TypeId} {x0 x1 x2 x3 : Value} (h : w.heap[B]? = some (.cells #[x0, x1, x2, x3] t (0, 0))) :
    (w.cell? ⟨B, 0, none⟩ = some x0 ∧ w.cell? ⟨B, 1, none⟩ = some x1 ∧ w.cell? ⟨B, 2, none⟩ = some x2 ∧ w.cell? ⟨B, 3, none⟩ = some x3) ∧ w.frozen? ⟨B, 0, none⟩ = false ∧ w.frozen? ⟨B, 1, none⟩ = false ∧ w.frozen? ⟨B, 2, none⟩ = false ∧ w.frozen? ⟨B, 3, none⟩ = false :=
  ⟨⟨Go.Joins.cell_of_block h 0, Go.Joins.cell_of_block h 1, Go.Joins.cell_of_block h 2, Go.Joins.cell_of_block h 3⟩, Go.Joins.unfrozen_of_block h _, Go.Joins.unfrozen_of_block h _, Go.Joins.unfrozen_of_block h _, Go.Joins.unfrozen_of_block h _⟩
theorem set4r {w : World} {b : Nat} {x y z k : Value} {t : TypeId} (h : w.heap[b]? = some (.cells #[x, y, z, k] t (0, 0))) (u v s q : Value) :
    ((((w.setCell ⟨b, 0, none⟩ u).setCell ⟨b, 1, none⟩ v).setCell ⟨b, 2, none⟩ s).setCell ⟨b, 3, none⟩ q).heap[b]? = some (.cells #[u, v, s, q] t (0, 0)) := by
  have h0 := heap_setCell_same w b 0 _ _ u h
  have h1 := heap_setCell_same _ b 1 _ _ v h0
  have h2 := heap_setCell_same _ b 2 _ _ s h1
  exact heap_setCell_same _ b 3 _ _ q h2
theorem fill4_other (w : World) {b k : Nat} (h : k ≠ b) (u v s q : Value) : ((((w.setCell ⟨b, 0, none⟩ u).setCell ⟨b, 1, none⟩ v).setCell ⟨b, 2, none⟩ s).setCell ⟨b, 3, none⟩ q).heap[k]? = w.heap[k]? := by
  rw [heap_setCell_other _ _ _ _ h, heap_setCell_other _ _ _ _ h, heap_setCell_other _ _ _ _ h, heap_setCell_other _ _ _ _ h]
theorem fill4_below {B : Nat} {w0 w : World} (h : Below B w0 w) {b : Nat} (hb : B ≤ b) (u v s q : Value) : Below B w0 ((((w.setCell ⟨b, 0, none⟩ u).setCell ⟨b, 1, none⟩ v).setCell ⟨b, 2, none⟩ s).setCell ⟨b, 3, none⟩ q) :=
  (((h.setCell (p := ⟨b, 0, none⟩) hb _).setCell (p := ⟨b, 1, none⟩) hb _).setCell (p := ⟨b, 2, none⟩) hb _).setCell (p := ⟨b, 3, none⟩) hb _

set_option maxHeartbeats 400000 in
theorem newBuffer_any (x : Int) (z : Nat) (w : World) (h2 : z ≤ 4096) :
    Calls Try.prog 74 #[.int .u64 x, .int .i64 (z : Int)] w fun e w' => ∃ g, e = .returned (.agg #[.slice (some ⟨g, 0, none⟩) z z, .int .u64 x, .int .i64 0, .int .u64 0]) ∧ w'.ownsRow w.heap.size 128 2 (.slice (some ⟨g, 0, none⟩) z z) z (flatB (List.replicate z (false, 0))) ∧ Below w.heap.size w w' := by
  obtain ⟨i0, hi, hz0, hz1, hz2⟩ := info_parts info_slot
  have hR0 := heap_alloc_new w (.cells #[.slice none 0 0, .int .u64 0, .int .i64 0, .int .u64 0] 88)
  have hb0 : Below w.heap.size w (w.alloc (.cells #[.slice none 0 0, .int .u64 0, .int .i64 0, .int .u64 0] 88)) := (Below.refl _ _).alloc (Nat.le_refl _) _
  obtain ⟨V, hV⟩ : ∃ V, V = w.alloc (.cells #[.slice none 0 0, .int .u64 0, .int .i64 0, .int .u64 0] 88) := ⟨_, rfl⟩
  have hs : Hid (V.heap.size = w.heap.size + 1) := by rw [hV]; unfold Hid; simp
  rw [← hV] at hR0 hb0
  obtain ⟨R, hR⟩ : ∃ R, R = w.heap.size := ⟨_, rfl⟩
  rw [← hR] at hR0
  have hRw : w.heap.size ≤ R := by omega
  have hRV : R < V.heap.size := by have := hs.out; omega
  have hVw : w.heap.size ≤ V.heap.size := by omega
  go_enter Try.func74, Try.ntmps74
  go_upto_region 1 with fail
  rw [← hV, ← hR]
  clear hV hR
  go_wp2_with (at_make; refine wpList_make_full _ rfl _ _ 86 rfl V.heap.size 128 i0 (.agg #[.bool false, .int .u8 0]) 2 Try.underlying86 hi hz0 hz1 .i64 .i64 _ _ z rfl rfl rfl rfl (by rw [hz2]; omega) (by unfold maxLen; omega) (Nat.le_refl _) ?_; intro w1 hown hgrow; obtain ⟨⟨k0, k1, k2, k3⟩, kf0, kf1, kf2, kf3⟩ := cells4r ((hgrow.block R hRV (by simp)).trans hR0))
  have hB1 : w1.heap[R]? = some (.cells #[.slice none 0 0, .int .u64 0, .int .i64 0, .int .u64 0] 88) := (hgrow.block R hRV (by simp)).trans hR0
  obtain ⟨⟨z0, z1, z2, z3⟩, _⟩ := cells4r (set4r hB1 (.slice (some ⟨V.heap.size, 0, none⟩) z z) (.int .u64 x) (.int .i64 0) (.int .u64 0))
  have hbw : Below w.heap.size w w1 := hb0.grown hgrow hVw (by simp)
  have hrow : w1.ownsRow V.heap.size 128 2 (.slice (some ⟨V.heap.size, 0, none⟩) z z) z (flatB (List.replicate z (false, 0))) := by rw [flatB_replicate]; exact hown
  exact bodyPost_ret (v := .agg #[.slice (some ⟨V.heap.size, 0, none⟩) z z, .int .u64 x, .int .i64 0, .int .u64 0]) (by simp [results, Try.results74, go_sem, z0, z1, z2, z3]) rfl ⟨_, rfl, owned_base (row_stays hrow fun k hk => fill4_other _ (by have := (hrow.lt k hk).1; omega) _ _ _ _) hVw, fill4_below hbw hRw _ _ _ _⟩

def OkR (x z : Int) : Prop := x ≤ 4611686018427387904 ∧ 1 ≤ z ∧ z ≤ 4096
set_option maxHeartbeats 1000000 in
theorem runR_bad (x z : Int) (hno : ¬ OkR x z) (a : Option Addr) (n cap : Nat) (w : World) :
    Calls Try.prog 53 #[.int .u64 x, .int .i64 z, .slice a n cap] w fun e w' => e = .returned (.tuple #[.agg #[.slice none 0 0, .int .u64 0, .int .i64 0, .int .u64 0], .slice none 0 0, .int .i64 17]) ∧ Below w.heap.size w w' := by
  have hR0 := heap_alloc_new w (.cells #[.slice none 0 0, .int .u64 0, .int .i64 0, .int .u64 0] 88)
  have hb0 : Below w.heap.size w (w.alloc (.cells #[.slice none 0 0, .int .u64 0, .int .i64 0, .int .u64 0] 88)) := (Below.refl _ _).alloc (Nat.le_refl _) _
  obtain ⟨V, hV⟩ : ∃ V, V = w.alloc (.cells #[.slice none 0 0, .int .u64 0, .int .i64 0, .int .u64 0] 88) := ⟨_, rfl⟩
  have hs : Hid (V.heap.size = w.heap.size + 1) := by rw [hV]; unfold Hid; simp
  rw [← hV] at hR0 hb0
  obtain ⟨R, hR⟩ : ∃ R, R = w.heap.size := ⟨_, rfl⟩
  rw [← hR] at hR0
  have hRw : w.heap.size ≤ R := by omega
  have hRV : R < V.heap.size := by have := hs.out; omega
  have hVw : w.heap.size ≤ V.heap.size := by omega
  obtain ⟨⟨k0, k1, k2, k3⟩, kf0, kf1, kf2, kf3⟩ := cells4r hR0
  obtain ⟨⟨z0, z1, z2, z3⟩, _⟩ := cells4r (set4r hR0 (.slice none 0 0) (.int .u64 0) (.int .i64 0) (.int .u64 0))
  by_cases h1 : x ≤ 4611686018427387904
  · have d1 : decide (4611686018427387904 < x) = false := by rw [decide_eq_false_iff_not]; omega
    have hw := within_no z 1 4096 V (fun h => hno ⟨h1, h.1, h.2⟩)
    have HN : Hid _ := hno
    clear hno h1
    go_enter Try.func53, Try.ntmps53
    go_upto_region 1 with fail
    rw [← hV, ← hR]
    clear hV hR
    go_wp2_with fail
    refine hw.mono ?_
    rintro e w1 ⟨rfl, hw1⟩
    subst hw1
    go_wp2_with fail
    exact bodyPost_ret (v := .tuple #[.agg #[.slice none 0 0, .int .u64 0, .int .i64 0, .int .u64 0], .slice none 0 0, .int .i64 17]) (by simp [results, Try.results53, go_sem, z0, z1, z2, z3]) rfl ⟨rfl, fill4_below hb0 hRw _ _ _ _⟩
  · have d1 : decide (4611686018427387904 < x) = true := by rw [decide_eq_true_iff]; omega
    have HN : Hid _ := hno
    clear hno h1
    go_enter Try.func53, Try.ntmps53
    go_upto_region 1 with fail
    rw [← hV, ← hR]
    clear hV hR
    go_wp2_with fail
    exact bodyPost_ret (v := .tuple #[.agg #[.slice none 0 0, .int .u64 0, .int .i64 0, .int .u64 0], .slice none 0 0, .int .i64 17]) (by simp [results, Try.results53, go_sem, z0, z1, z2, z3]) rfl ⟨rfl, fill4_below hb0 hRw _ _ _ _⟩

theorem runAllR_limit (f : Value) (a : Option Addr) (n cap : Nat) (w : World) (hl : 4000 < n) :
    Calls Try.prog 75 #[.slice a n cap, f] w fun e w' => e = .returned (.tuple #[.slice none 0 0, .int .i64 5]) ∧ w' = w := by
  have d4 : decide ((4000 : Int) < (n : Int)) = true := by rw [decide_eq_true_iff]; omega
  go_enter Try.func75, Try.ntmps75
  go_wp2_with fail
  go_ret2
  exact ⟨rfl, rfl⟩

set_option maxHeartbeats 1000000 in
theorem runR_limit (x : Int) (z : Nat) (hx : OkR x z) (a : Option Addr) (n cap : Nat) (w : World) (hl : 4000 < n) :
    Calls Try.prog 53 #[.int .u64 x, .int .i64 (z : Int), .slice a n cap] w fun e w' => ∃ g, e = .returned (.tuple #[.agg #[.slice (some ⟨g, 0, none⟩) z z, .int .u64 x, .int .i64 0, .int .u64 0], .slice none 0 0, .int .i64 5]) ∧ Below w.heap.size w w' := by
  have hR0 := heap_alloc_new w (.cells #[.slice none 0 0, .int .u64 0, .int .i64 0, .int .u64 0] 88)
  have hb0 : Below w.heap.size w (w.alloc (.cells #[.slice none 0 0, .int .u64 0, .int .i64 0, .int .u64 0] 88)) := (Below.refl _ _).alloc (Nat.le_refl _) _
  obtain ⟨V, hV⟩ : ∃ V, V = w.alloc (.cells #[.slice none 0 0, .int .u64 0, .int .i64 0, .int .u64 0] 88) := ⟨_, rfl⟩
  have hs : Hid (V.heap.size = w.heap.size + 1) := by rw [hV]; unfold Hid; simp
  rw [← hV] at hR0 hb0
  obtain ⟨R, hR⟩ : ∃ R, R = w.heap.size := ⟨_, rfl⟩
  rw [← hR] at hR0
  have hRw : w.heap.size ≤ R := by omega
  have hRV : R < V.heap.size := by have := hs.out; omega
  have hVw : w.heap.size ≤ V.heap.size := by omega
  obtain ⟨o1, o2, o3⟩ := hx
  have d1 : decide (4611686018427387904 < x) = false := by rw [decide_eq_false_iff_not]; omega
  have hw := within_yes (z : Int) 1 4096 V o2 o3
  have hnb := newBuffer_any x z V (by omega)
  go_enter Try.func53, Try.ntmps53
  go_upto_region 1 with fail
  rw [← hV, ← hR]
  clear hV hR
  go_wp2_with fail
  refine hw.mono ?_
  rintro e w1 ⟨rfl, hw1⟩
  subst hw1
  go_wp2_with fail
  refine hnb.mono ?_
  rintro e w2 ⟨g, rfl, hrow, hb2⟩
  have hs2 := hb2.size
  obtain ⟨W, hW⟩ : ∃ W, W = w2.alloc (.cells #[.slice (some ⟨g, 0, none⟩) z z, .int .u64 x, .int .i64 0, .int .u64 0] 88) := ⟨_, rfl⟩
  have hBW := heap_alloc_new w2 (.cells #[.slice (some ⟨g, 0, none⟩) z z, .int .u64 x, .int .i64 0, .int .u64 0] 88)
  have hbW : Below w1.heap.size w1 (w2.alloc (.cells #[.slice (some ⟨g, 0, none⟩) z z, .int .u64 x, .int .i64 0, .int .u64 0] 88)) := hb2.alloc hs2 _
  have hWs : Hid (W.heap.size = w2.heap.size + 1) := by rw [hW]; unfold Hid; simp
  have hbW2 : ∀ k, k < w2.heap.size → W.heap[k]? = w2.heap[k]? := fun k hk => by rw [hW]; exact Below.heap_alloc _ _ _ hk
  rw [← hW] at hBW hbW
  obtain ⟨B, hB⟩ : ∃ B, B = w2.heap.size := ⟨_, rfl⟩
  rw [← hB] at hBW
  have hRW := (hbW.block R hRV).trans hR0
  obtain ⟨⟨k0, k1, k2, k3⟩, kf0, kf1, kf2, kf3⟩ := cells4r hRW
  obtain ⟨⟨q0, q1, q2, q3⟩, _⟩ := cells4r hBW
  obtain ⟨⟨z0, z1, z2, z3⟩, _⟩ := cells4r (set4r hRW (.slice (some ⟨g, 0, none⟩) z z) (.int .u64 x) (.int .i64 0) (.int .u64 0))
  have hbw := hb0.trans (hbW.mono hb0.size)
  have hra := fun f => runAllR_limit f a n cap W hl
  go_wp2_with fail
  rw [← hW, ← hB]
  clear hW hB
  refine (hra _).mono ?_
  rintro e w3 ⟨rfl, hw3⟩
  subst hw3
  go_wp2_with fail
  exact bodyPost_ret (v := .tuple #[.agg #[.slice (some ⟨g, 0, none⟩) z z, .int .u64 x, .int .i64 0, .int .u64 0], .slice none 0 0, .int .i64 5]) (by simp [results, Try.results53, go_sem, z0, z1, z2, z3]) rfl ⟨_, rfl, fill4_below hbw hRw _ _ _ _⟩

/-- What is left behind all events: the slots' row and the answers. -/
structure RanR (w : World) (z : Nat) (x : Int) (es : List REv) (w' : World) (g : Nat) (ov : Value) (G : GotO) : Prop where
  slots : ∃ L, w'.ownsRow w.heap.size 128 2 (.slice (some ⟨g, 0, none⟩) z z) z (flatB L) ∧ SlotsAt z (stateR z x es) L
  outs : OutsR w' w.heap.size ov G
  got : G.map (·.1) = outsR z (startR x) es
  below : Below w.heap.size w w'
set_option maxHeartbeats 1000000 in
theorem runR_ok (x : Int) (x0 : 0 ≤ x) (z : Nat) (hx : OkR x z) (a : Option Addr) (es : Evs) (n cap : Nat) (w : World) (hn : es.length = n) (hl : n ≤ 4000) (hz : EvLie w w.heap.size a es) (hok : ∀ p ∈ es, EvOk p.1) :
    Calls Try.prog 53 #[.int .u64 x, .int .i64 (z : Int), .slice a n cap] w fun e w' => ∃ g av cp G, e = .returned (.tuple #[.agg #[.slice (some ⟨g, 0, none⟩) z z, .int .u64 (stateR z x (es.map (·.1))).read, .int .i64 (stateR z x (es.map (·.1))).hf, .int .u64 (stateR z x (es.map (·.1))).fin], .slice av n cp, .int .i64 0]) ∧ RanR w z x (es.map (·.1)) w' g (.slice av n cp) G := by
  have hR0 := heap_alloc_new w (.cells #[.slice none 0 0, .int .u64 0, .int .i64 0, .int .u64 0] 88)
  have hb0 : Below w.heap.size w (w.alloc (.cells #[.slice none 0 0, .int .u64 0, .int .i64 0, .int .u64 0] 88)) := (Below.refl _ _).alloc (Nat.le_refl _) _
  obtain ⟨V, hV⟩ : ∃ V, V = w.alloc (.cells #[.slice none 0 0, .int .u64 0, .int .i64 0, .int .u64 0] 88) := ⟨_, rfl⟩
  have hs : Hid (V.heap.size = w.heap.size + 1) := by rw [hV]; unfold Hid; simp
  rw [← hV] at hR0 hb0
  obtain ⟨R, hR⟩ : ∃ R, R = w.heap.size := ⟨_, rfl⟩
  rw [← hR] at hR0
  have hRw : w.heap.size ≤ R := by omega
  have hRV : R < V.heap.size := by have := hs.out; omega
  have hVw : w.heap.size ≤ V.heap.size := by omega
  obtain ⟨o1, o2, o3⟩ := hx
  have d1 : decide (4611686018427387904 < x) = false := by rw [decide_eq_false_iff_not]; omega
  have hw := within_yes (z : Int) 1 4096 V o2 o3
  have hnb := newBuffer_any x z V (by omega)
  go_enter Try.func53, Try.ntmps53
  go_upto_region 1 with fail
  rw [← hV, ← hR]
  clear hV hR
  go_wp2_with fail
  refine hw.mono ?_
  rintro e w1 ⟨rfl, hw1⟩
  subst hw1
  go_wp2_with fail
  refine hnb.mono ?_
  rintro e w2 ⟨g, rfl, hrow, hb2⟩
  have hs2 := hb2.size
  obtain ⟨W, hW⟩ : ∃ W, W = w2.alloc (.cells #[.slice (some ⟨g, 0, none⟩) z z, .int .u64 x, .int .i64 0, .int .u64 0] 88) := ⟨_, rfl⟩
  have hBW := heap_alloc_new w2 (.cells #[.slice (some ⟨g, 0, none⟩) z z, .int .u64 x, .int .i64 0, .int .u64 0] 88)
  have hbW : Below w1.heap.size w1 (w2.alloc (.cells #[.slice (some ⟨g, 0, none⟩) z z, .int .u64 x, .int .i64 0, .int .u64 0] 88)) := hb2.alloc hs2 _
  have hWs : Hid (W.heap.size = w2.heap.size + 1) := by rw [hW]; unfold Hid; simp
  have hbW2 : ∀ k, k < w2.heap.size → W.heap[k]? = w2.heap[k]? := fun k hk => by rw [hW]; exact Below.heap_alloc _ _ _ hk
  rw [← hW] at hBW hbW
  obtain ⟨B, hB⟩ : ∃ B, B = w2.heap.size := ⟨_, rfl⟩
  rw [← hB] at hBW
  have hRW := (hbW.block R hRV).trans hR0
  obtain ⟨⟨k0, k1, k2, k3⟩, kf0, kf1, kf2, kf3⟩ := cells4r hRW
  obtain ⟨⟨q0, q1, q2, q3⟩, _⟩ := cells4r hBW
  obtain ⟨⟨z0, z1, z2, z3⟩, _⟩ := cells4r (set4r hRW (.slice (some ⟨g, 0, none⟩) z z) (.int .u64 x) (.int .i64 0) (.int .u64 0))
  have hbw := hb0.trans (hbW.mono hb0.size)
  have hbl : BufAt W B w.heap.size z (startR x) g z (List.replicate z (false, 0)) := by
    refine ⟨hBW, owned_base (row_stays hrow fun k hk => hbW2 k (hrow.lt k hk).2) hVw, ⟨by simp, fun y y1 y2 => ?_⟩, by omega, by omega, x0, by simp only [startR]; omega⟩
    rw [List.getElem?_replicate_of_lt (mod_lt (by omega))]
    rfl
  have hgr := hrow.lt g rfl
  have hra := runAllR_any B w.heap.size z g z w.heap.size x x0 o1 a es n cap W hn hl _ hbl (by omega) (by omega) (hz.stays fun k hk => hbw.block k hk) hok
  have hgW : g < W.heap.size := by have := hWs.out; omega
  have hBlt : B < W.heap.size := by have := hWs.out; omega
  have hRW' : R < W.heap.size := by have := hWs.out; omega
  have hRB : R ≠ B := by omega
  have hBw : w.heap.size ≤ B := by omega
  have hgw : w.heap.size ≤ g := by omega
  have hRg : R ≠ g := by omega
  have HN : Hid _ := hn
  clear hn q0 q1 q2 q3 k0 k1 k2 k3 kf0 kf1 kf2 kf3 z0 z1 z2 z3
  go_wp2_with fail
  rw [← hW, ← hB]
  clear hW hB
  refine hra.mono ?_
  rintro e w3 ⟨av, cp, G, rfl, hA⟩
  obtain ⟨s9, hs9⟩ : ∃ s9, s9 = stateR z x (es.map (·.1)) := ⟨_, rfl⟩
  obtain ⟨L3, hb3⟩ := hA.buf
  rw [← hs9] at hb3
  have HS9 : Hid _ := hs9
  have hR3 := (hA.two.block R hRW' hRB hRg).trans hRW
  obtain ⟨⟨q0, q1, q2, q3⟩, qf⟩ := hb3.cells
  obtain ⟨⟨k0, k1, k2, k3⟩, kf0, kf1, kf2, kf3⟩ := cells4r hR3
  obtain ⟨⟨z0, z1, z2, z3⟩, _⟩ := cells4r (set4r hR3 (.slice (some ⟨g, 0, none⟩) z z) (.int .u64 s9.read) (.int .i64 s9.hf) (.int .u64 s9.fin))
  clear hs9 qf hra
  go_wp2_with fail
  refine bodyPost_ret (v := .tuple #[.agg #[.slice (some ⟨g, 0, none⟩) z z, .int .u64 s9.read, .int .i64 s9.hf, .int .u64 s9.fin], .slice av n cp, .int .i64 0]) (by simp [results, Try.results53, go_sem, z0, z1, z2, z3]) rfl ⟨g, av, cp, G, by rw [← HS9.out], ⟨L3, ?_, ?_⟩, ?_, hA.got, ?_⟩
  · exact row_stays hb3.row fun k hk => fill4_other _ (fun e => by cases hk; exact hRg e.symm) _ _ _ _
  · rw [← HS9.out]; exact hb3.sl
  · have hot := hA.outs.stays (w' := (((w3.setCell ⟨R, 0, none⟩ (.slice (some ⟨g, 0, none⟩) z z)).setCell ⟨R, 1, none⟩ (.int .u64 s9.read)).setCell ⟨R, 2, none⟩ (.int .i64 s9.hf)).setCell ⟨R, 3, none⟩ (.int .u64 s9.fin)) (fun k cs t h1 _ _ => fill4_other _ (by omega) _ _ _ _)
    exact ⟨owned_base hot.row hbw.size, fun p hp => owned_base (hot.dat p hp) hbw.size, hot.apart⟩
  · refine fill4_below ⟨hA.two.os.trans hbw.os, hA.two.tape.trans hbw.tape, hA.two.output.trans hbw.output, Nat.le_trans hbw.size hA.two.size, fun k hk => ?_⟩ hRw _ _ _ _
    exact (hA.two.block k (by have := hbw.size; omega) (by omega) (by omega)).trans (hbw.block k hk)
end Go.Proofs.Ytpeecjoadgefjaa
