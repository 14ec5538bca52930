import Derived.Test.YtpeecjoadgefjaaRSpec8
import Derived.Test.YtpeecjoadgefjaaJ7
import Derived.Deep.RegionWith
namespace Go.Proofs.Ytpeecjoadgefjaa
open Go.ChangeShapes Go.WideShapes Go.ChangeAt Go.RowKit
set_option linter.unusedVariables false

theorem stepR_fin (z : Nat) (s : RB) (e : REv) (h : s.hf = 0 → s.fin = 0) : (stepR z s e).2.hf = 0 → (stepR z s e).2.fin = 0 := by
  unfold stepR
  split
  · unfold putR
    split
    · exact h
    · split
      · exact h
      · split <;> exact h
  · split
    · unfold takeR
      split <;> exact h
    · split
      · unfold endR
        split
        · exact h
        · split
          · exact h
          · split
            · exact h
            · intro h1; simp at h1
      · exact h
theorem stateR_fin (z : Nat) (x : Int) (es : List REv) : (stateR z x es).hf = 0 → (stateR z x es).fin = 0 := by
  have gen : ∀ (es : List REv) (s : RB), (s.hf = 0 → s.fin = 0) → ((es.foldl (fun s e => (stepR z s e).2) s).hf = 0 → (es.foldl (fun s e => (stepR z s e).2) s).fin = 0) := by
    intro es
    induction es with
    | nil => intro s h; exact h
    | cons e r ih => intro s h; exact ih _ (stepR_fin z s e h)
  exact gen es (startR x) (fun _ => rfl)

set_option maxHeartbeats 400000 in
theorem specRunR_bad (x z : Int) (hno : ¬ OkR x z) (a : Option Addr) (n cap : Nat) (w : World) :
    Calls Try.prog 22 #[.int .u64 x, .int .i64 z, .slice a n cap] w fun e w' => e = .returned (.tuple #[.slice none 0 0, .int .i64 17]) ∧ Below w.heap.size w w' := by
  have hrun := l5Run_bad x z hno a n cap w
  go_enter Try.func22, Try.ntmps22
  go_wp2_with fail
  refine hrun.mono ?_
  rintro e w1 ⟨rfl, hb1⟩
  have hbw := hb1.alloc hb1.size (.cells #[.int .u64 0, .int .i64 0, .slice none 0 0, .int .i64 0, .int .u64 0, .bool false] 83)
  go_wp2_with fail
  exact bodyPost_ret (v := .tuple #[.slice none 0 0, .int .i64 17]) (by simp [results, Try.results22, go_sem]) rfl ⟨rfl, hbw⟩
set_option maxHeartbeats 400000 in
theorem specStateR_bad (x z : Int) (hno : ¬ OkR x z) (a : Option Addr) (n cap : Nat) (w : World) :
    Calls Try.prog 35 #[.int .u64 x, .int .i64 z, .slice a n cap] w fun e w' => e = .returned (.tuple #[.agg zeroRV, .int .i64 17]) ∧ Below w.heap.size w w' := by
  have hR0 := heap_alloc_new w (.cells zeroRV 44)
  have hb0 : Below w.heap.size w (w.alloc (.cells zeroRV 44)) := (Below.refl _ _).alloc (Nat.le_refl _) _
  obtain ⟨V, hV⟩ : ∃ V, V = w.alloc (.cells zeroRV 44) := ⟨_, rfl⟩
  have hs : Hid (V.heap.size = w.heap.size + 1) := by rw [hV]; unfold Hid; simp
  rw [← hV] at hR0 hb0
  obtain ⟨R, hR⟩ : ∃ R, R = w.heap.size := ⟨_, rfl⟩
  rw [← hR] at hR0
  have hRw : w.heap.size ≤ R := by omega
  have hRV : R < V.heap.size := by have := hs.out; omega
  have hVw : w.heap.size ≤ V.heap.size := by omega
  have hrun := l5Run_bad x z hno a n cap V
  go_enter Try.func35, Try.ntmps35
  go_wp2_with fail
  rw [← hV, ← hR]
  clear hV hR
  refine hrun.mono ?_
  rintro e w1 ⟨rfl, hb1⟩
  have hR1 := (hb1.block R hRV).trans hR0
  have hs1 := hb1.size
  obtain ⟨W, hW⟩ : ∃ W, W = w1.alloc (.cells #[.int .u64 0, .int .i64 0, .slice none 0 0, .int .i64 0, .int .u64 0, .bool false] 83) := ⟨_, rfl⟩
  have hRW : W.heap[R]? = some (.cells zeroRV 44 (0, 0)) := by rw [hW]; exact (Below.heap_alloc _ _ _ (by omega)).trans hR1
  have hbW : Below w.heap.size w W := by
    have h9 := hb0.trans (hb1.mono hVw)
    rw [hW]
    exact h9.alloc h9.size _
  obtain ⟨⟨k0, k1, k2, k3, k4⟩, kf⟩ := cells5r hRW
  have kf0 := kf 0
  have kf1 := kf 1
  have kf2 := kf 2
  have kf3 := kf 3
  have kf4 := kf 4
  obtain ⟨⟨z0, z1, z2, z3, z4⟩, _⟩ := cells5r (set5r hRW (.int .u64 0) (.int .u64 0) (.slice none 0 0) (.int .i64 0) (.int .u64 0))
  go_upto_if 20 with fail
  rw [← hW]
  clear hW
  go_wp2_with fail
  exact bodyPost_ret (v := .tuple #[.agg zeroRV, .int .i64 17]) (by simp [results, Try.results35, go_sem, z0, z1, z2, z3, z4]) rfl ⟨rfl, fill5_below hbW hRw _ _ _ _ _⟩
set_option maxHeartbeats 400000 in
theorem specRunR_limit (x : Int) (z : Nat) (hx : OkR x z) (a : Option Addr) (n cap : Nat) (w : World) (hl : 4000 < n) :
    Calls Try.prog 22 #[.int .u64 x, .int .i64 (z : Int), .slice a n cap] w fun e w' => e = .returned (.tuple #[.slice none 0 0, .int .i64 5]) ∧ Below w.heap.size w w' := by
  have hrun := l5Run_limit x z hx a n cap w hl
  go_enter Try.func22, Try.ntmps22
  go_wp2_with fail
  refine hrun.mono ?_
  rintro e w1 ⟨rfl, hb1⟩
  have hbw := hb1.alloc hb1.size (.cells #[.int .u64 0, .int .i64 0, .slice none 0 0, .int .i64 0, .int .u64 0, .bool false] 83)
  go_wp2_with fail
  exact bodyPost_ret (v := .tuple #[.slice none 0 0, .int .i64 5]) (by simp [results, Try.results22, go_sem]) rfl ⟨rfl, hbw⟩
set_option maxHeartbeats 400000 in
theorem specStateR_limit (x : Int) (z : Nat) (hx : OkR x z) (a : Option Addr) (n cap : Nat) (w : World) (hl : 4000 < n) :
    Calls Try.prog 35 #[.int .u64 x, .int .i64 (z : Int), .slice a n cap] w fun e w' => e = .returned (.tuple #[.agg zeroRV, .int .i64 5]) ∧ Below w.heap.size w w' := by
  have hR0 := heap_alloc_new w (.cells zeroRV 44)
  have hb0 : Below w.heap.size w (w.alloc (.cells zeroRV 44)) := (Below.refl _ _).alloc (Nat.le_refl _) _
  obtain ⟨V, hV⟩ : ∃ V, V = w.alloc (.cells zeroRV 44) := ⟨_, rfl⟩
  have hs : Hid (V.heap.size = w.heap.size + 1) := by rw [hV]; unfold Hid; simp
  rw [← hV] at hR0 hb0
  obtain ⟨R, hR⟩ : ∃ R, R = w.heap.size := ⟨_, rfl⟩
  rw [← hR] at hR0
  have hRw : w.heap.size ≤ R := by omega
  have hRV : R < V.heap.size := by have := hs.out; omega
  have hVw : w.heap.size ≤ V.heap.size := by omega
  have hrun := l5Run_limit x z hx a n cap V hl
  go_enter Try.func35, Try.ntmps35
  go_wp2_with fail
  rw [← hV, ← hR]
  clear hV hR
  refine hrun.mono ?_
  rintro e w1 ⟨rfl, hb1⟩
  have hR1 := (hb1.block R hRV).trans hR0
  have hs1 := hb1.size
  obtain ⟨W, hW⟩ : ∃ W, W = w1.alloc (.cells #[.int .u64 0, .int .i64 0, .slice none 0 0, .int .i64 0, .int .u64 0, .bool false] 83) := ⟨_, rfl⟩
  have hRW : W.heap[R]? = some (.cells zeroRV 44 (0, 0)) := by rw [hW]; exact (Below.heap_alloc _ _ _ (by omega)).trans hR1
  have hbW : Below w.heap.size w W := by
    have h9 := hb0.trans (hb1.mono hVw)
    rw [hW]
    exact h9.alloc h9.size _
  obtain ⟨⟨k0, k1, k2, k3, k4⟩, kf⟩ := cells5r hRW
  have kf0 := kf 0
  have kf1 := kf 1
  have kf2 := kf 2
  have kf3 := kf 3
  have kf4 := kf 4
  obtain ⟨⟨z0, z1, z2, z3, z4⟩, _⟩ := cells5r (set5r hRW (.int .u64 0) (.int .u64 0) (.slice none 0 0) (.int .i64 0) (.int .u64 0))
  go_upto_if 20 with fail
  rw [← hW]
  clear hW
  go_wp2_with fail
  exact bodyPost_ret (v := .tuple #[.agg zeroRV, .int .i64 5]) (by simp [results, Try.results35, go_sem, z0, z1, z2, z3, z4]) rfl ⟨rfl, fill5_below hbW hRw _ _ _ _ _⟩
set_option maxHeartbeats 400000 in
theorem specRunR_ok (x : Int) (x0 : 0 ≤ x) (z : Nat) (hx : OkR x z) (a : Option Addr) (es : Evs) (n cap : Nat) (w : World) (hn : es.length = n) (hl : n ≤ 4000) (hz : EvLie w w.heap.size a es) (hok : ∀ p ∈ es, EvOk p.1) :
    Calls Try.prog 22 #[.int .u64 x, .int .i64 (z : Int), .slice a n cap] w fun e w' => ∃ av cp G, e = .returned (.tuple #[.slice av n cp, .int .i64 0]) ∧ OutsR w' w.heap.size (.slice av n cp) G ∧ G.map (·.1) = outsR z (startR x) (es.map (·.1)) ∧ Below w.heap.size w w' := by
  have hrun := l5Run_ok x x0 z hx a es n cap w hn hl hz hok
  obtain ⟨s, hs⟩ : ∃ s, s = stateR z x (es.map (·.1)) := ⟨_, rfl⟩
  rw [← hs] at hrun
  unfold bufCells at hrun
  obtain ⟨r, hr⟩ : ∃ r, Hid (r = s.read - x) := ⟨_, rfl⟩
  obtain ⟨f, hf⟩ : ∃ r, Hid (r = decide (s.hf = 1)) := ⟨_, rfl⟩
  obtain ⟨q, hq⟩ : ∃ r, Hid (r = s.fin) := ⟨_, rfl⟩
  rw [← hr.out, ← hf.out, ← hq.out] at hrun
  clear hs hn
  go_enter Try.func22, Try.ntmps22
  go_wp2_with fail
  refine hrun.mono ?_
  rintro e w1 ⟨v, got, av, cp, G, rfl, hR⟩
  obtain ⟨va, vc, rfl⟩ := own_shape hR.row
  have hbw := hR.below.alloc hR.below.size (.cells #[.int .u64 x, .int .i64 (z : Int), .slice va got.length vc, .int .i64 r, .int .u64 q, .bool f] 83)
  go_wp2_with fail
  exact bodyPost_ret (v := .tuple #[.slice av n cp, .int .i64 0]) (by simp [results, Try.results22, go_sem]) rfl ⟨av, cp, G, rfl, hR.outs.stays fun k cs t _ _ hk => Below.heap_alloc _ _ _ (Array.getElem?_eq_some_iff.1 hk).1, hR.got, hbw⟩
set_option maxHeartbeats 1000000 in
theorem specStateR_ok (x : Int) (x0 : 0 ≤ x) (z : Nat) (hx : OkR x z) (a : Option Addr) (es : Evs) (n cap : Nat) (w : World) (hn : es.length = n) (hl : n ≤ 4000) (hz : EvLie w w.heap.size a es) (hok : ∀ p ∈ es, EvOk p.1) :
    Calls Try.prog 35 #[.int .u64 x, .int .i64 (z : Int), .slice a n cap] w fun e w' => ∃ av cp, e = .returned (.tuple #[.agg (viewV z (stateR z x (es.map (·.1))) av cp), .int .i64 0]) ∧ w'.ownsRow w.heap.size 31 2 (.slice av (heldR z (stateR z x (es.map (·.1)))).length cp) (heldR z (stateR z x (es.map (·.1)))).length (flat (heldR z (stateR z x (es.map (·.1))))) ∧ Below w.heap.size w w' := by
  have hR0 := heap_alloc_new w (.cells zeroRV 44)
  have hb0 : Below w.heap.size w (w.alloc (.cells zeroRV 44)) := (Below.refl _ _).alloc (Nat.le_refl _) _
  obtain ⟨V, hV⟩ : ∃ V, V = w.alloc (.cells zeroRV 44) := ⟨_, rfl⟩
  have hs : Hid (V.heap.size = w.heap.size + 1) := by rw [hV]; unfold Hid; simp
  rw [← hV] at hR0 hb0
  obtain ⟨R, hR⟩ : ∃ R, R = w.heap.size := ⟨_, rfl⟩
  rw [← hR] at hR0
  have hRw : w.heap.size ≤ R := by omega
  have hRV : R < V.heap.size := by have := hs.out; omega
  have hVw : w.heap.size ≤ V.heap.size := by omega
  have hrun := l5Run_ok x x0 z hx a es n cap V hn hl (EvLie.grow (hz.stays fun k hk => hb0.block k hk) hVw) hok
  have hff := stateR_fin z x (es.map (·.1))
  obtain ⟨s, hs'⟩ : ∃ s, s = stateR z x (es.map (·.1)) := ⟨_, rfl⟩
  rw [← hs'] at hrun hff ⊢
  have HFF : Hid _ := hff
  have HS : Hid (s = stateR z x (es.map (·.1))) := hs'
  clear hff hs' hn
  unfold bufCells at hrun
  obtain ⟨r, hr⟩ : ∃ r, Hid (r = s.read) := ⟨_, rfl⟩
  obtain ⟨rx, hrx⟩ : ∃ r, Hid (r = s.read - x) := ⟨_, rfl⟩
  obtain ⟨kb, hkb⟩ : ∃ r, Hid (r = decide (s.hf = 1)) := ⟨_, rfl⟩
  obtain ⟨f, hf⟩ : ∃ r, Hid (r = s.hf) := ⟨_, rfl⟩
  obtain ⟨q, hq⟩ : ∃ r, Hid (r = s.fin) := ⟨_, rfl⟩
  rw [← hrx.out, ← hkb.out, ← hq.out] at hrun
  obtain ⟨nx, hnx⟩ : ∃ x, Hid (x = r + (runLen s.f z r : Nat)) := ⟨_, rfl⟩
  obtain ⟨H, hH⟩ : ∃ x, Hid (x = heldR z s) := ⟨_, rfl⟩
  unfold viewV
  rw [← hr.out, ← hf.out, ← hq.out, ← hnx.out, ← hH.out]
  go_enter Try.func35, Try.ntmps35
  go_wp2_with fail
  rw [← hV, ← hR]
  clear hV hR
  refine hrun.mono ?_
  rintro e w1 ⟨v, got, av0, cp0, G, rfl, hA⟩
  obtain ⟨va, vc, rfl⟩ := own_shape hA.row
  have hb1 := hA.below
  have hR1 := (hb1.block R hRV).trans hR0
  have hs1 := hb1.size
  obtain ⟨B, hB⟩ : ∃ B, B = w1.heap.size := ⟨_, rfl⟩
  obtain ⟨W, hW⟩ : ∃ W, W = w1.alloc (.cells #[.int .u64 x, .int .i64 (z : Int), .slice va got.length vc, .int .i64 rx, .int .u64 q, .bool kb] 83) := ⟨_, rfl⟩
  have hBW : W.heap[B]? = some (.cells #[.int .u64 x, .int .i64 (z : Int), .slice va got.length vc, .int .i64 rx, .int .u64 q, .bool kb] 83 (0, 0)) := by rw [hW, hB]; exact heap_alloc_new _ _
  have hWs : Hid (W.heap.size = w1.heap.size + 1) := by rw [hW]; unfold Hid; simp
  have hW2 : ∀ k, k < w1.heap.size → W.heap[k]? = w1.heap[k]? := fun k hk => by rw [hW]; exact Below.heap_alloc _ _ _ hk
  have hRW : W.heap[R]? = some (.cells zeroRV 44 (0, 0)) := (hW2 R (by omega)).trans hR1
  have hbW : Below w.heap.size w W := by
    have h9 := hb0.trans (hb1.mono hVw)
    rw [hW]
    exact h9.alloc h9.size _
  have hbuf : SpB W B V.heap.size x z s (.slice va got.length vc) got := ⟨by rw [bufCells, ← hrx.out, ← hkb.out, ← hq.out]; exact hBW, row_stays hA.row fun k hk => hW2 k (hA.row.lt k hk).2, by rw [HS.out]; exact hA.at_⟩
  have hvw := l5View_any W B V.heap.size x z s _ got hbuf HFF.out
  unfold viewV at hvw
  rw [← hr.out, ← hf.out, ← hq.out, ← hnx.out, ← hH.out] at hvw
  have hRlt : R < W.heap.size := by have := hWs.out; omega
  clear hrun hA hbuf
  go_wp2_with fail
  rw [← hW, ← hB]
  clear hW hB
  refine hvw.mono ?_
  rintro e w3 ⟨av, cp, rfl, ho3, hb3⟩
  have hR3 := (hb3.block R hRlt).trans hRW
  have hbw3 := hbW.trans (hb3.mono hbW.size)
  obtain ⟨⟨k0, k1, k2, k3, k4⟩, kf⟩ := cells5r hR3
  have kf0 := kf 0
  have kf1 := kf 1
  have kf2 := kf 2
  have kf3 := kf 3
  have kf4 := kf 4
  obtain ⟨⟨z0, z1, z2, z3, z4⟩, _⟩ := cells5r (set5r hR3 (.int .u64 r) (.int .u64 nx) (.slice av H.length cp) (.int .i64 f) (.int .u64 q))
  have hWw := hbW.size
  go_wp2_with fail
  exact bodyPost_ret (v := .tuple #[.agg #[.int .u64 r, .int .u64 nx, .slice av H.length cp, .int .i64 f, .int .u64 q], .int .i64 0]) (by simp [results, Try.results35, go_sem, z0, z1, z2, z3, z4]) rfl ⟨av, cp, rfl, owned_base (row_stays ho3 fun k hk => fill5_other w3 (by have := (ho3.lt k hk).1; omega) _ _ _ _ _) hWw, fill5_below hbw3 hRw _ _ _ _ _⟩
end Go.Proofs.Ytpeecjoadgefjaa

namespace Go.Proofs.Ytpeecjoadgefjaa
open Go.ChangeShapes Go.WideShapes Go.ChangeAt Go.RowKit
set_option linter.unusedVariables false

theorem Ints.movedB {k : IntKind} {w w' : World} {a : Option Addr} {zs : List Int} (h : Ints k w a zs) (hb : Below w.heap.size w w') : Ints k w' a zs := h.moved hb
set_option maxHeartbeats 1000000 in
theorem eqReorderEvent_same (kd off n : Int) (a a' : Option Addr) (ys : List Int) (dl cap cap' : Nat) (w : World) (hz : Ints .u8 w a ys) (hz' : Ints .u8 w a' ys) (hn : ys.length = dl) (hl : dl ≤ 1048576) :
    Calls Try.prog 59 #[.agg #[.int .i64 kd, .int .u64 off, .slice a dl cap, .int .i64 n], .agg #[.int .i64 kd, .int .u64 off, .slice a' dl cap', .int .i64 n]] w fun e w' => e = .returned (.bool true) ∧ Below w.heap.size w w' := by
  subst hn
  have hb0 : Below w.heap.size w ((w.alloc (.cells #[.int .i64 kd, .int .u64 off, .slice a ys.length cap, .int .i64 n] 48)).alloc (.cells #[.int .i64 kd, .int .u64 off, .slice a' ys.length cap', .int .i64 n] 48)) := ((Below.refl _ _).alloc (Nat.le_refl _) _).alloc (by simp) _
  have hzW := hz.moved hb0
  have hzW' := hz'.moved hb0
  obtain ⟨W, hW⟩ : ∃ W, W = ((w.alloc (.cells #[.int .i64 kd, .int .u64 off, .slice a ys.length cap, .int .i64 n] 48)).alloc (.cells #[.int .i64 kd, .int .u64 off, .slice a' ys.length cap', .int .i64 n] 48)) := ⟨_, rfl⟩
  have hE1 : W.heap[w.heap.size]? = some (.cells #[.int .i64 kd, .int .u64 off, .slice a ys.length cap, .int .i64 n] 48) := by rw [hW]; exact (Below.heap_alloc _ _ _ (by simp)).trans (box_new _ _ _ rfl)
  have hE2 : W.heap[w.heap.size + 1]? = some (.cells #[.int .i64 kd, .int .u64 off, .slice a' ys.length cap', .int .i64 n] 48) := by rw [hW]; exact box_new _ _ _ (by simp)
  have hs : W.heap.size = w.heap.size + 2 := by rw [hW]; simp
  rw [← hW] at hb0 hzW hzW'
  obtain ⟨E, hEe⟩ : ∃ E, E = w.heap.size := ⟨_, rfl⟩
  obtain ⟨F, hFe⟩ : ∃ E, E = w.heap.size + 1 := ⟨_, rfl⟩
  rw [← hEe] at hE1
  rw [← hFe] at hE2
  have hEl : E < W.heap.size := by omega
  have hFl : F < W.heap.size := by omega
  obtain ⟨⟨e0, e1, e2, e3⟩, _⟩ := cells4r hE1
  obtain ⟨⟨f0, f1, f2, f3⟩, _⟩ := cells4r hE2
  have hcall := eqByteS_same a a' ys cap cap' W hzW hzW' hl
  obtain ⟨dl, hdl⟩ : ∃ dl, Hid (dl = ys.length) := ⟨_, rfl⟩
  rw [← hdl.out] at hcall hE1 hE2 e2 f2 ⊢
  rw [← hdl.out] at hW
  clear hz hz' hzW hzW' hs
  go_enter Try.func59, Try.ntmps59
  go_upto_region 1 with fail
  rw [← hW, ← hFe, ← hEe]
  clear hW hFe hEe
  go_wp2_with fail
  refine hcall.mono ?_
  rintro e w1 ⟨rfl, hb1⟩
  obtain ⟨⟨g0, g1, g2, g3⟩, _⟩ := cells4r ((hb1.block E hEl).trans hE1)
  obtain ⟨⟨h0, h1, h2, h3⟩, _⟩ := cells4r ((hb1.block F hFl).trans hE2)
  have hB := hb0.trans (hb1.mono hb0.size)
  clear hcall
  go_wp2_with fail
  go_ret
  exact ⟨rfl, hB⟩
set_option maxHeartbeats 1000000 in
theorem eqReorderOut_same (c n : Int) (a a' : Option Addr) (ys : List Int) (dl cap cap' : Nat) (w : World) (hz : Ints .u8 w a ys) (hz' : Ints .u8 w a' ys) (hn : ys.length = dl) (hl : dl ≤ 1048576) :
    Calls Try.prog 58 #[.agg #[.int .i64 c, .int .i64 n, .slice a dl cap], .agg #[.int .i64 c, .int .i64 n, .slice a' dl cap']] w fun e w' => e = .returned (.bool true) ∧ Below w.heap.size w w' := by
  subst hn
  have hb0 : Below w.heap.size w ((w.alloc (.cells #[.int .i64 c, .int .i64 n, .slice a ys.length cap] 50)).alloc (.cells #[.int .i64 c, .int .i64 n, .slice a' ys.length cap'] 50)) := ((Below.refl _ _).alloc (Nat.le_refl _) _).alloc (by simp) _
  have hzW := hz.moved hb0
  have hzW' := hz'.moved hb0
  have hcall := eqByteS_same a a' ys cap cap' _ hzW hzW' hl
  obtain ⟨dl, hdl⟩ : ∃ dl, Hid (dl = ys.length) := ⟨_, rfl⟩
  rw [← hdl.out] at hcall hb0 ⊢
  clear hz hz' hzW hzW'
  go_enter Try.func58, Try.ntmps58
  go_wp2_with fail
  refine hcall.mono ?_
  rintro e w1 ⟨rfl, hb1⟩
  have hB := hb0.trans (hb1.mono hb0.size)
  clear hcall
  go_wp2_with fail
  go_ret
  exact ⟨rfl, hB⟩
set_option maxHeartbeats 1000000 in
set_option maxRecDepth 100000 in
theorem eqReorderEventS_same (es es' : Evs) (a a' : Option Addr) (n cap cap' : Nat) (w : World) (hn : es.length = n) (hG : es.map (·.1) = es'.map (·.1)) (h1 : EvIn w a es) (h2 : EvIn w a' es') (hl : n ≤ 1048576) (hd : ∀ p ∈ es, p.1.dat.length ≤ 1048576) :
    Calls Try.prog 31 #[.slice a n cap, .slice a' n cap'] w fun e w' => e = .returned (.bool true) ∧ Below w.heap.size w w' := by
  have hn' : es'.length = n := by
    have e := congrArg List.length hG
    simp only [List.length_map] at e
    omega
  have HN : Hid (es.length = n) := hn
  have HN2 : Hid (es'.length = n) := hn'
  have HG : Hid (es.map (·.1) = es'.map (·.1)) := hG
  clear hn hn' hG
  go_enter Try.func31, Try.ntmps31
  go_wp2_with fail
  go_loopw [5] (fun i wr => ∃ k : Nat, k ≤ n ∧ i = .int .i64 (k : Int) ∧ Below w.heap.size w wr) (fun i _ => n - (intOf i).toNat)
  case atStart => exact ⟨0, Nat.zero_le _, rfl, Below.refl _ _⟩
  case round =>
  obtain ⟨k, hk, rfl, hb⟩ := hrel
  by_cases hlt : k < n
  · have hk1 : k < es.length := by have := HN.out; omega
    have hk2 : k < es'.length := by have := HN2.out; omega
    rcases h1.at_ with h | ⟨b, off, rfl, hc⟩
    · rw [h] at hk1; simp at hk1
    rcases h2.at_ with h | ⟨b', off', rfl, hc'⟩
    · rw [h] at hk2; simp at hk2
    obtain ⟨c1, c2, c3, c4⟩ := hc k hk1
    obtain ⟨t1, t2, t3, t4⟩ := hc' k hk2
    have hm := List.getElem_mem hk1
    have hm' := List.getElem_mem hk2
    have hdk := hd _ hm
    have hi1 := (h1.dat _ hm).moved hb
    have hi2 := (h2.dat _ hm').moved hb
    have heq : (es[k]).1 = (es'[k]).1 := by
      have e1 : (es.map (·.1))[k]? = some (es[k]).1 := by rw [List.getElem?_map, List.getElem?_eq_getElem hk1]; rfl
      have e2 : (es'.map (·.1))[k]? = some (es'[k]).1 := by rw [List.getElem?_map, List.getElem?_eq_getElem hk2]; rfl
      rw [HG.out, e2] at e1
      exact (Option.some.inj e1).symm
    rw [← heq] at t1 t2 t3 t4 hi2
    obtain ⟨⟨⟨kd, o, dat, nn⟩, da, dc⟩, he⟩ : ∃ p, es[k] = p := ⟨_, rfl⟩
    obtain ⟨⟨da', dc'⟩, he'⟩ : ∃ p, (es'[k]).2 = p := ⟨_, rfl⟩
    rw [he] at c1 c2 c3 c4 t1 t2 t3 t4 hdk hi1 hi2
    rw [he'] at t3 hi2
    simp only at c1 c2 c3 c4 t1 t2 t3 t4 hdk hi1 hi2
    have lb := World.block_lt_of_cell? w _ c1
    have lb' := World.block_lt_of_cell? w _ t1
    have r1 := (hb.cell (p := ⟨b, off + k * 4, none⟩) lb).trans c1
    have r2 := (hb.cell (p := ⟨b, off + k * 4 + 1, none⟩) lb).trans c2
    have r3 := (hb.cell (p := ⟨b, off + k * 4 + 2, none⟩) lb).trans c3
    have r4 := (hb.cell (p := ⟨b, off + k * 4 + 3, none⟩) lb).trans c4
    have s1 := (hb.cell (p := ⟨b', off' + k * 4, none⟩) lb').trans t1
    have s2 := (hb.cell (p := ⟨b', off' + k * 4 + 1, none⟩) lb').trans t2
    have s3 := (hb.cell (p := ⟨b', off' + k * 4 + 2, none⟩) lb').trans t3
    have s4 := (hb.cell (p := ⟨b', off' + k * 4 + 3, none⟩) lb').trans t4
    obtain ⟨dl, hdl⟩ : ∃ dl, Hid (dl = dat.length) := ⟨_, rfl⟩
    rw [← hdl.out] at r3 s3 hdk
    have hcl := fun (W : World) (hW : Below wr.heap.size wr W) => eqReorderEvent_same kd o nn da da' dat dl dc dc' W (hi1.moved hW) (hi2.moved hW) hdl.out.symm hdk
    have hclA := hcl wr (Below.refl _ _)
    have hclB := hcl wr.drew (Below.refl _ _).drew
    clear hcl c1 c2 c3 c4 t1 t2 t3 t4 hm hm' heq he he' hi1 hi2 hc hc' h1 h2 hd
    go_wp2_with fail
    go_region_with (go_at_call 59; with_reducible (first | refine Calls.mono hclB ?_ | refine Calls.mono hclA ?_); rintro e w2 ⟨rfl, hb2⟩)
    all_goals
      have hb3 := hb.drew.trans (hb2.mono hb.size)
      clear hb hb2
      go_wp2_with fail
      go_roundw
      case rel => exact ⟨k + 1, by omega, by go_num, by first | exact hb3 | exact hb3.drew⟩
      case measure => simp [intOf]; omega
  · have hkk : ¬ (k : Int) < (n : Int) := by omega
    go_wp2_with fail
    go_ret
    exact ⟨rfl, hb⟩
/-- One answer of a row. -/
theorem OutsR.at {w : World} {base : Nat} {a : Option Addr} {n cap : Nat} {G : GotO} (h : OutsR w base (.slice a n cap) G) (hn : G.length = n) {k : Nat} (hk : k < G.length) : ∃ g, a = some ⟨g, 0, none⟩ ∧ base ≤ g ∧ g < w.heap.size ∧ w.cell? ⟨g, k * 3, none⟩ = some (.int .i64 (G[k]).1.code) ∧ w.cell? ⟨g, k * 3 + 1, none⟩ = some (.int .i64 (G[k]).1.n) ∧ w.cell? ⟨g, k * 3 + 2, none⟩ = some (G[k]).2 ∧ (∀ j, w.frozen? ⟨g, j, none⟩ = false) := by
  subst hn
  rcases h.row.2 with ⟨e, h0⟩ | ⟨g, cp', cur, e, hb, hg, _⟩
  · omega
  · simp only [Value.slice.injEq] at e
    obtain ⟨rfl, _, rfl⟩ := e
    obtain ⟨f0, f1, f2⟩ := flatO_at hk
    exact ⟨g, rfl, hb, (h.row.lt g rfl).2, by rw [h.row.cellAt _ (by omega)]; exact f0, by rw [h.row.cellAt _ (by omega)]; exact f1, by rw [h.row.cellAt _ (by omega)]; exact f2, fun j => h.row.frozenAt j⟩
set_option maxHeartbeats 1000000 in
set_option maxRecDepth 100000 in
theorem eqReorderOutS_same (G G' : GotO) (b1 b2 : Nat) (a a' : Option Addr) (n cap cap' : Nat) (w : World) (hn : G.length = n) (hG : G.map (·.1) = G'.map (·.1)) (h1 : OutsR w b1 (.slice a n cap) G) (h2 : OutsR w b2 (.slice a' n cap') G') (hl : n ≤ 1048576) (hd : ∀ p ∈ G, p.1.dat.length ≤ 1048576) :
    Calls Try.prog 30 #[.slice a n cap, .slice a' n cap'] w fun e w' => e = .returned (.bool true) ∧ Below w.heap.size w w' := by
  have hn' : G'.length = n := by
    have e := congrArg List.length hG
    simp only [List.length_map] at e
    omega
  have HN : Hid (G.length = n) := hn
  have HN2 : Hid (G'.length = n) := hn'
  have HG : Hid (G.map (·.1) = G'.map (·.1)) := hG
  clear hn hn' hG
  go_enter Try.func30, Try.ntmps30
  go_wp2_with fail
  go_loopw [5] (fun i wr => ∃ k : Nat, k ≤ n ∧ i = .int .i64 (k : Int) ∧ Below w.heap.size w wr) (fun i _ => n - (intOf i).toNat)
  case atStart => exact ⟨0, Nat.zero_le _, rfl, Below.refl _ _⟩
  case round =>
  obtain ⟨k, hk, rfl, hb⟩ := hrel
  by_cases hlt : k < n
  · have hk1 : k < G.length := by have := HN.out; omega
    have hk2 : k < G'.length := by have := HN2.out; omega
    obtain ⟨g, rfl, _, lg, c0, c1, c2, _⟩ := h1.at HN.out hk1
    obtain ⟨g', rfl, _, lg', t0, t1, t2, _⟩ := h2.at HN2.out hk2
    have hm := List.getElem_mem hk1
    have hm' := List.getElem_mem hk2
    have hdk := hd _ hm
    have hr1 := h1.dat _ hm
    have hr2 := h2.dat _ hm'
    have heq : (G[k]).1 = (G'[k]).1 := by
      have e1 : (G.map (·.1))[k]? = some (G[k]).1 := by rw [List.getElem?_map, List.getElem?_eq_getElem hk1]; rfl
      have e2 : (G'.map (·.1))[k]? = some (G'[k]).1 := by rw [List.getElem?_map, List.getElem?_eq_getElem hk2]; rfl
      rw [HG.out, e2] at e1
      exact (Option.some.inj e1).symm
    rw [← heq] at t0 t1 hr2
    obtain ⟨⟨⟨cd, nn, dat⟩, dv⟩, he⟩ : ∃ p, G[k] = p := ⟨_, rfl⟩
    obtain ⟨dv', he'⟩ : ∃ p, (G'[k]).2 = p := ⟨_, rfl⟩
    rw [he] at c0 c1 c2 t0 t1 hdk hr1 hr2
    rw [he'] at t2 hr2
    simp only at c0 c1 c2 t0 t1 t2 hdk hr1 hr2
    obtain ⟨da, dc, rfl⟩ := own_shape hr1
    obtain ⟨da', dc', rfl⟩ := own_shape hr2
    have hi1 := (Ints.ofRow hr1).moved hb
    have hi2 := (Ints.ofRow hr2).moved hb
    have r0 := (hb.cell (p := ⟨g, k * 3, none⟩) lg).trans c0
    have r1 := (hb.cell (p := ⟨g, k * 3 + 1, none⟩) lg).trans c1
    have r2 := (hb.cell (p := ⟨g, k * 3 + 2, none⟩) lg).trans c2
    have s0 := (hb.cell (p := ⟨g', k * 3, none⟩) lg').trans t0
    have s1 := (hb.cell (p := ⟨g', k * 3 + 1, none⟩) lg').trans t1
    have s2 := (hb.cell (p := ⟨g', k * 3 + 2, none⟩) lg').trans t2
    obtain ⟨dl, hdl⟩ : ∃ dl, Hid (dl = dat.length) := ⟨_, rfl⟩
    rw [← hdl.out] at r2 s2 hdk
    have hcl := fun (W : World) (hW : Below wr.heap.size wr W) => eqReorderOut_same cd nn da da' dat dl dc dc' W (hi1.moved hW) (hi2.moved hW) hdl.out.symm hdk
    have hclA := hcl wr (Below.refl _ _)
    have hclB := hcl wr.drew (Below.refl _ _).drew
    clear hcl c0 c1 c2 t0 t1 t2 hm hm' heq he he' hi1 hi2 hr1 hr2 h1 h2 hd
    go_wp2_with fail
    go_region_with (go_at_call 58; with_reducible (first | refine Calls.mono hclB ?_ | refine Calls.mono hclA ?_); rintro e w2 ⟨rfl, hb2⟩)
    all_goals
      have hb3 := hb.drew.trans (hb2.mono hb.size)
      clear hb hb2
      go_wp2_with fail
      go_roundw
      case rel => exact ⟨k + 1, by omega, by go_num, by first | exact hb3 | exact hb3.drew⟩
      case measure => simp [intOf]; omega
  · have hkk : ¬ (k : Int) < (n : Int) := by omega
    go_wp2_with fail
    go_ret
    exact ⟨rfl, hb⟩
end Go.Proofs.Ytpeecjoadgefjaa
