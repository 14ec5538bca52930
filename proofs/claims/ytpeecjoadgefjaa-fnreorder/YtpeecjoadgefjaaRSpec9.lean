import Derived.Test.YtpeecjoadgefjaaRSpec8
namespace Go.Proofs.Ytpeecjoadgefjaa
open Go.ChangeShapes Go.WideShapes Go.ChangeAt Go.RowKit
set_option linter.unusedVariables false

theorem stepR_fin (z : Nat) (s : RB) (e : REv) (h : s.hf = 0 → s.fin = 0) : (stepR z s e).2.hf = 0 → (stepR z s e).2.fin = 0 := by
  unfold stepR
  split
  · unfold putR
    split
    · exact h
    · split
      · exact h
      · split <;> exact h
  · split
    · unfold takeR
      split <;> exact h
    · split
      · unfold endR
        split
        · exact h
        · split
          · exact h
          · split
            · exact h
            · intro h1; simp at h1
      · exact h
theorem stateR_fin (z : Nat) (x : Int) (es : List REv) : (stateR z x es).hf = 0 → (stateR z x es).fin = 0 := by
  have gen : ∀ (es : List REv) (s : RB), (s.hf = 0 → s.fin = 0) → ((es.foldl (fun s e => (stepR z s e).2) s).hf = 0 → (es.foldl (fun s e => (stepR z s e).2) s).fin = 0) := by
    intro es
    induction es with
    | nil => intro s h; exact h
    | cons e r ih => intro s h; exact ih _ (stepR_fin z s e h)
  exact gen es (startR x) (fun _ => rfl)

set_option maxHeartbeats 400000 in
theorem specRunR_bad (x z : Int) (hno : ¬ OkR x z) (a : Option Addr) (n cap : Nat) (w : World) :
    Calls Try.prog 22 #[.int .u64 x, .int .i64 z, .slice a n cap] w fun e w' => e = .returned (.tuple #[.slice none 0 0, .int .i64 17]) ∧ Below w.heap.size w w' := by
  have hrun := l5Run_bad x z hno a n cap w
  go_enter Try.func22, Try.ntmps22
  go_wp2_with fail
  refine hrun.mono ?_
  rintro e w1 ⟨rfl, hb1⟩
  have hbw := hb1.alloc hb1.size (.cells #[.int .u64 0, .int .i64 0, .slice none 0 0, .int .i64 0, .int .u64 0, .bool false] 83)
  go_wp2_with fail
  exact bodyPost_ret (v := .tuple #[.slice none 0 0, .int .i64 17]) (by simp [results, Try.results22, go_sem]) rfl ⟨rfl, hbw⟩
set_option maxHeartbeats 400000 in
theorem specStateR_bad (x z : Int) (hno : ¬ OkR x z) (a : Option Addr) (n cap : Nat) (w : World) :
    Calls Try.prog 35 #[.int .u64 x, .int .i64 z, .slice a n cap] w fun e w' => e = .returned (.tuple #[.agg zeroRV, .int .i64 17]) ∧ Below w.heap.size w w' := by
  have hR0 := heap_alloc_new w (.cells zeroRV 44)
  have hb0 : Below w.heap.size w (w.alloc (.cells zeroRV 44)) := (Below.refl _ _).alloc (Nat.le_refl _) _
  obtain ⟨V, hV⟩ : ∃ V, V = w.alloc (.cells zeroRV 44) := ⟨_, rfl⟩
  have hs : Hid (V.heap.size = w.heap.size + 1) := by rw [hV]; unfold Hid; simp
  rw [← hV] at hR0 hb0
  obtain ⟨R, hR⟩ : ∃ R, R = w.heap.size := ⟨_, rfl⟩
  rw [← hR] at hR0
  have hRw : w.heap.size ≤ R := by omega
  have hRV : R < V.heap.size := by have := hs.out; omega
  have hVw : w.heap.size ≤ V.heap.size := by omega
  have hrun := l5Run_bad x z hno a n cap V
  go_enter Try.func35, Try.ntmps35
  go_wp2_with fail
  rw [← hV, ← hR]
  clear hV hR
  refine hrun.mono ?_
  rintro e w1 ⟨rfl, hb1⟩
  have hR1 := (hb1.block R hRV).trans hR0
  have hs1 := hb1.size
  obtain ⟨W, hW⟩ : ∃ W, W = w1.alloc (.cells #[.int .u64 0, .int .i64 0, .slice none 0 0, .int .i64 0, .int .u64 0, .bool false] 83) := ⟨_, rfl⟩
  have hRW : W.heap[R]? = some (.cells zeroRV 44 (0, 0)) := by rw [hW]; exact (Below.heap_alloc _ _ _ (by omega)).trans hR1
  have hbW : Below w.heap.size w W := by
    have h9 := hb0.trans (hb1.mono hVw)
    rw [hW]
    exact h9.alloc h9.size _
  obtain ⟨⟨k0, k1, k2, k3, k4⟩, kf⟩ := cells5r hRW
  have kf0 := kf 0
  have kf1 := kf 1
  have kf2 := kf 2
  have kf3 := kf 3
  have kf4 := kf 4
  obtain ⟨⟨z0, z1, z2, z3, z4⟩, _⟩ := cells5r (set5r hRW (.int .u64 0) (.int .u64 0) (.slice none 0 0) (.int .i64 0) (.int .u64 0))
  go_upto_if 20 with fail
  rw [← hW]
  clear hW
  go_wp2_with fail
  exact bodyPost_ret (v := .tuple #[.agg zeroRV, .int .i64 17]) (by simp [results, Try.results35, go_sem, z0, z1, z2, z3, z4]) rfl ⟨rfl, fill5_below hbW hRw _ _ _ _ _⟩
set_option maxHeartbeats 400000 in
theorem specRunR_limit (x : Int) (z : Nat) (hx : OkR x z) (a : Option Addr) (n cap : Nat) (w : World) (hl : 4000 < n) :
    Calls Try.prog 22 #[.int .u64 x, .int .i64 (z : Int), .slice a n cap] w fun e w' => e = .returned (.tuple #[.slice none 0 0, .int .i64 5]) ∧ Below w.heap.size w w' := by
  have hrun := l5Run_limit x z hx a n cap w hl
  go_enter Try.func22, Try.ntmps22
  go_wp2_with fail
  refine hrun.mono ?_
  rintro e w1 ⟨rfl, hb1⟩
  have hbw := hb1.alloc hb1.size (.cells #[.int .u64 0, .int .i64 0, .slice none 0 0, .int .i64 0, .int .u64 0, .bool false] 83)
  go_wp2_with fail
  exact bodyPost_ret (v := .tuple #[.slice none 0 0, .int .i64 5]) (by simp [results, Try.results22, go_sem]) rfl ⟨rfl, hbw⟩
set_option maxHeartbeats 400000 in
theorem specStateR_limit (x : Int) (z : Nat) (hx : OkR x z) (a : Option Addr) (n cap : Nat) (w : World) (hl : 4000 < n) :
    Calls Try.prog 35 #[.int .u64 x, .int .i64 (z : Int), .slice a n cap] w fun e w' => e = .returned (.tuple #[.agg zeroRV, .int .i64 5]) ∧ Below w.heap.size w w' := by
  have hR0 := heap_alloc_new w (.cells zeroRV 44)
  have hb0 : Below w.heap.size w (w.alloc (.cells zeroRV 44)) := (Below.refl _ _).alloc (Nat.le_refl _) _
  obtain ⟨V, hV⟩ : ∃ V, V = w.alloc (.cells zeroRV 44) := ⟨_, rfl⟩
  have hs : Hid (V.heap.size = w.heap.size + 1) := by rw [hV]; unfold Hid; simp
  rw [← hV] at hR0 hb0
  obtain ⟨R, hR⟩ : ∃ R, R = w.heap.size := ⟨_, rfl⟩
  rw [← hR] at hR0
  have hRw : w.heap.size ≤ R := by omega
  have hRV : R < V.heap.size := by have := hs.out; omega
  have hVw : w.heap.size ≤ V.heap.size := by omega
  have hrun := l5Run_limit x z hx a n cap V hl
  go_enter Try.func35, Try.ntmps35
  go_wp2_with fail
  rw [← hV, ← hR]
  clear hV hR
  refine hrun.mono ?_
  rintro e w1 ⟨rfl, hb1⟩
  have hR1 := (hb1.block R hRV).trans hR0
  have hs1 := hb1.size
  obtain ⟨W, hW⟩ : ∃ W, W = w1.alloc (.cells #[.int .u64 0, .int .i64 0, .slice none 0 0, .int .i64 0, .int .u64 0, .bool false] 83) := ⟨_, rfl⟩
  have hRW : W.heap[R]? = some (.cells zeroRV 44 (0, 0)) := by rw [hW]; exact (Below.heap_alloc _ _ _ (by omega)).trans hR1
  have hbW : Below w.heap.size w W := by
    have h9 := hb0.trans (hb1.mono hVw)
    rw [hW]
    exact h9.alloc h9.size _
  obtain ⟨⟨k0, k1, k2, k3, k4⟩, kf⟩ := cells5r hRW
  have kf0 := kf 0
  have kf1 := kf 1
  have kf2 := kf 2
  have kf3 := kf 3
  have kf4 := kf 4
  obtain ⟨⟨z0, z1, z2, z3, z4⟩, _⟩ := cells5r (set5r hRW (.int .u64 0) (.int .u64 0) (.slice none 0 0) (.int .i64 0) (.int .u64 0))
  go_upto_if 20 with fail
  rw [← hW]
  clear hW
  go_wp2_with fail
  exact bodyPost_ret (v := .tuple #[.agg zeroRV, .int .i64 5]) (by simp [results, Try.results35, go_sem, z0, z1, z2, z3, z4]) rfl ⟨rfl, fill5_below hbW hRw _ _ _ _ _⟩
set_option maxHeartbeats 400000 in
theorem specRunR_ok (x : Int) (x0 : 0 ≤ x) (z : Nat) (hx : OkR x z) (a : Option Addr) (es : Evs) (n cap : Nat) (w : World) (hn : es.length = n) (hl : n ≤ 4000) (hz : EvLie w w.heap.size a es) (hok : ∀ p ∈ es, EvOk p.1) :
    Calls Try.prog 22 #[.int .u64 x, .int .i64 (z : Int), .slice a n cap] w fun e w' => ∃ av cp G, e = .returned (.tuple #[.slice av n cp, .int .i64 0]) ∧ OutsR w' w.heap.size (.slice av n cp) G ∧ G.map (·.1) = outsR z (startR x) (es.map (·.1)) ∧ Below w.heap.size w w' := by
  have hrun := l5Run_ok x x0 z hx a es n cap w hn hl hz hok
  obtain ⟨s, hs⟩ : ∃ s, s = stateR z x (es.map (·.1)) := ⟨_, rfl⟩
  rw [← hs] at hrun
  unfold bufCells at hrun
  obtain ⟨r, hr⟩ : ∃ r, Hid (r = s.read - x) := ⟨_, rfl⟩
  obtain ⟨f, hf⟩ : ∃ r, Hid (r = decide (s.hf = 1)) := ⟨_, rfl⟩
  obtain ⟨q, hq⟩ : ∃ r, Hid (r = s.fin) := ⟨_, rfl⟩
  rw [← hr.out, ← hf.out, ← hq.out] at hrun
  clear hs hn
  go_enter Try.func22, Try.ntmps22
  go_wp2_with fail
  refine hrun.mono ?_
  rintro e w1 ⟨v, got, av, cp, G, rfl, hR⟩
  obtain ⟨va, vc, rfl⟩ := own_shape hR.row
  have hbw := hR.below.alloc hR.below.size (.cells #[.int .u64 x, .int .i64 (z : Int), .slice va got.length vc, .int .i64 r, .int .u64 q, .bool f] 83)
  go_wp2_with fail
  exact bodyPost_ret (v := .tuple #[.slice av n cp, .int .i64 0]) (by simp [results, Try.results22, go_sem]) rfl ⟨av, cp, G, rfl, hR.outs.stays fun k cs t _ _ hk => Below.heap_alloc _ _ _ (Array.getElem?_eq_some_iff.1 hk).1, hR.got, hbw⟩
set_option maxHeartbeats 1000000 in
theorem specStateR_ok (x : Int) (x0 : 0 ≤ x) (z : Nat) (hx : OkR x z) (a : Option Addr) (es : Evs) (n cap : Nat) (w : World) (hn : es.length = n) (hl : n ≤ 4000) (hz : EvLie w w.heap.size a es) (hok : ∀ p ∈ es, EvOk p.1) :
    Calls Try.prog 35 #[.int .u64 x, .int .i64 (z : Int), .slice a n cap] w fun e w' => ∃ av cp, e = .returned (.tuple #[.agg (viewV z (stateR z x (es.map (·.1))) av cp), .int .i64 0]) ∧ w'.ownsRow w.heap.size 31 2 (.slice av (heldR z (stateR z x (es.map (·.1)))).length cp) (heldR z (stateR z x (es.map (·.1)))).length (flat (heldR z (stateR z x (es.map (·.1))))) ∧ Below w.heap.size w w' := by
  have hR0 := heap_alloc_new w (.cells zeroRV 44)
  have hb0 : Below w.heap.size w (w.alloc (.cells zeroRV 44)) := (Below.refl _ _).alloc (Nat.le_refl _) _
  obtain ⟨V, hV⟩ : ∃ V, V = w.alloc (.cells zeroRV 44) := ⟨_, rfl⟩
  have hs : Hid (V.heap.size = w.heap.size + 1) := by rw [hV]; unfold Hid; simp
  rw [← hV] at hR0 hb0
  obtain ⟨R, hR⟩ : ∃ R, R = w.heap.size := ⟨_, rfl⟩
  rw [← hR] at hR0
  have hRw : w.heap.size ≤ R := by omega
  have hRV : R < V.heap.size := by have := hs.out; omega
  have hVw : w.heap.size ≤ V.heap.size := by omega
  have hrun := l5Run_ok x x0 z hx a es n cap V hn hl (EvLie.grow (hz.stays fun k hk => hb0.block k hk) hVw) hok
  have hff := stateR_fin z x (es.map (·.1))
  obtain ⟨s, hs'⟩ : ∃ s, s = stateR z x (es.map (·.1)) := ⟨_, rfl⟩
  rw [← hs'] at hrun hff ⊢
  have HFF : Hid _ := hff
  have HS : Hid (s = stateR z x (es.map (·.1))) := hs'
  clear hff hs' hn
  unfold bufCells at hrun
  obtain ⟨r, hr⟩ : ∃ r, Hid (r = s.read) := ⟨_, rfl⟩
  obtain ⟨rx, hrx⟩ : ∃ r, Hid (r = s.read - x) := ⟨_, rfl⟩
  obtain ⟨kb, hkb⟩ : ∃ r, Hid (r = decide (s.hf = 1)) := ⟨_, rfl⟩
  obtain ⟨f, hf⟩ : ∃ r, Hid (r = s.hf) := ⟨_, rfl⟩
  obtain ⟨q, hq⟩ : ∃ r, Hid (r = s.fin) := ⟨_, rfl⟩
  rw [← hrx.out, ← hkb.out, ← hq.out] at hrun
  obtain ⟨nx, hnx⟩ : ∃ x, Hid (x = r + (runLen s.f z r : Nat)) := ⟨_, rfl⟩
  obtain ⟨H, hH⟩ : ∃ x, Hid (x = heldR z s) := ⟨_, rfl⟩
  unfold viewV
  rw [← hr.out, ← hf.out, ← hq.out, ← hnx.out, ← hH.out]
  go_enter Try.func35, Try.ntmps35
  go_wp2_with fail
  rw [← hV, ← hR]
  clear hV hR
  refine hrun.mono ?_
  rintro e w1 ⟨v, got, av0, cp0, G, rfl, hA⟩
  obtain ⟨va, vc, rfl⟩ := own_shape hA.row
  have hb1 := hA.below
  have hR1 := (hb1.block R hRV).trans hR0
  have hs1 := hb1.size
  obtain ⟨B, hB⟩ : ∃ B, B = w1.heap.size := ⟨_, rfl⟩
  obtain ⟨W, hW⟩ : ∃ W, W = w1.alloc (.cells #[.int .u64 x, .int .i64 (z : Int), .slice va got.length vc, .int .i64 rx, .int .u64 q, .bool kb] 83) := ⟨_, rfl⟩
  have hBW : W.heap[B]? = some (.cells #[.int .u64 x, .int .i64 (z : Int), .slice va got.length vc, .int .i64 rx, .int .u64 q, .bool kb] 83 (0, 0)) := by rw [hW, hB]; exact heap_alloc_new _ _
  have hWs : Hid (W.heap.size = w1.heap.size + 1) := by rw [hW]; unfold Hid; simp
  have hW2 : ∀ k, k < w1.heap.size → W.heap[k]? = w1.heap[k]? := fun k hk => by rw [hW]; exact Below.heap_alloc _ _ _ hk
  have hRW : W.heap[R]? = some (.cells zeroRV 44 (0, 0)) := (hW2 R (by omega)).trans hR1
  have hbW : Below w.heap.size w W := by
    have h9 := hb0.trans (hb1.mono hVw)
    rw [hW]
    exact h9.alloc h9.size _
  have hbuf : SpB W B V.heap.size x z s (.slice va got.length vc) got := ⟨by rw [bufCells, ← hrx.out, ← hkb.out, ← hq.out]; exact hBW, row_stays hA.row fun k hk => hW2 k (hA.row.lt k hk).2, by rw [HS.out]; exact hA.at_⟩
  have hvw := l5View_any W B V.heap.size x z s _ got hbuf HFF.out
  unfold viewV at hvw
  rw [← hr.out, ← hf.out, ← hq.out, ← hnx.out, ← hH.out] at hvw
  have hRlt : R < W.heap.size := by have := hWs.out; omega
  clear hrun hA hbuf
  go_wp2_with fail
  rw [← hW, ← hB]
  clear hW hB
  refine hvw.mono ?_
  rintro e w3 ⟨av, cp, rfl, ho3, hb3⟩
  have hR3 := (hb3.block R hRlt).trans hRW
  have hbw3 := hbW.trans (hb3.mono hbW.size)
  obtain ⟨⟨k0, k1, k2, k3, k4⟩, kf⟩ := cells5r hR3
  have kf0 := kf 0
  have kf1 := kf 1
  have kf2 := kf 2
  have kf3 := kf 3
  have kf4 := kf 4
  obtain ⟨⟨z0, z1, z2, z3, z4⟩, _⟩ := cells5r (set5r hR3 (.int .u64 r) (.int .u64 nx) (.slice av H.length cp) (.int .i64 f) (.int .u64 q))
  have hWw := hbW.size
  go_wp2_with fail
  exact bodyPost_ret (v := .tuple #[.agg #[.int .u64 r, .int .u64 nx, .slice av H.length cp, .int .i64 f, .int .u64 q], .int .i64 0]) (by simp [results, Try.results35, go_sem, z0, z1, z2, z3, z4]) rfl ⟨av, cp, rfl, owned_base (row_stays ho3 fun k hk => fill5_other w3 (by have := (ho3.lt k hk).1; omega) _ _ _ _ _) hWw, fill5_below hbw3 hRw _ _ _ _ _⟩
end Go.Proofs.Ytpeecjoadgefjaa
