import Derived.Test.YtpeecjoadgefjaaJ3
namespace Go.Proofs.Ytpeecjoadgefjaa
open Go.ChangeShapes Go.WideShapes Go.ChangeAt Go.RowKit
set_option linter.unusedVariables false

theorem EvLie.grow {w : World} {lim lim2 : Nat} {a : Option Addr} {G : Evs} (h : EvLie w lim a G) (hl : lim ≤ lim2) : EvLie w lim2 a G := by
  refine ⟨?_, fun p hp => ⟨(h.dat p hp).1, fun b o e => Nat.lt_of_lt_of_le ((h.dat p hp).2 b o e) hl⟩⟩
  rcases h.at_ with h0 | ⟨b, off, ha, hb, hc⟩
  · exact .inl h0
  · exact .inr ⟨b, off, ha, Nat.lt_of_lt_of_le hb hl, hc⟩
set_option maxHeartbeats 400000 in
theorem implRunR_bad (x z : Int) (hno : ¬ OkR x z) (a : Option Addr) (n cap : Nat) (w : World) :
    Calls Try.prog 23 #[.int .u64 x, .int .i64 z, .slice a n cap] w fun e w' => e = .returned (.tuple #[.slice none 0 0, .int .i64 17]) ∧ Below w.heap.size w w' := by
  have hrun := runR_bad x z hno a n cap w
  go_enter Try.func23, Try.ntmps23
  go_wp2_with fail
  refine hrun.mono ?_
  rintro e w1 ⟨rfl, hb1⟩
  have hbw := hb1.alloc hb1.size (.cells #[.slice none 0 0, .int .u64 0, .int .i64 0, .int .u64 0] 88)
  go_wp2_with fail
  exact bodyPost_ret (v := .tuple #[.slice none 0 0, .int .i64 17]) (by simp [results, Try.results23, go_sem]) rfl ⟨rfl, hbw⟩
set_option maxHeartbeats 400000 in
theorem implRunR_limit (x : Int) (z : Nat) (hx : OkR x z) (a : Option Addr) (n cap : Nat) (w : World) (hl : 4000 < n) :
    Calls Try.prog 23 #[.int .u64 x, .int .i64 (z : Int), .slice a n cap] w fun e w' => e = .returned (.tuple #[.slice none 0 0, .int .i64 5]) ∧ Below w.heap.size w w' := by
  have hrun := runR_limit x z hx a n cap w hl
  go_enter Try.func23, Try.ntmps23
  go_wp2_with fail
  refine hrun.mono ?_
  rintro e w1 ⟨g, rfl, hb1⟩
  have hbw := hb1.alloc hb1.size (.cells #[.slice (some ⟨g, 0, none⟩) z z, .int .u64 x, .int .i64 0, .int .u64 0] 88)
  go_wp2_with fail
  exact bodyPost_ret (v := .tuple #[.slice none 0 0, .int .i64 5]) (by simp [results, Try.results23, go_sem]) rfl ⟨rfl, hbw⟩
set_option maxHeartbeats 400000 in
theorem implRunR_ok (x : Int) (x0 : 0 ≤ x) (z : Nat) (hx : OkR x z) (a : Option Addr) (es : Evs) (n cap : Nat) (w : World) (hn : es.length = n) (hl : n ≤ 4000) (hz : EvLie w w.heap.size a es) (hok : ∀ p ∈ es, EvOk p.1) :
    Calls Try.prog 23 #[.int .u64 x, .int .i64 (z : Int), .slice a n cap] w fun e w' => ∃ av cp G, e = .returned (.tuple #[.slice av n cp, .int .i64 0]) ∧ OutsR w' w.heap.size (.slice av n cp) G ∧ G.map (·.1) = outsR z (startR x) (es.map (·.1)) ∧ Below w.heap.size w w' := by
  have hrun := runR_ok x x0 z hx a es n cap w hn hl hz hok
  obtain ⟨s, hs⟩ : ∃ s, s = stateR z x (es.map (·.1)) := ⟨_, rfl⟩
  rw [← hs] at hrun
  obtain ⟨r, hr⟩ : ∃ r, Hid (r = s.read) := ⟨_, rfl⟩
  obtain ⟨f, hf⟩ : ∃ r, Hid (r = s.hf) := ⟨_, rfl⟩
  obtain ⟨q, hq⟩ : ∃ r, Hid (r = s.fin) := ⟨_, rfl⟩
  rw [← hr.out, ← hf.out, ← hq.out] at hrun
  clear hs hn
  go_enter Try.func23, Try.ntmps23
  go_wp2_with fail
  refine hrun.mono ?_
  rintro e w1 ⟨g, av, cp, G, rfl, hR⟩
  have hbw := hR.below.alloc hR.below.size (.cells #[.slice (some ⟨g, 0, none⟩) z z, .int .u64 r, .int .i64 f, .int .u64 q] 88)
  go_wp2_with fail
  exact bodyPost_ret (v := .tuple #[.slice av n cp, .int .i64 0]) (by simp [results, Try.results23, go_sem]) rfl ⟨av, cp, G, rfl, hR.outs.stays fun k cs t _ _ hk => Below.heap_alloc _ _ _ (Array.getElem?_eq_some_iff.1 hk).1, hR.got, hbw⟩

abbrev zeroRV : Array Value := #[.int .u64 0, .int .u64 0, .slice none 0 0, .int .i64 0, .int .u64 0]
set_option maxHeartbeats 400000 in
theorem implStateR_bad (x z : Int) (hno : ¬ OkR x z) (a : Option Addr) (n cap : Nat) (w : World) :
    Calls Try.prog 24 #[.int .u64 x, .int .i64 z, .slice a n cap] w fun e w' => e = .returned (.tuple #[.agg zeroRV, .int .i64 17]) ∧ Below w.heap.size w w' := by
  have hR0 := heap_alloc_new w (.cells zeroRV 44)
  have hb0 : Below w.heap.size w (w.alloc (.cells zeroRV 44)) := (Below.refl _ _).alloc (Nat.le_refl _) _
  obtain ⟨V, hV⟩ : ∃ V, V = w.alloc (.cells zeroRV 44) := ⟨_, rfl⟩
  have hs : Hid (V.heap.size = w.heap.size + 1) := by rw [hV]; unfold Hid; simp
  rw [← hV] at hR0 hb0
  obtain ⟨R, hR⟩ : ∃ R, R = w.heap.size := ⟨_, rfl⟩
  rw [← hR] at hR0
  have hRw : w.heap.size ≤ R := by omega
  have hRV : R < V.heap.size := by have := hs.out; omega
  have hVw : w.heap.size ≤ V.heap.size := by omega
  have hrun := runR_bad x z hno a n cap V
  go_enter Try.func24, Try.ntmps24
  go_wp2_with fail
  rw [← hV, ← hR]
  clear hV hR
  refine hrun.mono ?_
  rintro e w1 ⟨rfl, hb1⟩
  have hR1 := (hb1.block R hRV).trans hR0
  have hs1 := hb1.size
  obtain ⟨W, hW⟩ : ∃ W, W = w1.alloc (.cells #[.slice none 0 0, .int .u64 0, .int .i64 0, .int .u64 0] 88) := ⟨_, rfl⟩
  have hRW : W.heap[R]? = some (.cells zeroRV 44 (0, 0)) := by rw [hW]; exact (Below.heap_alloc _ _ _ (by omega)).trans hR1
  have hbW : Below w.heap.size w W := by
    have h9 := hb0.trans (hb1.mono hVw)
    rw [hW]
    exact h9.alloc h9.size _
  obtain ⟨⟨k0, k1, k2, k3, k4⟩, kf⟩ := cells5r hRW
  have kf0 := kf 0
  have kf1 := kf 1
  have kf2 := kf 2
  have kf3 := kf 3
  have kf4 := kf 4
  obtain ⟨⟨z0, z1, z2, z3, z4⟩, _⟩ := cells5r (set5r hRW (.int .u64 0) (.int .u64 0) (.slice none 0 0) (.int .i64 0) (.int .u64 0))
  go_upto_if 20 with fail
  rw [← hW]
  clear hW
  go_wp2_with fail
  exact bodyPost_ret (v := .tuple #[.agg zeroRV, .int .i64 17]) (by simp [results, Try.results24, go_sem, z0, z1, z2, z3, z4]) rfl ⟨rfl, fill5_below hbW hRw _ _ _ _ _⟩
set_option maxHeartbeats 400000 in
theorem implStateR_limit (x : Int) (z : Nat) (hx : OkR x z) (a : Option Addr) (n cap : Nat) (w : World) (hl : 4000 < n) :
    Calls Try.prog 24 #[.int .u64 x, .int .i64 (z : Int), .slice a n cap] w fun e w' => e = .returned (.tuple #[.agg zeroRV, .int .i64 5]) ∧ Below w.heap.size w w' := by
  have hR0 := heap_alloc_new w (.cells zeroRV 44)
  have hb0 : Below w.heap.size w (w.alloc (.cells zeroRV 44)) := (Below.refl _ _).alloc (Nat.le_refl _) _
  obtain ⟨V, hV⟩ : ∃ V, V = w.alloc (.cells zeroRV 44) := ⟨_, rfl⟩
  have hs : Hid (V.heap.size = w.heap.size + 1) := by rw [hV]; unfold Hid; simp
  rw [← hV] at hR0 hb0
  obtain ⟨R, hR⟩ : ∃ R, R = w.heap.size := ⟨_, rfl⟩
  rw [← hR] at hR0
  have hRw : w.heap.size ≤ R := by omega
  have hRV : R < V.heap.size := by have := hs.out; omega
  have hVw : w.heap.size ≤ V.heap.size := by omega
  have hrun := runR_limit x z hx a n cap V hl
  go_enter Try.func24, Try.ntmps24
  go_wp2_with fail
  rw [← hV, ← hR]
  clear hV hR
  refine hrun.mono ?_
  rintro e w1 ⟨g, rfl, hb1⟩
  have hR1 := (hb1.block R hRV).trans hR0
  have hs1 := hb1.size
  obtain ⟨W, hW⟩ : ∃ W, W = w1.alloc (.cells #[.slice (some ⟨g, 0, none⟩) z z, .int .u64 x, .int .i64 0, .int .u64 0] 88) := ⟨_, rfl⟩
  have hRW : W.heap[R]? = some (.cells zeroRV 44 (0, 0)) := by rw [hW]; exact (Below.heap_alloc _ _ _ (by omega)).trans hR1
  have hbW : Below w.heap.size w W := by
    have h9 := hb0.trans (hb1.mono hVw)
    rw [hW]
    exact h9.alloc h9.size _
  obtain ⟨⟨k0, k1, k2, k3, k4⟩, kf⟩ := cells5r hRW
  have kf0 := kf 0
  have kf1 := kf 1
  have kf2 := kf 2
  have kf3 := kf 3
  have kf4 := kf 4
  obtain ⟨⟨z0, z1, z2, z3, z4⟩, _⟩ := cells5r (set5r hRW (.int .u64 0) (.int .u64 0) (.slice none 0 0) (.int .i64 0) (.int .u64 0))
  go_upto_if 20 with fail
  rw [← hW]
  clear hW
  go_wp2_with fail
  exact bodyPost_ret (v := .tuple #[.agg zeroRV, .int .i64 5]) (by simp [results, Try.results24, go_sem, z0, z1, z2, z3, z4]) rfl ⟨rfl, fill5_below hbW hRw _ _ _ _ _⟩
set_option maxHeartbeats 1000000 in
theorem implStateR_ok (x : Int) (x0 : 0 ≤ x) (z : Nat) (hx : OkR x z) (a : Option Addr) (es : Evs) (n cap : Nat) (w : World) (hn : es.length = n) (hl : n ≤ 4000) (hz : EvLie w w.heap.size a es) (hok : ∀ p ∈ es, EvOk p.1) :
    Calls Try.prog 24 #[.int .u64 x, .int .i64 (z : Int), .slice a n cap] w fun e w' => ∃ av cp, e = .returned (.tuple #[.agg (viewV z (stateR z x (es.map (·.1))) av cp), .int .i64 0]) ∧ w'.ownsRow w.heap.size 31 2 (.slice av (heldR z (stateR z x (es.map (·.1)))).length cp) (heldR z (stateR z x (es.map (·.1)))).length (flat (heldR z (stateR z x (es.map (·.1))))) ∧ Below w.heap.size w w' := by
  have hR0 := heap_alloc_new w (.cells zeroRV 44)
  have hb0 : Below w.heap.size w (w.alloc (.cells zeroRV 44)) := (Below.refl _ _).alloc (Nat.le_refl _) _
  obtain ⟨V, hV⟩ : ∃ V, V = w.alloc (.cells zeroRV 44) := ⟨_, rfl⟩
  have hs : Hid (V.heap.size = w.heap.size + 1) := by rw [hV]; unfold Hid; simp
  rw [← hV] at hR0 hb0
  obtain ⟨R, hR⟩ : ∃ R, R = w.heap.size := ⟨_, rfl⟩
  rw [← hR] at hR0
  have hRw : w.heap.size ≤ R := by omega
  have hRV : R < V.heap.size := by have := hs.out; omega
  have hVw : w.heap.size ≤ V.heap.size := by omega
  have hrun := runR_ok x x0 z hx a es n cap V hn hl (EvLie.grow (hz.stays fun k hk => hb0.block k hk) hVw) hok
  have hin := rinv_at (z := z) x0 (es.map (·.1)) (by
    intro e' he' v hv
    obtain ⟨p, hp, rfl⟩ := List.mem_map.1 he'
    exact (hok p hp).dv v hv)
  have hlo := hin.lo
  have hhi := hin.hi
  obtain ⟨s, hs'⟩ : ∃ s, s = stateR z x (es.map (·.1)) := ⟨_, rfl⟩
  rw [← hs'] at hrun hlo hhi ⊢
  have hmz : ((es.map (·.1)).length : Int) * z ≤ 16384000 := by
    obtain ⟨o1, o2, o3⟩ := hx
    have h5 : (es.map (·.1)).length * z ≤ 4000 * 4096 := Nat.mul_le_mul (by simp; omega) (by omega)
    rw [← Int.natCast_mul]
    omega
  have hx1 := hx.1
  have hrd : s.read ≤ 4700000000000000000 := by omega
  have hr0' : 0 ≤ s.read := by omega
  obtain ⟨r, hr⟩ : ∃ r, Hid (r = s.read) := ⟨_, rfl⟩
  obtain ⟨f, hf⟩ : ∃ r, Hid (r = s.hf) := ⟨_, rfl⟩
  obtain ⟨q, hq⟩ : ∃ r, Hid (r = s.fin) := ⟨_, rfl⟩
  rw [← hr.out, ← hf.out, ← hq.out] at hrun
  have hz1 := hx.2.1
  have hz2 := hx.2.2
  have HS : Hid (s = stateR z x (es.map (·.1))) := hs'
  clear hs' hn hin hlo hhi hmz
  obtain ⟨nx, hnx⟩ : ∃ x, Hid (x = r + (runLen s.f z r : Nat)) := ⟨_, rfl⟩
  obtain ⟨H, hH⟩ : ∃ x, Hid (x = heldR z s) := ⟨_, rfl⟩
  unfold viewV
  rw [← hr.out, ← hf.out, ← hq.out, ← hnx.out, ← hH.out]
  go_enter Try.func24, Try.ntmps24
  go_wp2_with fail
  rw [← hV, ← hR]
  clear hV hR
  refine hrun.mono ?_
  rintro e w1 ⟨g, av0, cp0, G, rfl, hA⟩
  have hb1 := hA.below
  have hR1 := (hb1.block R hRV).trans hR0
  have hs1 := hb1.size
  obtain ⟨L, hL, hSl⟩ := hA.slots
  obtain ⟨B, hB⟩ : ∃ B, B = w1.heap.size := ⟨_, rfl⟩
  obtain ⟨W, hW⟩ : ∃ W, W = w1.alloc (.cells #[.slice (some ⟨g, 0, none⟩) z z, .int .u64 r, .int .i64 f, .int .u64 q] 88) := ⟨_, rfl⟩
  have hBW : W.heap[B]? = some (.cells #[.slice (some ⟨g, 0, none⟩) z z, .int .u64 r, .int .i64 f, .int .u64 q] 88 (0, 0)) := by rw [hW, hB]; exact heap_alloc_new _ _
  have hWs : Hid (W.heap.size = w1.heap.size + 1) := by rw [hW]; unfold Hid; simp
  have hW2 : ∀ k, k < w1.heap.size → W.heap[k]? = w1.heap[k]? := fun k hk => by rw [hW]; exact Below.heap_alloc _ _ _ hk
  have hRW : W.heap[R]? = some (.cells zeroRV 44 (0, 0)) := (hW2 R (by omega)).trans hR1
  have hbW : Below w.heap.size w W := by
    have h9 := hb0.trans (hb1.mono hVw)
    rw [hW]
    exact h9.alloc h9.size _
  have hbuf : BufAt W B V.heap.size z s g z L := ⟨by rw [← hr.out, ← hf.out, ← hq.out]; exact hBW, row_stays hL fun k hk => hW2 k (hL.lt k hk).2, by rw [HS.out]; exact hSl, by omega, by omega, hr0', by omega⟩
  have hvw := view_any W B V.heap.size z g z s L hbuf
  unfold viewV at hvw
  rw [← hr.out, ← hf.out, ← hq.out, ← hnx.out, ← hH.out] at hvw
  have hRlt : R < W.heap.size := by have := hWs.out; omega
  clear hrun hA hL hSl
  go_wp2_with fail
  rw [← hW, ← hB]
  clear hW hB
  refine hvw.mono ?_
  rintro e w3 ⟨av, cp, rfl, ho3, hb3⟩
  have hR3 := (hb3.block R hRlt).trans hRW
  have hbw3 := hbW.trans (hb3.mono hbW.size)
  obtain ⟨⟨k0, k1, k2, k3, k4⟩, kf⟩ := cells5r hR3
  have kf0 := kf 0
  have kf1 := kf 1
  have kf2 := kf 2
  have kf3 := kf 3
  have kf4 := kf 4
  obtain ⟨⟨z0, z1, z2, z3, z4⟩, _⟩ := cells5r (set5r hR3 (.int .u64 r) (.int .u64 nx) (.slice av H.length cp) (.int .i64 f) (.int .u64 q))
  have hWw := hbW.size
  go_wp2_with fail
  exact bodyPost_ret (v := .tuple #[.agg #[.int .u64 r, .int .u64 nx, .slice av H.length cp, .int .i64 f, .int .u64 q], .int .i64 0]) (by simp [results, Try.results24, go_sem, z0, z1, z2, z3, z4]) rfl ⟨av, cp, rfl, owned_base (row_stays ho3 fun k hk => fill5_other w3 (by have := (ho3.lt k hk).1; omega) _ _ _ _ _) hWw, fill5_below hbw3 hRw _ _ _ _ _⟩
end Go.Proofs.Ytpeecjoadgefjaa
