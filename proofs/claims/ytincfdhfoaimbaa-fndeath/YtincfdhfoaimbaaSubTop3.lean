import Derived.Test.YtincfdhfoaimbaaSubTop2
namespace Go.Proofs.Ytincfdhfoaimbaa
open Go.ChangeShapes Go.WideShapes Go.ChangeAt Go.RowKit
set_option linter.unusedVariables false

set_option maxHeartbeats 1000000 in
set_option maxRecDepth 100000 in
theorem implState_bad (c : Cf) (hc : ¬ c.Ok) (a : Option Addr) (n cap : Nat) (w : World) :
    Calls Try.prog 19 #[cfV c, .slice a n cap] w fun e w' => e = .returned (.tuple #[zeroView, .int .i64 17]) ∧ Below w.heap.size w w' := by
  have hb0 : Below w.heap.size w ((w.alloc (.cells #[.int .u32 c.isn, .int .i64 c.win, .int .i64 c.rto, .int .i64 c.mrto, .int .i64 c.da, .int .i64 c.pe] 35)).alloc (.cells #[.int .u32 0, .int .u32 0, .slice none 0 0, .int .i64 0, .int .i64 0, .int .i64 0, .int .i64 0, .int .i64 0] 54)) := ((Below.refl _ _).alloc (Nat.le_refl _) _).alloc (by simp) _
  have hR0 : ((w.alloc (.cells #[.int .u32 c.isn, .int .i64 c.win, .int .i64 c.rto, .int .i64 c.mrto, .int .i64 c.da, .int .i64 c.pe] 35)).alloc (.cells #[.int .u32 0, .int .u32 0, .slice none 0 0, .int .i64 0, .int .i64 0, .int .i64 0, .int .i64 0, .int .i64 0] 54)).heap[w.heap.size + 1]? = some (.cells #[.int .u32 0, .int .u32 0, .slice none 0 0, .int .i64 0, .int .i64 0, .int .i64 0, .int .i64 0, .int .i64 0] 54) := box_new _ _ _ (by simp)
  have hz0 : ((w.alloc (.cells #[.int .u32 c.isn, .int .i64 c.win, .int .i64 c.rto, .int .i64 c.mrto, .int .i64 c.da, .int .i64 c.pe] 35)).alloc (.cells #[.int .u32 0, .int .u32 0, .slice none 0 0, .int .i64 0, .int .i64 0, .int .i64 0, .int .i64 0, .int .i64 0] 54)).heap.size = w.heap.size + 2 := by simp
  obtain ⟨W0, hW0⟩ : ∃ W, W = ((w.alloc (.cells #[.int .u32 c.isn, .int .i64 c.win, .int .i64 c.rto, .int .i64 c.mrto, .int .i64 c.da, .int .i64 c.pe] 35)).alloc (.cells #[.int .u32 0, .int .u32 0, .slice none 0 0, .int .i64 0, .int .i64 0, .int .i64 0, .int .i64 0, .int .i64 0] 54)) := ⟨_, rfl⟩
  rw [← hW0] at hb0 hR0 hz0
  have hrun := runSub_bad c hc a n cap W0
  go_enter Try.func19, Try.ntmps19
  go_wp2_with fail
  rw [← hW0]
  clear hW0
  refine hrun.mono ?_
  rintro e w1 ⟨rfl, hb1⟩
  have hR1 := (hb1.block _ (by omega)).trans hR0
  have hbw := hb0.trans (hb1.mono hb0.size)
  have s1 := hb1.size
  obtain ⟨⟨y0, y1, y2, y3, y4, y5, y6, y7⟩, g0, g1, g2, g3, g4, g5, g6, g7⟩ := cells8 hR1
  have m1 : ¬ w1.heap.size = w.heap.size + 1 := by omega
  have m2 : ¬ w.heap.size + 1 = w1.heap.size := by omega
  have m3 : w.heap.size + 1 < w1.heap.size := by omega
  have hZ := (Below.heap_alloc (put8 w1 (w.heap.size + 1) (.int .u32 0) (.int .u32 0) (.slice none 0 0) (.int .i64 0) (.int .i64 0) (.int .i64 0) (.int .i64 0) (.int .i64 0)) (.cells #[.int .u32 0, .int .i64 0, .int .i64 0, .int .i64 0, .int .i64 0, .int .i64 0, .int .u32 0, .slice none 0 0, .int .i64 0, .int .i64 0, .int .i64 0, .int .i64 0, .int .i64 0] 89) (w.heap.size + 1) (by simpa using m3)).trans (put8_block hR1 (.int .u32 0) (.int .u32 0) (.slice none 0 0) (.int .i64 0) (.int .i64 0) (.int .i64 0) (.int .i64 0) (.int .i64 0))
  have hbZ := (put8_below hbw (w.heap.size + 1) (by omega) (.int .u32 0) (.int .u32 0) (.slice none 0 0) (.int .i64 0) (.int .i64 0) (.int .i64 0) (.int .i64 0) (.int .i64 0))
  go_wp2
  obtain ⟨⟨z0, z1, z2, z3, z4, z5, z6, z7⟩, _⟩ := cells8 hZ
  exact bodyPost_ret (v := .tuple #[zeroView, .int .i64 17]) (by simp [results, Try.results19, go_sem, z0, z1, z2, z3, z4, z5, z6, z7]) rfl ⟨rfl, hbZ.alloc hbZ.size _⟩

set_option maxHeartbeats 1000000 in
set_option maxRecDepth 100000 in
theorem implState_limit (c : Cf) (hc : c.Ok) (hi : 0 ≤ c.isn ∧ c.isn ≤ 4294967295) (a : Option Addr) (n cap : Nat) (w : World) (hl : 4000 < n) :
    Calls Try.prog 19 #[cfV c, .slice a n cap] w fun e w' => e = .returned (.tuple #[zeroView, .int .i64 5]) ∧ Below w.heap.size w w' := by
  have hb0 : Below w.heap.size w ((w.alloc (.cells #[.int .u32 c.isn, .int .i64 c.win, .int .i64 c.rto, .int .i64 c.mrto, .int .i64 c.da, .int .i64 c.pe] 35)).alloc (.cells #[.int .u32 0, .int .u32 0, .slice none 0 0, .int .i64 0, .int .i64 0, .int .i64 0, .int .i64 0, .int .i64 0] 54)) := ((Below.refl _ _).alloc (Nat.le_refl _) _).alloc (by simp) _
  have hR0 : ((w.alloc (.cells #[.int .u32 c.isn, .int .i64 c.win, .int .i64 c.rto, .int .i64 c.mrto, .int .i64 c.da, .int .i64 c.pe] 35)).alloc (.cells #[.int .u32 0, .int .u32 0, .slice none 0 0, .int .i64 0, .int .i64 0, .int .i64 0, .int .i64 0, .int .i64 0] 54)).heap[w.heap.size + 1]? = some (.cells #[.int .u32 0, .int .u32 0, .slice none 0 0, .int .i64 0, .int .i64 0, .int .i64 0, .int .i64 0, .int .i64 0] 54) := box_new _ _ _ (by simp)
  have hz0 : ((w.alloc (.cells #[.int .u32 c.isn, .int .i64 c.win, .int .i64 c.rto, .int .i64 c.mrto, .int .i64 c.da, .int .i64 c.pe] 35)).alloc (.cells #[.int .u32 0, .int .u32 0, .slice none 0 0, .int .i64 0, .int .i64 0, .int .i64 0, .int .i64 0, .int .i64 0] 54)).heap.size = w.heap.size + 2 := by simp
  obtain ⟨W0, hW0⟩ : ∃ W, W = ((w.alloc (.cells #[.int .u32 c.isn, .int .i64 c.win, .int .i64 c.rto, .int .i64 c.mrto, .int .i64 c.da, .int .i64 c.pe] 35)).alloc (.cells #[.int .u32 0, .int .u32 0, .slice none 0 0, .int .i64 0, .int .i64 0, .int .i64 0, .int .i64 0, .int .i64 0] 54)) := ⟨_, rfl⟩
  rw [← hW0] at hb0 hR0 hz0
  have hrun := runSub_limit c hc hi a n cap W0 hl
  go_enter Try.func19, Try.ntmps19
  go_wp2_with fail
  rw [← hW0]
  clear hW0
  refine hrun.mono ?_
  rintro e w1 ⟨rfl, hb1⟩
  have hR1 := (hb1.block _ (by omega)).trans hR0
  have hbw := hb0.trans (hb1.mono hb0.size)
  have s1 := hb1.size
  obtain ⟨⟨y0, y1, y2, y3, y4, y5, y6, y7⟩, g0, g1, g2, g3, g4, g5, g6, g7⟩ := cells8 hR1
  have m1 : ¬ w1.heap.size = w.heap.size + 1 := by omega
  have m2 : ¬ w.heap.size + 1 = w1.heap.size := by omega
  have m3 : w.heap.size + 1 < w1.heap.size := by omega
  have hZ := (Below.heap_alloc (put8 w1 (w.heap.size + 1) (.int .u32 0) (.int .u32 0) (.slice none 0 0) (.int .i64 0) (.int .i64 0) (.int .i64 0) (.int .i64 0) (.int .i64 0)) (.cells #[.int .u32 c.isn, .int .i64 c.win, .int .i64 c.rto, .int .i64 c.mrto, .int .i64 c.da, .int .i64 c.pe, .int .u32 c.isn, .slice none 0 0, .int .i64 0, .int .i64 c.rto, .int .i64 0, .int .i64 0, .int .i64 0] 89) (w.heap.size + 1) (by simpa using m3)).trans (put8_block hR1 (.int .u32 0) (.int .u32 0) (.slice none 0 0) (.int .i64 0) (.int .i64 0) (.int .i64 0) (.int .i64 0) (.int .i64 0))
  have hbZ := (put8_below hbw (w.heap.size + 1) (by omega) (.int .u32 0) (.int .u32 0) (.slice none 0 0) (.int .i64 0) (.int .i64 0) (.int .i64 0) (.int .i64 0) (.int .i64 0))
  go_wp2
  obtain ⟨⟨z0, z1, z2, z3, z4, z5, z6, z7⟩, _⟩ := cells8 hZ
  exact bodyPost_ret (v := .tuple #[zeroView, .int .i64 5]) (by simp [results, Try.results19, go_sem, z0, z1, z2, z3, z4, z5, z6, z7]) rfl ⟨rfl, hbZ.alloc hbZ.size _⟩

set_option maxHeartbeats 1000000 in
set_option maxRecDepth 100000 in
theorem implState_ok (c : Cf) (hc : c.Ok) (hi : 0 ≤ c.isn ∧ c.isn ≤ 4294967295) (a : Option Addr) (es : Triples) (n cap : Nat) (w : World) (hn : es.length = n) (hl : n ≤ 4000) (hx : ∀ e ∈ es, 0 ≤ e.2.2 ∧ e.2.2 ≤ 4294967295) (hz : Lie3 .i64 .i64 .u32 w a es) :
    Calls Try.prog 19 #[cfV c, .slice a n cap] w fun e w' => ∃ av cp, e = .returned (.tuple #[viewV c (stAt c es) (.slice av (stAt c es).tags.length cp), .int .i64 0]) ∧ w'.ownsRow w.heap.size 2 1 (.slice av (stAt c es).tags.length cp) (stAt c es).tags.length ((stAt c es).tags.map (.int .i64)) ∧ Below w.heap.size w w' := by
  have hb0 : Below w.heap.size w ((w.alloc (.cells #[.int .u32 c.isn, .int .i64 c.win, .int .i64 c.rto, .int .i64 c.mrto, .int .i64 c.da, .int .i64 c.pe] 35)).alloc (.cells #[.int .u32 0, .int .u32 0, .slice none 0 0, .int .i64 0, .int .i64 0, .int .i64 0, .int .i64 0, .int .i64 0] 54)) := ((Below.refl _ _).alloc (Nat.le_refl _) _).alloc (by simp) _
  have hR0 : ((w.alloc (.cells #[.int .u32 c.isn, .int .i64 c.win, .int .i64 c.rto, .int .i64 c.mrto, .int .i64 c.da, .int .i64 c.pe] 35)).alloc (.cells #[.int .u32 0, .int .u32 0, .slice none 0 0, .int .i64 0, .int .i64 0, .int .i64 0, .int .i64 0, .int .i64 0] 54)).heap[w.heap.size + 1]? = some (.cells #[.int .u32 0, .int .u32 0, .slice none 0 0, .int .i64 0, .int .i64 0, .int .i64 0, .int .i64 0, .int .i64 0] 54) := box_new _ _ _ (by simp)
  have hz0 : ((w.alloc (.cells #[.int .u32 c.isn, .int .i64 c.win, .int .i64 c.rto, .int .i64 c.mrto, .int .i64 c.da, .int .i64 c.pe] 35)).alloc (.cells #[.int .u32 0, .int .u32 0, .slice none 0 0, .int .i64 0, .int .i64 0, .int .i64 0, .int .i64 0, .int .i64 0] 54)).heap.size = w.heap.size + 2 := by simp
  obtain ⟨W0, hW0⟩ : ∃ W, W = ((w.alloc (.cells #[.int .u32 c.isn, .int .i64 c.win, .int .i64 c.rto, .int .i64 c.mrto, .int .i64 c.da, .int .i64 c.pe] 35)).alloc (.cells #[.int .u32 0, .int .u32 0, .slice none 0 0, .int .i64 0, .int .i64 0, .int .i64 0, .int .i64 0, .int .i64 0] 54)) := ⟨_, rfl⟩
  rw [← hW0] at hb0 hR0 hz0
  have hrun := runSub_ok c hc hi a es n cap W0 hn hl hx (hz.moved hb0)
  have hgd := (good_at hc es).all
  have hlen : (stAt c es).tags.length ≤ 5000 := by omega
  obtain ⟨s, hs⟩ : ∃ s, Hid (s = stAt c es) := ⟨_, rfl⟩
  rw [← hs.out] at hrun hlen ⊢
  obtain ⟨q, hq⟩ : ∃ q, Hid (q = seqOf c s.done) := ⟨_, rfl⟩
  obtain ⟨q1, hq1⟩ : ∃ q, Hid (q = seqOf c (s.done + s.tags.length)) := ⟨_, rfl⟩
  obtain ⟨N, hN⟩ : ∃ N, Hid (N = s.tags.length) := ⟨_, rfl⟩
  unfold viewV
  rw [← hq1.out, ← hN.out, ← hq.out]
  clear hx hz hgd hn
  go_enter Try.func19, Try.ntmps19
  go_wp2_with fail
  rw [← hW0]
  clear hW0
  refine hrun.mono ?_
  rintro e w1 ⟨ov, op, v, G, rfl, hT1, hO1, hG1, hb1⟩
  clear hrun hO1 hG1
  have hR1 := (hb1.block _ (by omega)).trans hR0
  have hbw := hb0.trans (hb1.mono hb0.size)
  have s1 := hb1.size
  have hS2 : SndAt (w1.alloc (.cells (sndCells c s v) 89)) w1.heap.size W0.heap.size c s v := ⟨box_new _ _ _ rfl, hT1.kept fun k hk => Below.heap_alloc _ _ _ (hT1.lt hk).2, fun e => by have := (hT1.lt e).2; omega⟩
  have hR2 : (w1.alloc (.cells (sndCells c s v) 89)).heap[w.heap.size + 1]? = some (.cells #[.int .u32 0, .int .u32 0, .slice none 0 0, .int .i64 0, .int .i64 0, .int .i64 0, .int .i64 0, .int .i64 0] 54) := (Below.heap_alloc _ _ _ (by omega)).trans hR1
  have hbw2 : Below w.heap.size w (w1.alloc (.cells (sndCells c s v) 89)) := hbw.alloc hbw.size _
  have hz2 : (w1.alloc (.cells (sndCells c s v) 89)).heap.size = w1.heap.size + 1 := by simp
  have hvw := view_any w1.heap.size W0.heap.size c s v _ hS2 hlen
  obtain ⟨ta, tc, hv, _, _, _, _⟩ := hT1.shape
  unfold viewV at hvw
  unfold sndCells at hvw hR2 hbw2 hz2 ⊢
  rw [hv] at hvw hR2 hbw2 hz2 ⊢
  rw [← hq1.out, ← hN.out, ← hq.out] at hvw
  rw [← hN.out, ← hq.out] at hR2 hbw2 hz2 ⊢
  obtain ⟨W2, hW2⟩ : ∃ W, W = w1.alloc (.cells #[.int .u32 c.isn, .int .i64 c.win, .int .i64 c.rto, .int .i64 c.mrto, .int .i64 c.da, .int .i64 c.pe, .int .u32 q, .slice ta N tc, .int .i64 s.timer, .int .i64 s.rto, .int .i64 s.count, .int .i64 s.probe, .int .i64 s.dead] 89) := ⟨_, rfl⟩
  rw [← hW2] at hvw hR2 hbw2 hz2
  clear hv hS2 hT1
  go_wp2_with fail
  rw [← hW2]
  clear hW2
  refine hvw.mono ?_
  rintro e w3 ⟨av, cp, rfl, ho3, hb3⟩
  have hR3 := (hb3.block _ (by omega)).trans hR2
  have hbw3 := hbw2.trans (hb3.mono hbw2.size)
  obtain ⟨⟨y0, y1, y2, y3, y4, y5, y6, y7⟩, g0, g1, g2, g3, g4, g5, g6, g7⟩ := cells8 hR3
  have hZ := put8_block hR3 (.int .u32 q) (.int .u32 q1) (.slice av N cp) (.int .i64 s.timer) (.int .i64 s.rto) (.int .i64 s.count) (.int .i64 s.probe) (.int .i64 s.dead)
  have hO := put8_other w3 (w.heap.size + 1) (.int .u32 q) (.int .u32 q1) (.slice av N cp) (.int .i64 s.timer) (.int .i64 s.rto) (.int .i64 s.count) (.int .i64 s.probe) (.int .i64 s.dead)
  have hbZ := put8_below hbw3 (w.heap.size + 1) (by omega) (.int .u32 q) (.int .u32 q1) (.slice av N cp) (.int .i64 s.timer) (.int .i64 s.rto) (.int .i64 s.count) (.int .i64 s.probe) (.int .i64 s.dead)
  have ho4 := row_same ho3 hO (by omega)
  clear hvw
  go_wp2
  obtain ⟨⟨z0, z1, z2, z3, z4, z5, z6, z7⟩, _⟩ := cells8 hZ
  exact bodyPost_ret (v := .tuple #[.agg #[.int .u32 q, .int .u32 q1, .slice av N cp, .int .i64 s.timer, .int .i64 s.rto, .int .i64 s.count, .int .i64 s.probe, .int .i64 s.dead], .int .i64 0]) (by simp [results, Try.results19, go_sem, z0, z1, z2, z3, z4, z5, z6, z7]) rfl ⟨av, cp, rfl, own_base ho4 (by omega), hbZ⟩
end Go.Proofs.Ytincfdhfoaimbaa
