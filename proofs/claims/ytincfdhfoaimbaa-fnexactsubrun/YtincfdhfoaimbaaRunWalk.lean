import Derived.Test.YtincfdhfoaimbaaRunMath
import Derived.Test.YtincfdhfoaimbaaSubLaw0
namespace Go.Proofs.Ytincfdhfoaimbaa
open Go.ChangeShapes Go.WideShapes Go.ChangeAt Go.RowKit
set_option linter.unusedVariables false

set_option maxHeartbeats 1000000 in
set_option maxRecDepth 100000 in
theorem implRun_bad (c : Cf) (hc : ¬ c.Ok) (a : Option Addr) (n cap : Nat) (w : World) :
    Calls Try.prog 18 #[cfV c, .slice a n cap] w fun e w' => e = .returned (.tuple #[.slice none 0 0, .int .i64 17]) ∧ Below w.heap.size w w' := by
  have hb0 : Below w.heap.size w (w.alloc (.cells #[.int .u32 c.isn, .int .i64 c.win, .int .i64 c.rto, .int .i64 c.mrto, .int .i64 c.da, .int .i64 c.pe] 35)) := (Below.refl _ _).alloc (Nat.le_refl _) _
  have hcl := runSub_bad c hc a n cap (w.alloc (.cells #[.int .u32 c.isn, .int .i64 c.win, .int .i64 c.rto, .int .i64 c.mrto, .int .i64 c.da, .int .i64 c.pe] 35))
  go_enter Try.func18, Try.ntmps18
  go_wp2_with fail
  refine hcl.mono ?_
  rintro e w2 ⟨rfl, hb2⟩
  have hb := hb0.trans (hb2.mono hb0.size)
  go_wp2
  go_ret2
  exact ⟨rfl, by first | exact hb | exact hb.alloc hb.size _⟩

set_option maxHeartbeats 1000000 in
set_option maxRecDepth 100000 in
theorem implRun_limit (c : Cf) (hc : c.Ok) (hi : 0 ≤ c.isn ∧ c.isn ≤ 4294967295) (a : Option Addr) (n cap : Nat) (w : World) (hl : 4000 < n) :
    Calls Try.prog 18 #[cfV c, .slice a n cap] w fun e w' => e = .returned (.tuple #[.slice none 0 0, .int .i64 5]) ∧ Below w.heap.size w w' := by
  have hb0 : Below w.heap.size w (w.alloc (.cells #[.int .u32 c.isn, .int .i64 c.win, .int .i64 c.rto, .int .i64 c.mrto, .int .i64 c.da, .int .i64 c.pe] 35)) := (Below.refl _ _).alloc (Nat.le_refl _) _
  have hcl := runSub_limit c hc hi a n cap (w.alloc (.cells #[.int .u32 c.isn, .int .i64 c.win, .int .i64 c.rto, .int .i64 c.mrto, .int .i64 c.da, .int .i64 c.pe] 35)) hl
  go_enter Try.func18, Try.ntmps18
  go_wp2_with fail
  refine hcl.mono ?_
  rintro e w2 ⟨rfl, hb2⟩
  have hb := hb0.trans (hb2.mono hb0.size)
  go_wp2
  go_ret2
  exact ⟨rfl, by first | exact hb | exact hb.alloc hb.size _⟩

set_option maxHeartbeats 1000000 in
set_option maxRecDepth 100000 in
theorem implRun_ok (c : Cf) (hc : c.Ok) (hi : 0 ≤ c.isn ∧ c.isn ≤ 4294967295) (a : Option Addr) (es : Triples) (n cap : Nat) (w : World) (hn : es.length = n) (hl : n ≤ 4000) (hx : ∀ e ∈ es, 0 ≤ e.2.2 ∧ e.2.2 ≤ 4294967295) (hz : Lie3 .i64 .i64 .u32 w a es) :
    Calls Try.prog 18 #[cfV c, .slice a n cap] w fun e w' => ∃ av cp G, e = .returned (.tuple #[.slice av n cp, .int .i64 0]) ∧ Outs w' w.heap.size nilV (.slice av n cp) G ∧ G.map (·.1) = outsF c (startF c) es ∧ Below w.heap.size w w' := by
  have hb0 : Below w.heap.size w (w.alloc (.cells #[.int .u32 c.isn, .int .i64 c.win, .int .i64 c.rto, .int .i64 c.mrto, .int .i64 c.da, .int .i64 c.pe] 35)) := (Below.refl _ _).alloc (Nat.le_refl _) _
  have hcl := runSub_ok c hc hi a es n cap (w.alloc (.cells #[.int .u32 c.isn, .int .i64 c.win, .int .i64 c.rto, .int .i64 c.mrto, .int .i64 c.da, .int .i64 c.pe] 35)) hn hl hx (hz.moved hb0)
  clear hz hx
  go_enter Try.func18, Try.ntmps18
  go_wp2_with fail
  refine hcl.mono ?_
  rintro e w2 ⟨av, cp, v, G, rfl, hT, hO, hG, hb2⟩
  have hb := hb0.trans (hb2.mono hb0.size)
  have hO2 := (hO.forget).based (b2 := w.heap.size) hb0.size
  obtain ⟨ta, tc, hv, _⟩ := hT.shape
  rw [hv]
  clear hcl hv hT
  generalize stAt c es = s
  go_wp2
  go_ret2
  exact ⟨av, cp, G, rfl, hO2.kept fun k _ hk => Below.heap_alloc _ _ _ hk, hG, hb.alloc hb.size _⟩

set_option maxHeartbeats 1000000 in
set_option maxRecDepth 100000 in
theorem specRun_bad (c : Cf) (hc : ¬ c.Ok) (a : Option Addr) (n cap : Nat) (w : World) :
    Calls Try.prog 17 #[cfV c, .slice a n cap] w fun e w' => e = .returned (.tuple #[.slice none 0 0, .int .i64 17]) ∧ Below w.heap.size w w' := by
  have hb0 : Below w.heap.size w (w.alloc (.cells #[.int .u32 c.isn, .int .i64 c.win, .int .i64 c.rto, .int .i64 c.mrto, .int .i64 c.da, .int .i64 c.pe] 35)) := (Below.refl _ _).alloc (Nat.le_refl _) _
  have hcl := l4Run_bad c hc a n cap (w.alloc (.cells #[.int .u32 c.isn, .int .i64 c.win, .int .i64 c.rto, .int .i64 c.mrto, .int .i64 c.da, .int .i64 c.pe] 35))
  go_enter Try.func17, Try.ntmps17
  go_wp2_with fail
  refine hcl.mono ?_
  rintro e w2 ⟨rfl, hb2⟩
  have hb := hb0.trans (hb2.mono hb0.size)
  go_wp2
  go_ret2
  exact ⟨rfl, by first | exact hb | exact hb.alloc hb.size _⟩

set_option maxHeartbeats 1000000 in
set_option maxRecDepth 100000 in
theorem specRun_limit (c : Cf) (hc : c.Ok) (hi : 0 ≤ c.isn ∧ c.isn ≤ 4294967295) (a : Option Addr) (n cap : Nat) (w : World) (hl : 4000 < n) :
    Calls Try.prog 17 #[cfV c, .slice a n cap] w fun e w' => e = .returned (.tuple #[.slice none 0 0, .int .i64 5]) ∧ Below w.heap.size w w' := by
  have hb0 : Below w.heap.size w (w.alloc (.cells #[.int .u32 c.isn, .int .i64 c.win, .int .i64 c.rto, .int .i64 c.mrto, .int .i64 c.da, .int .i64 c.pe] 35)) := (Below.refl _ _).alloc (Nat.le_refl _) _
  have hcl := l4Run_limit c hc a n cap (w.alloc (.cells #[.int .u32 c.isn, .int .i64 c.win, .int .i64 c.rto, .int .i64 c.mrto, .int .i64 c.da, .int .i64 c.pe] 35)) hl
  go_enter Try.func17, Try.ntmps17
  go_wp2_with fail
  refine hcl.mono ?_
  rintro e w2 ⟨rfl, hb2⟩
  have hb := hb0.trans (hb2.mono hb0.size)
  go_wp2
  go_ret2
  exact ⟨rfl, by first | exact hb | exact hb.alloc hb.size _⟩

set_option maxHeartbeats 1000000 in
set_option maxRecDepth 100000 in
theorem specRun_ok (c : Cf) (hc : c.Ok) (hi : 0 ≤ c.isn ∧ c.isn ≤ 4294967295) (a : Option Addr) (es : Triples) (n cap : Nat) (w : World) (hn : es.length = n) (hl : n ≤ 4000) (hx : ∀ e ∈ es, 0 ≤ e.2.2 ∧ e.2.2 ≤ 4294967295) (hz : Lie3 .i64 .i64 .u32 w a es) :
    Calls Try.prog 17 #[cfV c, .slice a n cap] w fun e w' => ∃ av cp G, e = .returned (.tuple #[.slice av n cp, .int .i64 0]) ∧ OutsS w' w.heap.size nilV (.slice av n cp) G ∧ G.map (·.1) = outsF c (startF c) es ∧ Below w.heap.size w w' := by
  have hb0 : Below w.heap.size w (w.alloc (.cells #[.int .u32 c.isn, .int .i64 c.win, .int .i64 c.rto, .int .i64 c.mrto, .int .i64 c.da, .int .i64 c.pe] 35)) := (Below.refl _ _).alloc (Nat.le_refl _) _
  have hcl := l4Run_ok c hc hi a es n cap (w.alloc (.cells #[.int .u32 c.isn, .int .i64 c.win, .int .i64 c.rto, .int .i64 c.mrto, .int .i64 c.da, .int .i64 c.pe] 35)) hn hl hx (hz.moved hb0)
  clear hz hx
  go_enter Try.func17, Try.ntmps17
  go_wp2_with fail
  refine hcl.mono ?_
  rintro e w2 ⟨av, cp, v, all, G, rfl, hT, hal, hO, hG, hb2⟩
  have hb := hb0.trans (hb2.mono hb0.size)
  have hO2 := (hO.forget).based (b2 := w.heap.size) hb0.size
  obtain ⟨ta, tc, hv, _⟩ := hT.shape
  rw [hv]
  clear hcl hv hT hal
  generalize stAt c es = s
  go_wp2
  go_ret2
  exact ⟨av, cp, G, rfl, hO2.kept fun k _ hk => Below.heap_alloc _ _ _ hk, hG, hb.alloc hb.size _⟩

set_option maxHeartbeats 1000000 in
set_option maxRecDepth 100000 in
theorem eqSubOut_same (cd dd rv : Int) (fa fa' aa aa' : Option Addr) (F : Triples) (A : List Int) (n m fc fc' ac ac' : Nat) (w : World) (hn : F.length = n) (hm : A.length = m) (hl : n ≤ 1048576) (hl2 : m ≤ 1048576)
    (h1 : Lie3 .i64 .u32 .i64 w fa F) (h2 : Lie3 .i64 .u32 .i64 w fa' F) (h3 : Ints .i64 w aa A) (h4 : Ints .i64 w aa' A) :
    Calls Try.prog 49 #[.agg #[.int .i64 cd, .slice fa n fc, .slice aa m ac, .int .i64 dd, .int .i64 rv], .agg #[.int .i64 cd, .slice fa' n fc', .slice aa' m ac', .int .i64 dd, .int .i64 rv]] w fun e w' => e = .returned (.bool true) ∧ Below w.heap.size w w' := by
  obtain ⟨W, hW⟩ : ∃ W, W = (w.alloc (.cells #[.int .i64 cd, .slice fa n fc, .slice aa m ac, .int .i64 dd, .int .i64 rv] 47)).alloc (.cells #[.int .i64 cd, .slice fa' n fc', .slice aa' m ac', .int .i64 dd, .int .i64 rv] 47) := ⟨_, rfl⟩
  have hb : Below w.heap.size w W := by rw [hW]; exact ((Below.refl _ _).alloc (Nat.le_refl _) _).alloc (by simp) _
  have g1 : W.heap[w.heap.size]? = some (.cells #[.int .i64 cd, .slice fa n fc, .slice aa m ac, .int .i64 dd, .int .i64 rv] 47) := by rw [hW]; exact (Below.heap_alloc _ _ _ (by simp)).trans (box_new _ _ _ rfl)
  have g2 : W.heap[w.heap.size + 1]? = some (.cells #[.int .i64 cd, .slice fa' n fc', .slice aa' m ac', .int .i64 dd, .int .i64 rv] 47) := by rw [hW]; exact box_new _ _ _ (by simp)
  have hsz : W.heap.size = w.heap.size + 2 := by rw [hW]; simp
  have hcl := eqSubFrameS_same fa fa' F n fc fc' W hn (h1.moved hb) (h2.moved hb) hl
  have h3 := h3.moved3 hb
  have h4 := h4.moved3 hb
  obtain ⟨⟨k0, k1, k2, k3, k4⟩, _⟩ := cells5 g1
  obtain ⟨⟨j0, j1, j2, j3, j4⟩, _⟩ := cells5 g2
  clear h1 h2
  go_enter Try.func49, Try.ntmps49
  go_wp2_with fail
  rw [← hW]
  clear hW
  refine hcl.mono ?_
  rintro e w2 ⟨rfl, hb2⟩
  have g1 := (hb2.block _ (by omega)).trans g1
  have g2 := (hb2.block _ (by omega)).trans g2
  have s2 := hb2.size
  obtain ⟨⟨k0, k1, k2, k3, k4⟩, _⟩ := cells5 g1
  obtain ⟨⟨j0, j1, j2, j3, j4⟩, _⟩ := cells5 g2
  have hcl2 := eqInt64S_same aa aa' A m ac ac' w2 hm (h3.moved3 hb2) (h4.moved3 hb2) hl2
  have hbw := hb.trans (hb2.mono hb.size)
  clear hcl h3 h4 hb2
  go_wp2_with fail
  refine hcl2.mono ?_
  rintro e w3 ⟨rfl, hb3⟩
  obtain ⟨⟨k0, k1, k2, k3, k4⟩, _⟩ := cells5 ((hb3.block _ (by omega)).trans g1)
  obtain ⟨⟨j0, j1, j2, j3, j4⟩, _⟩ := cells5 ((hb3.block _ (by omega)).trans g2)
  have hbw3 := hbw.trans (hb3.mono hbw.size)
  clear hcl2 hb3 g1 g2 hsz
  go_wp2
  go_ret
  exact ⟨rfl, hbw3⟩
end Go.Proofs.Ytincfdhfoaimbaa
