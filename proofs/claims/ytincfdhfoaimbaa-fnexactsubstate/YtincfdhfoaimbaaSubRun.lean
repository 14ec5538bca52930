import Derived.Test.YtincfdhfoaimbaaSubHap3
namespace Go.Proofs.Ytincfdhfoaimbaa
open Go.ChangeShapes Go.WideShapes Go.ChangeAt Go.RowKit
set_option linter.unusedVariables false

/-- What an event is turned into. -/
def hapOf (k t x : Int) : Value := if k = 1 then .iface 124 (.agg #[.int .i64 t]) else if k = 2 then .iface 126 (.agg #[.int .u32 x]) else if k = 3 then .iface 128 (.agg #[]) else .iface 129 (.agg #[])

theorem happeningOf_any (k t x : Int) (w : World) :
    Calls Try.prog 61 #[.agg #[.int .i64 k, .int .i64 t, .int .u32 x]] w fun e w' => e = .returned (hapOf k t x) ∧ Below w.heap.size w w' := by
  have hb0 : Below w.heap.size w (w.alloc (.cells #[.int .i64 k, .int .i64 t, .int .u32 x] 43)) := (Below.refl _ _).alloc (Nat.le_refl _) _
  unfold hapOf
  by_cases h1 : k = 1
  · subst h1
    go_enter Try.func61, Try.ntmps61
    go_wp2
    go_ret
    exact ⟨rfl, hb0⟩
  by_cases h2 : k = 2
  · subst h2
    go_enter Try.func61, Try.ntmps61
    go_wp2
    go_ret
    exact ⟨rfl, hb0⟩
  by_cases h3 : k = 3
  · subst h3
    go_enter Try.func61, Try.ntmps61
    go_wp2
    go_ret
    exact ⟨rfl, hb0⟩
  · rw [if_neg h1, if_neg h2, if_neg h3]
    have b1 : (k == 1) = false := by simpa using h1
    have b2 : (k == 2) = false := by simpa using h2
    have b3 : (k == 3) = false := by simpa using h3
    go_enter Try.func61, Try.ntmps61
    go_wp2
    go_ret
    exact ⟨rfl, hb0⟩

theorem methSend (t : Int) (w : World) : (Go.method 252 124 (.agg #[.int .i64 t]) "loop.example/s03010/impl.happen").run Try.prog w = .ok (88, .agg #[.int .i64 t]) w := by kernel_rfl
theorem methHear (t : Int) (w : World) : (Go.method 252 126 (.agg #[.int .u32 t]) "loop.example/s03010/impl.happen").run Try.prog w = .ok (89, .agg #[.int .u32 t]) w := by kernel_rfl
theorem methTick (w : World) : (Go.method 252 128 (.agg #[]) "loop.example/s03010/impl.happen").run Try.prog w = .ok (92, .agg #[]) w := by kernel_rfl
theorem methUnk (w : World) : (Go.method 252 129 (.agg #[]) "loop.example/s03010/impl.happen").run Try.prog w = .ok (95, .agg #[]) w := by kernel_rfl


set_option maxRecDepth 100000 in
theorem step_send (B base : Nat) (c : Cf) (s : St) (v : Value) (w : World) (hbs : base ≤ w.heap.size) (h : SndAt w B base c s v) (t : Int) (Q : Ot × St)
    (hcall : ∀ W : World, base ≤ W.heap.size → SndAt W B base c s v → Calls Try.prog 88 #[.agg #[.int .i64 t], .pointer (some ⟨B, 0, none⟩)] W (StepsTo W B base c v Q)) :
    Calls Try.prog 60 #[.pointer (some ⟨B, 0, none⟩), .iface 124 (.agg #[.int .i64 t])] w (StepsTo w B base c v Q) := by
  have hme := methSend t
  have hA : At w B base c none s v w := At.begin h
  have hA2 := hA.alloc zeroOut
  have hz : w.heap.size < (w.alloc zeroOut).heap.size := by simp
  have hR : (w.alloc zeroOut).heap[w.heap.size]? = some zeroOut := box_new _ _ _ rfl
  have hB := h.lt
  have hc1 := hcall (w.alloc zeroOut) (by simp; omega) hA2.snd
  clear hcall
  go_enter Try.func60, Try.ntmps60
  go_wp2_with fail
  refine hc1.mono ?_
  rintro e w2 ⟨fv, av, v', rfl, hs⟩
  have hR2 := (hs.mv.block _ hz (by omega) (fun e => hA.hv e.symm)).trans hR
  obtain ⟨⟨r0, r1, r2, r3, r4⟩, q0, q1, q2, q3, q4⟩ := cells5 hR2
  obtain ⟨fa, fc, hfv⟩ := own_shape hs.fr
  obtain ⟨aa, ac, hav⟩ := own_shape hs.ak
  rw [hfv, hav] at hs ⊢
  clear hfv hav hc1 hme
  go_wp2
  exact bodyPost_ret (v := .agg #[.int .i64 Q.1.code, .slice fa Q.1.frames.length fc, .slice aa Q.1.acked.length ac, .int .i64 Q.1.died, .int .i64 Q.1.revived]) (by simp [results, Try.results60, go_sem, r0, r1, r2, r3, r4]) rfl
    ⟨_, _, v', rfl, stepped_box hA2 rfl hz hs _ _ _ _ _⟩

set_option maxRecDepth 100000 in
theorem step_hear (B base : Nat) (c : Cf) (s : St) (v : Value) (w : World) (hbs : base ≤ w.heap.size) (h : SndAt w B base c s v) (t : Int) (Q : Ot × St)
    (hcall : ∀ W : World, base ≤ W.heap.size → SndAt W B base c s v → Calls Try.prog 89 #[.agg #[.int .u32 t], .pointer (some ⟨B, 0, none⟩)] W (StepsTo W B base c v Q)) :
    Calls Try.prog 60 #[.pointer (some ⟨B, 0, none⟩), .iface 126 (.agg #[.int .u32 t])] w (StepsTo w B base c v Q) := by
  have hme := methHear t
  have hA : At w B base c none s v w := At.begin h
  have hA2 := hA.alloc zeroOut
  have hz : w.heap.size < (w.alloc zeroOut).heap.size := by simp
  have hR : (w.alloc zeroOut).heap[w.heap.size]? = some zeroOut := box_new _ _ _ rfl
  have hB := h.lt
  have hc1 := hcall (w.alloc zeroOut) (by simp; omega) hA2.snd
  clear hcall
  go_enter Try.func60, Try.ntmps60
  go_wp2_with fail
  refine hc1.mono ?_
  rintro e w2 ⟨fv, av, v', rfl, hs⟩
  have hR2 := (hs.mv.block _ hz (by omega) (fun e => hA.hv e.symm)).trans hR
  obtain ⟨⟨r0, r1, r2, r3, r4⟩, q0, q1, q2, q3, q4⟩ := cells5 hR2
  obtain ⟨fa, fc, hfv⟩ := own_shape hs.fr
  obtain ⟨aa, ac, hav⟩ := own_shape hs.ak
  rw [hfv, hav] at hs ⊢
  clear hfv hav hc1 hme
  go_wp2
  exact bodyPost_ret (v := .agg #[.int .i64 Q.1.code, .slice fa Q.1.frames.length fc, .slice aa Q.1.acked.length ac, .int .i64 Q.1.died, .int .i64 Q.1.revived]) (by simp [results, Try.results60, go_sem, r0, r1, r2, r3, r4]) rfl
    ⟨_, _, v', rfl, stepped_box hA2 rfl hz hs _ _ _ _ _⟩

set_option maxRecDepth 100000 in
theorem step_tick (B base : Nat) (c : Cf) (s : St) (v : Value) (w : World) (hbs : base ≤ w.heap.size) (h : SndAt w B base c s v) (Q : Ot × St)
    (hcall : ∀ W : World, base ≤ W.heap.size → SndAt W B base c s v → Calls Try.prog 92 #[.agg #[], .pointer (some ⟨B, 0, none⟩)] W (StepsTo W B base c v Q)) :
    Calls Try.prog 60 #[.pointer (some ⟨B, 0, none⟩), .iface 128 (.agg #[])] w (StepsTo w B base c v Q) := by
  have hme := methTick
  have hA : At w B base c none s v w := At.begin h
  have hA2 := hA.alloc zeroOut
  have hz : w.heap.size < (w.alloc zeroOut).heap.size := by simp
  have hR : (w.alloc zeroOut).heap[w.heap.size]? = some zeroOut := box_new _ _ _ rfl
  have hB := h.lt
  have hc1 := hcall (w.alloc zeroOut) (by simp; omega) hA2.snd
  clear hcall
  go_enter Try.func60, Try.ntmps60
  go_wp2_with fail
  refine hc1.mono ?_
  rintro e w2 ⟨fv, av, v', rfl, hs⟩
  have hR2 := (hs.mv.block _ hz (by omega) (fun e => hA.hv e.symm)).trans hR
  obtain ⟨⟨r0, r1, r2, r3, r4⟩, q0, q1, q2, q3, q4⟩ := cells5 hR2
  obtain ⟨fa, fc, hfv⟩ := own_shape hs.fr
  obtain ⟨aa, ac, hav⟩ := own_shape hs.ak
  rw [hfv, hav] at hs ⊢
  clear hfv hav hc1 hme
  go_wp2
  exact bodyPost_ret (v := .agg #[.int .i64 Q.1.code, .slice fa Q.1.frames.length fc, .slice aa Q.1.acked.length ac, .int .i64 Q.1.died, .int .i64 Q.1.revived]) (by simp [results, Try.results60, go_sem, r0, r1, r2, r3, r4]) rfl
    ⟨_, _, v', rfl, stepped_box hA2 rfl hz hs _ _ _ _ _⟩

set_option maxRecDepth 100000 in
theorem step_unk (B base : Nat) (c : Cf) (s : St) (v : Value) (w : World) (hbs : base ≤ w.heap.size) (h : SndAt w B base c s v) (Q : Ot × St)
    (hcall : ∀ W : World, base ≤ W.heap.size → SndAt W B base c s v → Calls Try.prog 95 #[.agg #[], .pointer (some ⟨B, 0, none⟩)] W (StepsTo W B base c v Q)) :
    Calls Try.prog 60 #[.pointer (some ⟨B, 0, none⟩), .iface 129 (.agg #[])] w (StepsTo w B base c v Q) := by
  have hme := methUnk
  have hA : At w B base c none s v w := At.begin h
  have hA2 := hA.alloc zeroOut
  have hz : w.heap.size < (w.alloc zeroOut).heap.size := by simp
  have hR : (w.alloc zeroOut).heap[w.heap.size]? = some zeroOut := box_new _ _ _ rfl
  have hB := h.lt
  have hc1 := hcall (w.alloc zeroOut) (by simp; omega) hA2.snd
  clear hcall
  go_enter Try.func60, Try.ntmps60
  go_wp2_with fail
  refine hc1.mono ?_
  rintro e w2 ⟨fv, av, v', rfl, hs⟩
  have hR2 := (hs.mv.block _ hz (by omega) (fun e => hA.hv e.symm)).trans hR
  obtain ⟨⟨r0, r1, r2, r3, r4⟩, q0, q1, q2, q3, q4⟩ := cells5 hR2
  obtain ⟨fa, fc, hfv⟩ := own_shape hs.fr
  obtain ⟨aa, ac, hav⟩ := own_shape hs.ak
  rw [hfv, hav] at hs ⊢
  clear hfv hav hc1 hme
  go_wp2
  exact bodyPost_ret (v := .agg #[.int .i64 Q.1.code, .slice fa Q.1.frames.length fc, .slice aa Q.1.acked.length ac, .int .i64 Q.1.died, .int .i64 Q.1.revived]) (by simp [results, Try.results60, go_sem, r0, r1, r2, r3, r4]) rfl
    ⟨_, _, v', rfl, stepped_box hA2 rfl hz hs _ _ _ _ _⟩

theorem step_any (B base : Nat) (c : Cf) (hc : c.Ok) (s : St) (v : Value) (w : World) (n : Nat) (hg : Good c s n) (hk : n ≤ 4000) (hbs : base ≤ w.heap.size) (h : SndAt w B base c s v) (k t x : Int) (x0 : 0 ≤ x) (x1 : x ≤ 4294967295) :
    Calls Try.prog 60 #[.pointer (some ⟨B, 0, none⟩), hapOf k t x] w (StepsTo w B base c v (stepF c s (k, t, x))) := by
  unfold hapOf stepF
  by_cases h1 : k = 1
  · rw [if_pos h1, if_pos h1]
    exact step_send B base c s v w hbs h t _ (fun W hW hS => sending_any B base c hc s v W n hg hk hW hS t)
  rw [if_neg h1, if_neg h1]
  by_cases h2 : k = 2
  · rw [if_pos h2, if_pos h2]
    exact step_hear B base c s v w hbs h x _ (fun W hW hS => hearing_any B base c hc s v W n hg hk hS x x0 x1)
  rw [if_neg h2, if_neg h2]
  by_cases h3 : k = 3
  · rw [if_pos h3, if_pos h3]
    exact step_tick B base c s v w hbs h _ (fun W hW hS => ticking_any B base c hc s v W n hg hk hS)
  rw [if_neg h3, if_neg h3]
  exact step_unk B base c s v w hbs h _ (fun W hW hS => unknown_any B base c s v W hS)

theorem hapOf_shape (k t x : Int) : ∃ T y, hapOf k t x = .iface T (.agg y) := by
  unfold hapOf
  split
  · exact ⟨_, _, rfl⟩
  split
  · exact ⟨_, _, rfl⟩
  split
  · exact ⟨_, _, rfl⟩
  · exact ⟨_, _, rfl⟩

set_option maxRecDepth 100000 in
theorem closure_any (B base : Nat) (c : Cf) (hc : c.Ok) (s : St) (v : Value) (w : World) (n : Nat) (hg : Good c s n) (hk : n ≤ 4000) (hbs : base ≤ w.heap.size) (h : SndAt w B base c s v) (k t x : Int) (x0 : 0 ≤ x) (x1 : x ≤ 4294967295) :
    Calls Try.prog 59 #[.agg #[.int .i64 k, .int .i64 t, .int .u32 x], .pointer (some ⟨B, 0, none⟩)] w (StepsTo w B base c v (stepF c s (k, t, x))) := by
  have hB := h.lt
  obtain ⟨E, hE⟩ : ∃ E, E = Obj.cells #[.int .i64 k, .int .i64 t, .int .u32 x] 43 (0, 0) := ⟨_, rfl⟩
  have hbx : Below w.heap.size w (w.alloc E) := (Below.refl _ _).alloc (Nat.le_refl _) _
  have hA : At (w.alloc E) B base c none s v (w.alloc E) := At.begin (alloc_keeps h _)
  have hA2 := hA.alloc zeroOut
  have hz : w.heap.size + 1 < ((w.alloc E).alloc zeroOut).heap.size := by simp
  have hR : ((w.alloc E).alloc zeroOut).heap[w.heap.size + 1]? = some zeroOut := box_new _ _ _ (by simp)
  have hha := happeningOf_any k t x ((w.alloc E).alloc zeroOut)
  rw [hE] at hha
  go_enter Try.func59, Try.ntmps59
  go_wp2_with fail
  refine hha.mono ?_
  rintro e w1 ⟨rfl, hb1⟩
  rw [← hE] at hb1
  have hA3 := hA2.below hb1
  have hR1 := (hb1.block _ hz).trans hR
  have hz1 : w.heap.size + 1 < w1.heap.size := Nat.lt_of_lt_of_le hz hb1.size
  have hst := step_any B base c hc s v w1 n hg hk (by have := hb1.size; simp at this; omega) hA3.snd k t x x0 x1
  obtain ⟨T, y, hT⟩ := hapOf_shape k t x
  rw [hT] at hst ⊢
  clear hha hT hR hz hE
  go_wp2_with fail
  refine hst.mono ?_
  obtain ⟨Q, hQ⟩ : ∃ Q, Q = stepF c s (k, t, x) := ⟨_, rfl⟩
  rw [← hQ]
  rintro e w2 ⟨fv, av, v', rfl, hs⟩
  have hR2 := (hs.mv.block _ hz1 (by omega) (fun e => hA.hv (by rw [← e]; simp))).trans hR1
  obtain ⟨⟨r0, r1, r2, r3, r4⟩, q0, q1, q2, q3, q4⟩ := cells5 hR2
  obtain ⟨fa, fc, hfv⟩ := own_shape hs.fr
  obtain ⟨aa, ac, hav⟩ := own_shape hs.ak
  rw [hfv, hav] at hs ⊢
  clear hfv hav hst hb1
  have HQ : Hid (Q = stepF c s (k, t, x)) := hQ
  clear hQ
  go_wp2
  exact bodyPost_ret (v := .agg #[.int .i64 Q.1.code, .slice fa Q.1.frames.length fc, .slice aa Q.1.acked.length ac, .int .i64 Q.1.died, .int .i64 Q.1.revived]) (by simp [results, Try.results59, go_sem, r0, r1, r2, r3, r4]) rfl
    (by rw [← HQ.out]; exact stepsTo_from hbx ⟨_, _, v', rfl, stepped_box hA3 (by simp) hz1 hs _ _ _ _ _⟩)
end Go.Proofs.Ytincfdhfoaimbaa
