import Derived.Test.YtincfdhfoaimbaaSpAck2
namespace Go.Proofs.Ytincfdhfoaimbaa
open Go.ChangeShapes Go.WideShapes Go.ChangeAt Go.RowKit
set_option linter.unusedVariables false

theorem l4Ack_any (B base : Nat) (c : Cf) (s : St) (v : Value) (all : List Int) (w : World) (k : Nat) (hg : Good c s k) (hk : k ≤ 900000) (hi0 : 0 ≤ c.isn ∧ c.isn ≤ 4294967295) (h : SpAt w B base c s v all) (x : Int) (x0 : 0 ≤ x) (x1 : x ≤ 4294967295) :
    Calls Try.prog 66 #[.pointer (some ⟨B, 0, none⟩), .int .u32 x] w (StepsToS w B base c v (hearF c s x)) := by
  have a1 := hg.all
  have hl : all.length ≤ 1000000 := by have := h.len; omega
  by_cases hf : s.tags.length < farF c s x
  · exact l4Ack_stale B base c s v all w h hl x x0 x1 hf
  · exact l4Ack_ok B base c s v all w h hl hi0 x x0 x1 hf

theorem steppedS_from {w w1 w' : World} {B base : Nat} {c : Cf} {v : Value} {Q : Ot × St} {fv av v' : Value} {all' : List Int} (hb : Below w.heap.size w w1) (h : SteppedS w1 B base c v Q w' fv av v' all') : SteppedS w B base c v Q w' fv av v' all' :=
  ⟨h.snd, h.blk.imp id (fun e k hk => Nat.le_trans hb.size (e k hk)), own_base h.fr hb.size, h.ak.base hb.size, h.ap, ((mv_none (Mv.refl w B none)).below hb (Nat.le_refl _)).trans h.mv (.inl rfl)⟩
theorem steppedS_box {w0 w w' : World} {B base R : Nat} {c : Cf} {v : Value} {Q : Ot × St} {fv av v' : Value} {all all' : List Int} {s : St} (hA : AtS w0 R B base c s v all w) (hRw : R < w.heap.size) (h : SteppedS w B base c v Q w' fv av v' all') (x0 x1 x2 x3 x4 : Value) :
    SteppedS w0 B base c v Q (((((w'.setCell ⟨R, 0, none⟩ x0).setCell ⟨R, 1, none⟩ x1).setCell ⟨R, 2, none⟩ x2).setCell ⟨R, 3, none⟩ x3).setCell ⟨R, 4, none⟩ x4) fv av v' all' := by
  have hv' : v'.ownBlock ≠ some R := by
    rcases h.blk with e | e
    · rw [e]; exact hA.hv
    · intro hk; have := e _ hk; omega
  have hm : Mv w0 w' B v.ownBlock := (mv_none hA.mv).trans h.mv (.inl rfl)
  have hF := ((((AtR.far (r := v.ownBlock) ⟨h.snd, hm, hA.hb⟩ R 0 x0 hA.hR hv').far R 1 x1 hA.hR hv').far R 2 x2 hA.hR hv').far R 3 x3 hA.hR hv').far R 4 x4 hA.hR hv'
  exact ⟨hF.snd, h.blk.imp id (fun e k hk => Nat.le_trans hA.mv.size (e k hk)), own_base (own_box h.fr hRw _ _ _ _ _) hA.mv.size, (h.ak.put5 hRw _ _ _ _ _).base hA.mv.size, h.ap, hF.mv⟩

set_option maxHeartbeats 1000000 in
set_option maxRecDepth 100000 in
theorem l4Step_send (B base : Nat) (c : Cf) (s : St) (v : Value) (all : List Int) (w : World) (h : SpAt w B base c s v all) (hbs : base ≤ w.heap.size) (t x : Int) (Q : Ot × St)
    (hcall : ∀ W : World, base ≤ W.heap.size → SpAt W B base c s v all → Calls Try.prog 65 #[.pointer (some ⟨B, 0, none⟩), .int .i64 t] W (StepsToS W B base c v Q)) :
    Calls Try.prog 54 #[.pointer (some ⟨B, 0, none⟩), .agg #[.int .i64 1, .int .i64 t, .int .u32 x]] w (StepsToS w B base c v Q) := by
  have hB := h.lt
  have hA : AtS w (w.heap.size + 1) B base c s v all w := AtS.begin h (by omega)
  have hA2 := (hA.alloc (.cells #[.int .i64 1, .int .i64 t, .int .u32 x] 43)).alloc zeroOut
  have hz : w.heap.size + 1 < ((w.alloc (.cells #[.int .i64 1, .int .i64 t, .int .u32 x] 43)).alloc zeroOut).heap.size := by simp
  have hR : ((w.alloc (.cells #[.int .i64 1, .int .i64 t, .int .u32 x] 43)).alloc zeroOut).heap[w.heap.size + 1]? = some zeroOut := box_new _ _ _ (by simp)
  have hc1 := hcall ((w.alloc (.cells #[.int .i64 1, .int .i64 t, .int .u32 x] 43)).alloc zeroOut) (by simp; omega) hA2.snd
  clear hcall
  go_enter Try.func54, Try.ntmps54
  go_wp2_with fail
  refine hc1.mono ?_
  rintro e w2 ⟨fv, av, v', all', rfl, hs⟩
  have hR2 := (hs.mv.block _ hz (by omega) (fun e => hA.hv e.symm)).trans hR
  obtain ⟨⟨r0, r1, r2, r3, r4⟩, q0, q1, q2, q3, q4⟩ := cells5 hR2
  obtain ⟨fa, fc, hfv⟩ := own_shape hs.fr
  obtain ⟨aa, ac, hav, _⟩ := hs.ak.shape
  rw [hfv, hav] at hs ⊢
  clear hfv hav hc1
  go_wp2
  exact bodyPost_ret (v := .agg #[.int .i64 Q.1.code, .slice fa Q.1.frames.length fc, .slice aa Q.1.acked.length ac, .int .i64 Q.1.died, .int .i64 Q.1.revived]) (by simp [results, Try.results54, go_sem, r0, r1, r2, r3, r4]) rfl
    ⟨_, _, v', all', rfl, steppedS_box hA2 hz hs _ _ _ _ _⟩

set_option maxHeartbeats 1000000 in
set_option maxRecDepth 100000 in
theorem l4Step_ack (B base : Nat) (c : Cf) (s : St) (v : Value) (all : List Int) (w : World) (h : SpAt w B base c s v all) (hbs : base ≤ w.heap.size) (t x : Int) (Q : Ot × St)
    (hcall : ∀ W : World, base ≤ W.heap.size → SpAt W B base c s v all → Calls Try.prog 66 #[.pointer (some ⟨B, 0, none⟩), .int .u32 x] W (StepsToS W B base c v Q)) :
    Calls Try.prog 54 #[.pointer (some ⟨B, 0, none⟩), .agg #[.int .i64 2, .int .i64 t, .int .u32 x]] w (StepsToS w B base c v Q) := by
  have hB := h.lt
  have hA : AtS w (w.heap.size + 1) B base c s v all w := AtS.begin h (by omega)
  have hA2 := (hA.alloc (.cells #[.int .i64 2, .int .i64 t, .int .u32 x] 43)).alloc zeroOut
  have hz : w.heap.size + 1 < ((w.alloc (.cells #[.int .i64 2, .int .i64 t, .int .u32 x] 43)).alloc zeroOut).heap.size := by simp
  have hR : ((w.alloc (.cells #[.int .i64 2, .int .i64 t, .int .u32 x] 43)).alloc zeroOut).heap[w.heap.size + 1]? = some zeroOut := box_new _ _ _ (by simp)
  have hc1 := hcall ((w.alloc (.cells #[.int .i64 2, .int .i64 t, .int .u32 x] 43)).alloc zeroOut) (by simp; omega) hA2.snd
  clear hcall
  go_enter Try.func54, Try.ntmps54
  go_wp2_with fail
  refine hc1.mono ?_
  rintro e w2 ⟨fv, av, v', all', rfl, hs⟩
  have hR2 := (hs.mv.block _ hz (by omega) (fun e => hA.hv e.symm)).trans hR
  obtain ⟨⟨r0, r1, r2, r3, r4⟩, q0, q1, q2, q3, q4⟩ := cells5 hR2
  obtain ⟨fa, fc, hfv⟩ := own_shape hs.fr
  obtain ⟨aa, ac, hav, _⟩ := hs.ak.shape
  rw [hfv, hav] at hs ⊢
  clear hfv hav hc1
  go_wp2
  exact bodyPost_ret (v := .agg #[.int .i64 Q.1.code, .slice fa Q.1.frames.length fc, .slice aa Q.1.acked.length ac, .int .i64 Q.1.died, .int .i64 Q.1.revived]) (by simp [results, Try.results54, go_sem, r0, r1, r2, r3, r4]) rfl
    ⟨_, _, v', all', rfl, steppedS_box hA2 hz hs _ _ _ _ _⟩

set_option maxHeartbeats 1000000 in
set_option maxRecDepth 100000 in
theorem l4Step_tick (B base : Nat) (c : Cf) (s : St) (v : Value) (all : List Int) (w : World) (h : SpAt w B base c s v all) (hbs : base ≤ w.heap.size) (t x : Int) (Q : Ot × St)
    (hcall : ∀ W : World, base ≤ W.heap.size → SpAt W B base c s v all → Calls Try.prog 67 #[.pointer (some ⟨B, 0, none⟩)] W (StepsToS W B base c v Q)) :
    Calls Try.prog 54 #[.pointer (some ⟨B, 0, none⟩), .agg #[.int .i64 3, .int .i64 t, .int .u32 x]] w (StepsToS w B base c v Q) := by
  have hB := h.lt
  have hA : AtS w (w.heap.size + 1) B base c s v all w := AtS.begin h (by omega)
  have hA2 := (hA.alloc (.cells #[.int .i64 3, .int .i64 t, .int .u32 x] 43)).alloc zeroOut
  have hz : w.heap.size + 1 < ((w.alloc (.cells #[.int .i64 3, .int .i64 t, .int .u32 x] 43)).alloc zeroOut).heap.size := by simp
  have hR : ((w.alloc (.cells #[.int .i64 3, .int .i64 t, .int .u32 x] 43)).alloc zeroOut).heap[w.heap.size + 1]? = some zeroOut := box_new _ _ _ (by simp)
  have hc1 := hcall ((w.alloc (.cells #[.int .i64 3, .int .i64 t, .int .u32 x] 43)).alloc zeroOut) (by simp; omega) hA2.snd
  clear hcall
  go_enter Try.func54, Try.ntmps54
  go_wp2_with fail
  refine hc1.mono ?_
  rintro e w2 ⟨fv, av, v', all', rfl, hs⟩
  have hR2 := (hs.mv.block _ hz (by omega) (fun e => hA.hv e.symm)).trans hR
  obtain ⟨⟨r0, r1, r2, r3, r4⟩, q0, q1, q2, q3, q4⟩ := cells5 hR2
  obtain ⟨fa, fc, hfv⟩ := own_shape hs.fr
  obtain ⟨aa, ac, hav, _⟩ := hs.ak.shape
  rw [hfv, hav] at hs ⊢
  clear hfv hav hc1
  go_wp2
  exact bodyPost_ret (v := .agg #[.int .i64 Q.1.code, .slice fa Q.1.frames.length fc, .slice aa Q.1.acked.length ac, .int .i64 Q.1.died, .int .i64 Q.1.revived]) (by simp [results, Try.results54, go_sem, r0, r1, r2, r3, r4]) rfl
    ⟨_, _, v', all', rfl, steppedS_box hA2 hz hs _ _ _ _ _⟩

set_option maxHeartbeats 1000000 in
set_option maxRecDepth 100000 in
theorem l4Step_none (B base : Nat) (c : Cf) (s : St) (v : Value) (all : List Int) (w : World) (h : SpAt w B base c s v all) (k t x : Int) (h1 : k ≠ 1) (h2 : k ≠ 2) (h3 : k ≠ 3) :
    Calls Try.prog 54 #[.pointer (some ⟨B, 0, none⟩), .agg #[.int .i64 k, .int .i64 t, .int .u32 x]] w (StepsToS w B base c v (⟨1, [], [], 0, 0⟩, s)) := by
  have hA : AtS w (w.heap.size + 1) B base c s v all w := AtS.begin h (by omega)
  have g1 : (k == 1) = false := by simpa using h1
  have g2 : (k == 2) = false := by simpa using h2
  have g3 : (k == 3) = false := by simpa using h3
  go_enter Try.func54, Try.ntmps54
  go_wp2
  exact bodyPost_ret (v := .agg #[.int .i64 1, .slice none 0 0, .slice none 0 0, .int .i64 0, .int .i64 0]) (by simp [results, Try.results54, go_sem]) rfl (((hA.alloc _).alloc _).plain rfl rfl rfl rfl)

theorem l4Step_any (B base : Nat) (c : Cf) (hc : c.Ok) (s : St) (v : Value) (all : List Int) (w : World) (n : Nat) (hg : Good c s n) (hk : n ≤ 900000) (hi0 : 0 ≤ c.isn ∧ c.isn ≤ 4294967295) (hbs : base ≤ w.heap.size) (h : SpAt w B base c s v all) (k t x : Int) (x0 : 0 ≤ x) (x1 : x ≤ 4294967295) :
    Calls Try.prog 54 #[.pointer (some ⟨B, 0, none⟩), .agg #[.int .i64 k, .int .i64 t, .int .u32 x]] w (StepsToS w B base c v (stepF c s (k, t, x))) := by
  unfold stepF
  by_cases h1 : k = 1
  · rw [if_pos h1, h1]
    exact l4Step_send B base c s v all w h hbs t x _ (fun W hW hS => l4Send_any B base c hc s v all W n hg hk hi0 hW hS t)
  rw [if_neg h1]
  by_cases h2 : k = 2
  · rw [if_pos h2, h2]
    exact l4Step_ack B base c s v all w h hbs t x _ (fun W hW hS => l4Ack_any B base c s v all W n hg hk hi0 hS x x0 x1)
  rw [if_neg h2]
  by_cases h3 : k = 3
  · rw [if_pos h3, h3]
    exact l4Step_tick B base c s v all w h hbs t x _ (fun W hW hS => l4Tick_any B base c hc s v all W n hg hk hi0 hS)
  rw [if_neg h3]
  exact l4Step_none B base c s v all w h k t x h1 h2 h3
end Go.Proofs.Ytincfdhfoaimbaa
