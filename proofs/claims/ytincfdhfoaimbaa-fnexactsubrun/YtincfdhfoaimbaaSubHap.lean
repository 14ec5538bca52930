import Derived.Test.YtincfdhfoaimbaaSubAt
namespace Go.Proofs.Ytincfdhfoaimbaa
open Go.ChangeShapes Go.WideShapes Go.ChangeAt Go.RowKit
set_option linter.unusedVariables false

/-- What a call that was handed on answered is the answer. -/
theorem stepped_box {w0 w w' : World} {B base R : Nat} {c : Cf} {v : Value} {Q : Ot × St} {fv av v' : Value} {s : St} (hA : At w0 B base c none s v w) (hR : R = w0.heap.size) (hRw : R < w.heap.size) (h : Stepped w B base c v Q w' fv av v') (x0 x1 x2 x3 x4 : Value) :
    Stepped w0 B base c v Q (((((w'.setCell ⟨R, 0, none⟩ x0).setCell ⟨R, 1, none⟩ x1).setCell ⟨R, 2, none⟩ x2).setCell ⟨R, 3, none⟩ x3).setCell ⟨R, 4, none⟩ x4) fv av v' := by
  subst hR
  have hv' : v'.ownBlock ≠ some w0.heap.size := by
    rcases h.blk with e | e
    · rw [e]; exact hA.hv
    · intro hk; have := e _ hk; omega
  have hm : Mv w0 w' B v.ownBlock := by
    have h1 : Mv w0 w B v.ownBlock := mv_none hA.mv
    exact h1.trans h.mv (.inl rfl)
  have hA' : At w0 B base c v.ownBlock Q.2 v' w' := ⟨h.snd, hm, hA.hb, hv'⟩
  refine ⟨(((((hA'.box 0 x0).box 1 x1).box 2 x2).box 3 x3).box 4 x4).snd, ?_, own_base (own_box h.fr hRw _ _ _ _ _) hA.mv.size, own_base (own_box h.ak hRw _ _ _ _ _) hA.mv.size, h.ap, (((((hA'.box 0 x0).box 1 x1).box 2 x2).box 3 x3).box 4 x4).mv⟩
  rcases h.blk with e | e
  · exact .inl e
  · exact .inr fun k hk => Nat.le_trans hA.mv.size (e k hk)

theorem own_shape {w : World} {base : Nat} {e : TypeId} {size : Nat} {v : Value} {n : Nat} {xs : List Value} (h : w.ownsRow base e size v n xs) : ∃ a c, v = .slice a n c := by
  rcases h.2 with ⟨rfl, rfl⟩ | ⟨g, cap, cur, rfl, _⟩
  · exact ⟨_, _, rfl⟩
  · exact ⟨_, _, rfl⟩
theorem stepped_from {w w1 w' : World} {B base : Nat} {c : Cf} {v : Value} {Q : Ot × St} {fv av v' : Value} (hb : Below w.heap.size w w1) (h : Stepped w1 B base c v Q w' fv av v') : Stepped w B base c v Q w' fv av v' :=
  ⟨h.snd, h.blk.imp id (fun e k hk => Nat.le_trans hb.size (e k hk)), own_base h.fr hb.size, own_base h.ak hb.size, h.ap, ((mv_none (Mv.refl w B none)).below hb (Nat.le_refl _)).trans h.mv (.inl rfl)⟩
theorem At.box5 {w0 w : World} {B base R : Nat} {c : Cf} {r : Option Nat} {s : St} {v : Value} (h : At w0 B base c r s v w) (hR : R = w0.heap.size) (x0 x1 x2 x3 x4 : Value) :
    At w0 B base c r s v (((((w.setCell ⟨R, 0, none⟩ x0).setCell ⟨R, 1, none⟩ x1).setCell ⟨R, 2, none⟩ x2).setCell ⟨R, 3, none⟩ x3).setCell ⟨R, 4, none⟩ x4) := by
  subst hR
  exact ((((h.box 0 x0).box 1 x1).box 2 x2).box 3 x3).box 4 x4
theorem stepsTo_from {w w1 w' : World} {B base : Nat} {c : Cf} {v : Value} {Q : Ot × St} {e : Ending} (hb : Below w.heap.size w w1) (h : StepsTo w1 B base c v Q e w') : StepsTo w B base c v Q e w' := by
  obtain ⟨fv, av, v', he, hs⟩ := h
  exact ⟨fv, av, v', he, stepped_from hb hs⟩

theorem stepsTo_mv {w w1 w' : World} {B base : Nat} {c : Cf} {v : Value} {Q : Ot × St} {e : Ending} (hm : Mv w w1 B none) (h : StepsTo w1 B base c v Q e w') : StepsTo w B base c v Q e w' := by
  obtain ⟨fv, av, v', he, h⟩ := h
  exact ⟨fv, av, v', he, h.snd, h.blk.imp id (fun e k hk => Nat.le_trans hm.size (e k hk)), own_base h.fr hm.size, own_base h.ak hm.size, h.ap, (mv_none hm).trans h.mv (.inl rfl)⟩

set_option maxHeartbeats 400000 in
theorem ticking_dead (B base : Nat) (c : Cf) (hc : c.Ok) (s : St) (v : Value) (w : World) (h : SndAt w B base c s v) (hd : s.dead = 1) (hp : 1 ≤ s.probe) (hp2 : s.probe ≤ 50) :
    Calls Try.prog 92 #[.agg #[], .pointer (some ⟨B, 0, none⟩)] w (StepsTo w B base c v (tickF c s)) := by
  obtain ⟨⟨k0, k1, k2, k3, k4, k5, k6, k7, k8, k9, k10, k11, k12⟩, kf⟩ := cells13 h.blk
  have hB := h.lt
  rw [hd] at k12
  have HD : Hid (s.dead = 1) := hd
  clear kf hd
  have hbx : Below w.heap.size w (w.alloc (.cells #[] 128)) := (Below.refl _ _).alloc (Nat.le_refl _) _
  have hA : At (w.alloc (.cells #[] 128)) B base c none s v (w.alloc (.cells #[] 128)) := At.begin (alloc_keeps h _)
  have hA2 := hA.alloc zeroOut
  have hz : w.heap.size + 1 < ((w.alloc (.cells #[] 128)).alloc zeroOut).heap.size := by simp
  have hR : ((w.alloc (.cells #[] 128)).alloc zeroOut).heap[w.heap.size + 1]? = some zeroOut := box_new _ _ _ (by simp)
  go_enter Try.func92, Try.ntmps92
  go_wp2_with fail
  refine (waitDead_any B base c hc s v _ hA2.snd HD.out hp hp2).mono ?_
  rintro e w2 ⟨fv, av, v', rfl, hs⟩
  have hR2 := (hs.mv.block _ hz (by omega) (fun e => hA.hv (by rw [← e]; simp))).trans hR
  obtain ⟨⟨r0, r1, r2, r3, r4⟩, q0, q1, q2, q3, q4⟩ := cells5 hR2
  obtain ⟨fa, fc, hfv⟩ := own_shape hs.fr
  obtain ⟨aa, ac, hav⟩ := own_shape hs.ak
  rw [hfv, hav] at hs ⊢
  clear hfv hav
  go_wp2
  exact bodyPost_ret (v := .agg #[.int .i64 (tickF c s).1.code, .slice fa (tickF c s).1.frames.length fc, .slice aa (tickF c s).1.acked.length ac, .int .i64 (tickF c s).1.died, .int .i64 (tickF c s).1.revived]) (by simp [results, Try.results92, go_sem, r0, r1, r2, r3, r4]) rfl
    (stepsTo_from hbx ⟨_, _, v', rfl, stepped_box hA2 (by simp) hz hs _ _ _ _ _⟩)

set_option maxHeartbeats 400000 in
theorem ticking_idle (B base : Nat) (c : Cf) (s : St) (v : Value) (w : World) (h : SndAt w B base c s v) (hd : s.dead = 0) (ht : s.timer = 0) :
    Calls Try.prog 92 #[.agg #[], .pointer (some ⟨B, 0, none⟩)] w (StepsTo w B base c v (tickF c s)) := by
  have hQ : tickF c s = (⟨0, [], [], 0, 0⟩, s) := by unfold tickF; rw [if_neg (by omega), if_pos ht]
  rw [hQ]
  obtain ⟨⟨k0, k1, k2, k3, k4, k5, k6, k7, k8, k9, k10, k11, k12⟩, kf⟩ := cells13 h.blk
  have hB := h.lt
  have f8 := kf 8
  rw [hd] at k12
  have nB : ¬ B = w.heap.size + 1 := by omega
  have nB2 : ¬ w.heap.size + 1 = B := by omega
  have hbx : Below w.heap.size w (w.alloc (.cells #[] 128)) := (Below.refl _ _).alloc (Nat.le_refl _) _
  have hA : At (w.alloc (.cells #[] 128)) B base c none s v (w.alloc (.cells #[] 128)) := At.begin (alloc_keeps h _)
  have hA2 := hA.alloc zeroOut
  have hz : w.heap.size + 1 < ((w.alloc (.cells #[] 128)).alloc zeroOut).heap.size := by simp
  have hR : ((w.alloc (.cells #[] 128)).alloc zeroOut).heap[w.heap.size + 1]? = some zeroOut := box_new _ _ _ (by simp)
  rw [ht] at k8
  clear kf hd ht hQ
  go_enter Try.func92, Try.ntmps92
  go_wp2
  exact bodyPost_ret (v := .agg #[.int .i64 0, .slice none 0 0, .slice none 0 0, .int .i64 0, .int .i64 0]) (by simp [results, Try.results92, go_sem]) rfl (stepsTo_from hbx (hA2.plain (s := s) rfl rfl rfl rfl))

set_option maxHeartbeats 400000 in
theorem ticking_wait (B base : Nat) (c : Cf) (s : St) (v : Value) (w : World) (h : SndAt w B base c s v) (hd : s.dead = 0) (ht : 1 < s.timer) (ht2 : s.timer ≤ 400) :
    Calls Try.prog 92 #[.agg #[], .pointer (some ⟨B, 0, none⟩)] w (StepsTo w B base c v (tickF c s)) := by
  have hQ : tickF c s = (⟨0, [], [], 0, 0⟩, { s with timer := s.timer - 1 }) := by unfold tickF; rw [if_neg (by omega), if_neg (by omega), if_pos (by omega)]
  rw [hQ]
  obtain ⟨⟨k0, k1, k2, k3, k4, k5, k6, k7, k8, k9, k10, k11, k12⟩, kf⟩ := cells13 h.blk
  have hB := h.lt
  have f8 := kf 8
  rw [hd] at k12
  have nB : ¬ B = w.heap.size + 1 := by omega
  have nB2 : ¬ w.heap.size + 1 = B := by omega
  have hbx : Below w.heap.size w (w.alloc (.cells #[] 128)) := (Below.refl _ _).alloc (Nat.le_refl _) _
  have hA : At (w.alloc (.cells #[] 128)) B base c none s v (w.alloc (.cells #[] 128)) := At.begin (alloc_keeps h _)
  have hA2 := hA.alloc zeroOut
  have hz : w.heap.size + 1 < ((w.alloc (.cells #[] 128)).alloc zeroOut).heap.size := by simp
  have hR : ((w.alloc (.cells #[] 128)).alloc zeroOut).heap[w.heap.size + 1]? = some zeroOut := box_new _ _ _ (by simp)
  have hA0 := (((At.begin h : At w B base c none s v w).timer (s.timer - 1)).alloc (.cells #[] 128)).alloc zeroOut
  have ht0 : (s.timer == 0) = false := by simp; omega
  clear kf hd hQ
  go_enter Try.func92, Try.ntmps92
  go_wp2
  exact bodyPost_ret (v := .agg #[.int .i64 0, .slice none 0 0, .slice none 0 0, .int .i64 0, .int .i64 0]) (by simp [results, Try.results92, go_sem]) rfl (hA0.plain (s := s) rfl rfl rfl rfl)

set_option maxHeartbeats 400000 in
theorem ticking_out (B base : Nat) (c : Cf) (s : St) (v : Value) (w : World) (h : SndAt w B base c s v) (hd : s.dead = 0) (ht : s.timer = 1) (Q : Ot × St)
    (hto : ∀ W, SndAt W B base c { s with timer := 0 } v → Calls Try.prog 94 #[.pointer (some ⟨B, 0, none⟩)] W (StepsTo W B base c v Q)) :
    Calls Try.prog 92 #[.agg #[], .pointer (some ⟨B, 0, none⟩)] w (StepsTo w B base c v Q) := by
  obtain ⟨⟨k0, k1, k2, k3, k4, k5, k6, k7, k8, k9, k10, k11, k12⟩, kf⟩ := cells13 h.blk
  have hB := h.lt
  have f8 := kf 8
  rw [hd] at k12
  rw [ht] at k8
  have nB : ¬ B = w.heap.size + 1 := by omega
  have nB2 : ¬ w.heap.size + 1 = B := by omega
  have h0 := (At.begin h : At w B base c none s v w).timer 0
  have hm1 : Mv w ((w.setCell ⟨B, 8, none⟩ (.int .i64 0)).alloc (.cells #[] 128)) B none := h0.mv.alloc _
  have hA : At ((w.setCell ⟨B, 8, none⟩ (.int .i64 0)).alloc (.cells #[] 128)) B base c none { s with timer := 0 } v ((w.setCell ⟨B, 8, none⟩ (.int .i64 0)).alloc (.cells #[] 128)) := At.begin (alloc_keeps h0.snd _)
  have hA2 := hA.alloc zeroOut
  have hz : w.heap.size + 1 < (((w.setCell ⟨B, 8, none⟩ (.int .i64 0)).alloc (.cells #[] 128)).alloc zeroOut).heap.size := by simp
  have hR : (((w.setCell ⟨B, 8, none⟩ (.int .i64 0)).alloc (.cells #[] 128)).alloc zeroOut).heap[w.heap.size + 1]? = some zeroOut := box_new _ _ _ (by simp)
  have hcall := hto _ hA2.snd
  clear kf hd ht hto
  go_enter Try.func92, Try.ntmps92
  go_wp2_with fail
  refine hcall.mono ?_
  rintro e w2 ⟨fv, av, v', rfl, hs⟩
  have hR2 := (hs.mv.block _ hz (by omega) (fun e => hA.hv (by rw [← e]; simp))).trans hR
  obtain ⟨⟨r0, r1, r2, r3, r4⟩, q0, q1, q2, q3, q4⟩ := cells5 hR2
  obtain ⟨fa, fc, hfv⟩ := own_shape hs.fr
  obtain ⟨aa, ac, hav⟩ := own_shape hs.ak
  rw [hfv, hav] at hs ⊢
  clear hfv hav hcall
  go_wp2
  exact bodyPost_ret (v := .agg #[.int .i64 Q.1.code, .slice fa Q.1.frames.length fc, .slice aa Q.1.acked.length ac, .int .i64 Q.1.died, .int .i64 Q.1.revived]) (by simp [results, Try.results92, go_sem, r0, r1, r2, r3, r4]) rfl
    (stepsTo_mv hm1 ⟨_, _, v', rfl, stepped_box hA2 (by simp) hz hs _ _ _ _ _⟩)

theorem ticking_any (B base : Nat) (c : Cf) (hc : c.Ok) (s : St) (v : Value) (w : World) (k : Nat) (hg : Good c s k) (hk : k ≤ 4000) (h : SndAt w B base c s v) :
    Calls Try.prog 92 #[.agg #[], .pointer (some ⟨B, 0, none⟩)] w (StepsTo w B base c v (tickF c s)) := by
  have hc' := hc
  unfold Cf.Ok at hc'
  have a1 := hg.all
  have a4 := hg.t1
  have a3 := hg.t0
  have c0 := hg.c0
  have c1 := hg.c1
  have r0 := hg.r0
  have r1 := hg.r1
  rcases hg.d with hd | hd
  · by_cases ht : s.timer = 0
    · exact ticking_idle B base c s v w h hd ht
    by_cases ht1 : 1 < s.timer
    · exact ticking_wait B base c s v w h hd ht1 a4
    have ht2 : s.timer = 1 := by omega
    by_cases hda : c.da ≤ s.count + 1
    · have hQ : tickF c s = (⟨0, [], [], 1, 0⟩, { s with timer := 0, count := s.count + 1, dead := 1, probe := c.pe }) := by unfold tickF; rw [if_neg (by omega), if_neg ht, if_neg (by omega), if_pos hda]
      rw [hQ]
      exact ticking_out B base c s v w h hd ht2 _ (fun W hW => timeout_dies B base c hc { s with timer := 0 } v W hW c0 (by show s.count ≤ 8; omega) hda)
    · have hQ : tickF c s = (⟨0, againF c s.done s.tags, [], 0, 0⟩, { s with count := s.count + 1, rto := min (2 * s.rto) c.mrto, timer := min (2 * s.rto) c.mrto }) := by unfold tickF; rw [if_neg (by omega), if_neg ht, if_neg (by omega), if_neg hda]
      rw [hQ]
      exact ticking_out B base c s v w h hd ht2 _ (fun W hW => timeout_again B base c hc { s with timer := 0 } v W hW (by show s.tags.length ≤ 5000; omega) r0 r1 c0 (by show s.count ≤ 8; omega) hda)
  · exact ticking_dead B base c hc s v w h hd (hg.gone hd) hg.p1
end Go.Proofs.Ytincfdhfoaimbaa
