import Derived.Test.YtincfdhfoaimbaaSubHap2
import Derived.Deep.RegionLaw
import Derived.Deep.Cut
import Derived.Deep.CutRange
namespace Go.Proofs.Ytincfdhfoaimbaa
open Go.ChangeShapes Go.WideShapes Go.ChangeAt Go.RowKit
set_option linter.unusedVariables false

theorem farF_is (c : Cf) (s : St) (x : Int) : (x - seqOf c s.done) % 4294967296 = (farF c s x : Int) := by unfold farF; omega

set_option maxHeartbeats 400000 in
theorem hearing_stale (B base : Nat) (c : Cf) (s : St) (v : Value) (w : World) (h : SndAt w B base c s v) (x : Int) (x0 : 0 ≤ x) (x1 : x ≤ 4294967295) (hl : s.tags.length ≤ 5000) (hf : s.tags.length < farF c s x) :
    Calls Try.prog 89 #[.agg #[.int .u32 x], .pointer (some ⟨B, 0, none⟩)] w (StepsTo w B base c v (hearF c s x)) := by
  obtain ⟨⟨k0, k1, k2, k3, k4, k5, k6, k7, k8, k9, k10, k11, k12⟩, kf⟩ := cells13 h.blk
  have hB := h.lt
  have hQ : hearF c s x = (⟨11, [], [], 0, 0⟩, s) := by unfold hearF; rw [if_pos hf]
  rw [hQ]
  have hfr := farF_is c s x
  have hsf := seqOf_fits c s.done
  obtain ⟨K, hK⟩ : ∃ K, Hid (K = farF c s x) := ⟨_, rfl⟩
  rw [← hK.out] at hfr hf
  have hKb : (K : Int) < 4294967296 := by omega
  obtain ⟨a, cap, rfl, h1, h2, h3, hi⟩ := h.row.shape
  have hbx : Below w.heap.size w (w.alloc (.cells #[.int .u32 x] 126)) := (Below.refl _ _).alloc (Nat.le_refl _) _
  have hA1 : At (w.alloc (.cells #[.int .u32 x] 126)) B base c none s (.slice a s.tags.length cap) (w.alloc (.cells #[.int .u32 x] 126)) := At.begin (alloc_keeps h _)
  have hfI : (s.tags.length : Int) < (K : Int) := by omega
  clear kf hQ
  go_enter Try.func89, Try.ntmps89
  go_wp2
  go_quiet (fail)
  go_wp2
  exact bodyPost_ret (v := .agg #[.int .i64 11, .slice none 0 0, .slice none 0 0, .int .i64 0, .int .i64 0]) (by simp [results, Try.results89, go_sem]) rfl (stepsTo_from hbx ((((hA1.alloc zeroOut).drewN nq).box5 (by simp) _ _ _ _ _).plain (s := s) rfl rfl rfl rfl))

theorem own_mv {w w' : World} {B base : Nat} {e : TypeId} {size : Nat} {v : Value} {n : Nat} {xs : List Value} (h : w.ownsRow base e size v n xs) (hm : Mv w w' B none) (hv : v.ownBlock ≠ some B) : w'.ownsRow base e size v n xs := by
  refine ⟨h.1, ?_⟩
  rcases h.2 with hn | ⟨g, cap, cur, rfl, hg, hh, rest⟩
  · exact .inl hn
  · exact .inr ⟨g, cap, cur, rfl, hg, (hm.block g (Array.getElem?_eq_some_iff.1 hh).1 (fun e => hv (by rw [← e]; rfl)) (by simp)).trans hh, rest⟩

set_option maxHeartbeats 1000000 in
theorem hearing_ok (B base : Nat) (c : Cf) (hc : c.Ok) (s : St) (v : Value) (w : World) (h : SndAt w B base c s v) (x : Int) (x0 : 0 ≤ x) (x1 : x ≤ 4294967295) (hl : s.tags.length ≤ 5000) (hd01 : s.dead = 0 ∨ s.dead = 1) (hf : ¬ s.tags.length < farF c s x) :
    Calls Try.prog 89 #[.agg #[.int .u32 x], .pointer (some ⟨B, 0, none⟩)] w (StepsTo w B base c v (hearF c s x)) := by
  obtain ⟨⟨k0, k1, k2, k3, k4, k5, k6, k7, k8, k9, k10, k11, k12⟩, kf⟩ := cells13 h.blk
  have hB := h.lt
  have hfr := farF_is c s x
  have hsf := seqOf_fits c s.done
  obtain ⟨K, hK⟩ : ∃ K, Hid (K = farF c s x) := ⟨_, rfl⟩
  rw [← hK.out] at hfr hf
  obtain ⟨q, hq⟩ : ∃ q, Hid (q = seqOf c s.done) := ⟨_, rfl⟩
  rw [← hq.out] at hfr hsf k6
  have hKl : K ≤ s.tags.length := by omega
  obtain ⟨a, cap, hv, h1, h2, h3, hi⟩ := h.row.shape
  rw [hv] at k7
  have hbx : Below w.heap.size w (w.alloc (.cells #[.int .u32 x] 126)) := (Below.refl _ _).alloc (Nat.le_refl _) _
  have hA1 : At (w.alloc (.cells #[.int .u32 x] 126)) B base c none s v (w.alloc (.cells #[.int .u32 x] 126)) := At.begin (alloc_keeps h _)
  have hfI : ¬ (s.tags.length : Int) < (K : Int) := by omega
  have HV : Hid (v = .slice a s.tags.length cap) := hv
  clear kf hv
  go_enter Try.func89, Try.ntmps89
  go_wp2
  go_quiet (fail)
  go_wp2_with fail
  rw [hfr]
  have hA2 := (hA1.alloc zeroOut).drewN nq
  have hR2 : (((w.alloc (.cells #[.int .u32 x] 126)).alloc zeroOut).drewN nq).heap[w.heap.size + 1]? = some zeroOut := box_new _ zeroOut _ (by simp)
  refine (release_any B base c s v _ hA2.snd hl K hKl).mono ?_
  rintro e w2 ⟨av, cp, v2, rfl, ho2, hS2, hvb, hm2⟩
  have hA3 : At (w.alloc (.cells #[.int .u32 x] 126)) B base c none (cutF s K) v2 w2 := ⟨hS2, hA2.mv.trans hm2 (.inl rfl), hA1.hb, by rw [hvb]; exact hA1.hv⟩
  have hz2 : w.heap.size + 1 < (((w.alloc (.cells #[.int .u32 x] 126)).alloc zeroOut).drewN nq).heap.size := (Array.getElem?_eq_some_iff.1 hR2).1
  have hBn : B ≠ w.heap.size + 1 := by omega
  have hR3 := (hm2.block _ hz2 (fun e => hBn e.symm) (by simp)).trans hR2
  have hs2 : w.heap.size + 2 ≤ w2.heap.size := by have := hm2.size; omega
  have hB2 := hS2.lt
  clear k0 k1 k2 k3 k4 k5 k6 k7 k8 k9 k10 k11 k12
  obtain ⟨⟨k0, k1, k2, k3, k4, k5, k6, k7, k8, k9, k10, k11, k12⟩, kf⟩ := cells13 hS2.blk
  have f11 := kf 11
  have f12 := kf 12
  have k12' : w2.cell? ⟨B, 12, none⟩ = some (.int .i64 s.dead) := k12
  clear kf k12
  by_cases hd : s.dead = 1
  · rw [hd] at k12'
    have HD : Hid (s.dead = 1) := hd
    clear hd
    have hQ : hearF c s x = (⟨0, againF c (s.done + K) (s.tags.drop K), s.tags.take K, 0, 1⟩, restartF c { cutF s K with dead := 0, probe := 0 }) := by unfold hearF; rw [← hK.out, if_neg (by omega), if_pos HD.out]
    have HQ : Hid _ := hQ
    clear hQ
    have hA4 := ((hA3.dead 0).probe 0).alloc (.cells #[.int .i64 0, .slice none 0 0, .slice av K cp, .int .i64 0, .int .i64 0] 47)
    have hO4 : (((w2.setCell ⟨B, 12, none⟩ (.int .i64 0)).setCell ⟨B, 11, none⟩ (.int .i64 0)).alloc (.cells #[.int .i64 0, .slice none 0 0, .slice av K cp, .int .i64 0, .int .i64 0] 47)).heap[w2.heap.size]? = some (.cells #[.int .i64 0, .slice none 0 0, .slice av K cp, .int .i64 0, .int .i64 0] 47) := box_new _ _ _ (by simp)
    have hR4 : (((w2.setCell ⟨B, 12, none⟩ (.int .i64 0)).setCell ⟨B, 11, none⟩ (.int .i64 0)).alloc (.cells #[.int .i64 0, .slice none 0 0, .slice av K cp, .int .i64 0, .int .i64 0] 47)).heap[w.heap.size + 1]? = some zeroOut := by
      rw [Below.heap_alloc _ _ _ (by simp; omega), heap_setCell_other _ _ _ _ (fun e => hBn e.symm), heap_setCell_other _ _ _ _ (fun e => hBn e.symm)]
      exact hR3
    have ho4 : (((w2.setCell ⟨B, 12, none⟩ (.int .i64 0)).setCell ⟨B, 11, none⟩ (.int .i64 0)).alloc (.cells #[.int .i64 0, .slice none 0 0, .slice av K cp, .int .i64 0, .int .i64 0] 47)).ownsRow (w.heap.size + 2) 2 1 (.slice av K cp) K ((s.tags.take K).map (.int .i64)) := by
      have hav : (Value.slice av K cp).ownBlock ≠ some B := fun e => by have := (ho2.lt B e).1; have : w.heap.size + 1 < B := (by omega); omega
      exact own_alloc (own_put (own_put (own_base ho2 (by omega)) hav) hav) _
    have hz4 : (((w2.setCell ⟨B, 12, none⟩ (.int .i64 0)).setCell ⟨B, 11, none⟩ (.int .i64 0)).alloc (.cells #[.int .i64 0, .slice none 0 0, .slice av K cp, .int .i64 0, .int .i64 0] 47)).heap.size = w2.heap.size + 1 := by simp
    go_wp2_with fail
    obtain ⟨W4, hW4⟩ : ∃ W, W = (((w2.setCell ⟨B, 12, none⟩ (.int .i64 0)).setCell ⟨B, 11, none⟩ (.int .i64 0)).alloc (.cells #[.int .i64 0, .slice none 0 0, .slice av K cp, .int .i64 0, .int .i64 0] 47)) := ⟨_, rfl⟩
    rw [← hW4] at hA4 hO4 hR4 ho4 hz4 ⊢
    clear hW4
    refine (restart_any B base c _ v2 W4 hA4.snd (by simp [cutF]; omega)).mono ?_
    rintro e w5 ⟨rfl, hS5, hz5, hm5⟩
    have hA5 : At (w.alloc (.cells #[.int .u32 x] 126)) B base c none (restartF c { cutF s K with dead := 0, probe := 0 }) v2 w5 := ⟨hS5, hA4.mv.trans hm5 (.inl rfl), hA4.hb, hA4.hv⟩
    have hBo : B ≠ w2.heap.size := by omega
    have hO5 := (hm5.block _ (by omega) (fun e => hBo e.symm) (by simp)).trans hO4
    have hR5 := (hm5.block _ (by omega) (fun e => hBn e.symm) (by simp)).trans hR4
    have ho5 : w5.ownsRow (w.heap.size + 2) 2 1 (.slice av K cp) K ((s.tags.take K).map (.int .i64)) := own_mv ho4 hm5 (fun e => by have := (ho4.lt B e).1; omega)
    have hv2 : v2.ownBlock ≠ some w2.heap.size := fun e => by have := (hS2.row.lt e).2; omega
    obtain ⟨⟨o0, o1, o2, o3, o4⟩, p0, p1, p2, p3, p4⟩ := cells5 hO5
    clear k0 k1 k2 k3 k4 k5 k6 k7 k8 k9 k10 k11 k12' f11 f12
    have hsz1 : (w.alloc (.cells #[.int .u32 x] 126)).heap.size = w.heap.size + 1 := by simp
    have hA6 := hA5.far w2.heap.size 4 (.int .i64 1) (by omega) hv2
    have hO6 : (w5.setCell ⟨w2.heap.size, 4, none⟩ (.int .i64 1)).heap[w2.heap.size]? = some (.cells #[.int .i64 0, .slice none 0 0, .slice av K cp, .int .i64 0, .int .i64 1] 47) := by
      rw [Go.Joins.block_setCell hO5 _]
      rfl
    have hR6 : (w5.setCell ⟨w2.heap.size, 4, none⟩ (.int .i64 1)).heap[w.heap.size + 1]? = some zeroOut := (heap_setCell_other _ _ _ _ (by simp; omega)).trans hR5
    have hvo : (Value.slice av K cp).ownBlock ≠ some w2.heap.size := fun e => by have := (ho2.lt _ e).2; omega
    have ho6 : (w5.setCell ⟨w2.heap.size, 4, none⟩ (.int .i64 1)).ownsRow (w.heap.size + 2) 2 1 (.slice av K cp) K ((s.tags.take K).map (.int .i64)) := own_put ho5 hvo
    have hag : Calls Try.prog 91 #[.pointer (some ⟨B, 0, none⟩)] (w5.setCell ⟨w2.heap.size, 4, none⟩ (.int .i64 1)) fun e w' => ∃ av cp, e = .returned (.slice av (s.tags.drop K).length cp) ∧ w'.ownsRow (w5.setCell ⟨w2.heap.size, 4, none⟩ (.int .i64 1)).heap.size 49 3 (.slice av (s.tags.drop K).length cp) (s.tags.drop K).length (flat3 .i64 .u32 .i64 (againF c (s.done + K) (s.tags.drop K))) ∧ Below (w5.setCell ⟨w2.heap.size, 4, none⟩ (.int .i64 1)).heap.size (w5.setCell ⟨w2.heap.size, 4, none⟩ (.int .i64 1)) w' := again_any B base c _ v2 _ hA6.snd (by show (s.tags.drop K).length ≤ 5000; simp; omega)
    have hz6 : (w5.setCell ⟨w2.heap.size, 4, none⟩ (.int .i64 1)).heap.size = w2.heap.size + 1 := by simp; omega
    obtain ⟨N, hN⟩ : ∃ N, Hid (N = (s.tags.drop K).length) := ⟨_, rfl⟩
    rw [← hN.out] at hag
    obtain ⟨W6, hW6⟩ : ∃ W, W = w5.setCell ⟨w2.heap.size, 4, none⟩ (.int .i64 1) := ⟨_, rfl⟩
    rw [← hW6] at hA6 hO6 hR6 ho6 hag hz6
    go_wp2_with fail
    rw [← hW6]
    clear hW6
    refine hag.mono ?_
    rintro e w7 ⟨av7, cp7, rfl, ho7, hb7⟩
    clear o0 o1 o2 o3 o4 p0 p1 p2 p3 p4
    have hA7 := hA6.below hb7
    have hO7 := (hb7.block _ (by omega)).trans hO6
    have hR7 := (hb7.block _ (by omega)).trans hR6
    have hak7 := owned_kept ho6 hb7
    obtain ⟨⟨o0, o1, o2, o3, o4⟩, p0, p1, p2, p3, p4⟩ := cells5 hO7
    obtain ⟨⟨r0, r1, r2, r3, r4⟩, q0, q1, q2, q3, q4⟩ := cells5 hR7
    have m1 : ¬ w2.heap.size = w.heap.size + 1 := by omega
    have m2 : ¬ w.heap.size + 1 = w2.heap.size := by omega
    have hvf : (Value.slice av7 N cp7).ownBlock ≠ some w2.heap.size := fun e => by have := (ho7.lt _ e).1; omega
    have hFin := (hA7.far w2.heap.size 1 (.slice av7 N cp7) (by omega) hv2).box5 (R := w.heap.size + 1) (by simp) (.int .i64 0) (.slice av7 N cp7) (.slice av K cp) (.int .i64 0) (.int .i64 1)
    go_wp2
    exact bodyPost_ret (v := .agg #[.int .i64 0, .slice av7 N cp7, .slice av K cp, .int .i64 0, .int .i64 1]) (by simp [results, Try.results89, go_sem, r0, r1, r2, r3, r4]) rfl
      (by rw [HQ.out]; exact ⟨_, _, v2, rfl, hFin.snd, .inl hvb, own_base (own_box (own_put (by rw [againF_length, ← hN.out]; exact ho7) hvf) (by omega) _ _ _ _ _) (by omega), own_base (own_box (own_put (by rw [show (s.tags.take K).length = K by simp; omega]; exact hak7) hvo) (by omega) _ _ _ _ _) (by omega), (fun k hk => by rw [hvb]; intro e; have := (ho6.lt k hk).1; have := (h.row.lt e).2; omega), mv_none ((mv_none (Mv.refl w B none)).below hbx (Nat.le_refl _) |>.trans hFin.mv (.inl rfl))⟩)
  · have hd0 : s.dead = 0 := by omega
    rw [hd0] at k12'
    have HD : Hid (¬ s.dead = 1) := hd
    have hsz1 : (w.alloc (.cells #[.int .u32 x] 126)).heap.size = w.heap.size + 1 := by simp
    clear hd hd0 hd01
    have hA4 := hA3.alloc (.cells #[.int .i64 0, .slice none 0 0, .slice av K cp, .int .i64 0, .int .i64 0] 47)
    have hO4 : (w2.alloc (.cells #[.int .i64 0, .slice none 0 0, .slice av K cp, .int .i64 0, .int .i64 0] 47)).heap[w2.heap.size]? = some (.cells #[.int .i64 0, .slice none 0 0, .slice av K cp, .int .i64 0, .int .i64 0] 47) := box_new _ _ _ rfl
    have hR4 : (w2.alloc (.cells #[.int .i64 0, .slice none 0 0, .slice av K cp, .int .i64 0, .int .i64 0] 47)).heap[w.heap.size + 1]? = some zeroOut := (Below.heap_alloc _ _ _ (by omega)).trans hR3
    have ho4 : (w2.alloc (.cells #[.int .i64 0, .slice none 0 0, .slice av K cp, .int .i64 0, .int .i64 0] 47)).ownsRow (w.heap.size + 2) 2 1 (.slice av K cp) K ((s.tags.take K).map (.int .i64)) := own_alloc (own_base ho2 (by omega)) _
    have hz4 : (w2.alloc (.cells #[.int .i64 0, .slice none 0 0, .slice av K cp, .int .i64 0, .int .i64 0] 47)).heap.size = w2.heap.size + 1 := by simp
    have hvo : (Value.slice av K cp).ownBlock ≠ some w2.heap.size := fun e => by have := (ho2.lt _ e).2; omega
    have m1 : ¬ w2.heap.size = w.heap.size + 1 := by omega
    have m2 : ¬ w.heap.size + 1 = w2.heap.size := by omega
    have hv2 : v2.ownBlock ≠ some w2.heap.size := fun e => by have := (hS2.row.lt e).2; omega
    obtain ⟨W4, hW4⟩ : ∃ W, W = w2.alloc (.cells #[.int .i64 0, .slice none 0 0, .slice av K cp, .int .i64 0, .int .i64 0] 47) := ⟨_, rfl⟩
    rw [← hW4] at hA4 hO4 hR4 ho4 hz4
    by_cases hK0 : 0 < K
    · have hQ : hearF c s x = (⟨0, [], s.tags.take K, 0, 0⟩, restartF c (cutF s K)) := by unfold hearF; rw [← hK.out, if_neg (by omega), if_neg HD.out, if_pos hK0]
      have HQ : Hid _ := hQ
      have hKi : (0 : Int) < (K : Int) := by omega
      clear hQ
      go_wp2_with fail
      rw [← hW4]
      clear hW4
      refine (restart_any B base c _ v2 W4 hA4.snd (by simp [cutF]; omega)).mono ?_
      rintro e w5 ⟨rfl, hS5, hz5, hm5⟩
      have hA5 : At (w.alloc (.cells #[.int .u32 x] 126)) B base c none (restartF c (cutF s K)) v2 w5 := ⟨hS5, hA4.mv.trans hm5 (.inl rfl), hA4.hb, hA4.hv⟩
      have hBo : B ≠ w2.heap.size := by omega
      have hO5 := (hm5.block _ (by omega) (fun e => hBo e.symm) (by simp)).trans hO4
      have hR5 := (hm5.block _ (by omega) (fun e => hBn e.symm) (by simp)).trans hR4
      have ho5 : w5.ownsRow (w.heap.size + 2) 2 1 (.slice av K cp) K ((s.tags.take K).map (.int .i64)) := own_mv ho4 hm5 (fun e => by have := (ho4.lt B e).1; omega)
      obtain ⟨⟨o0, o1, o2, o3, o4⟩, p0, p1, p2, p3, p4⟩ := cells5 hO5
      obtain ⟨⟨r0, r1, r2, r3, r4⟩, q0, q1, q2, q3, q4⟩ := cells5 hR5
      have hFin := hA5.box5 (R := w.heap.size + 1) (by simp) (.int .i64 0) (.slice none 0 0) (.slice av K cp) (.int .i64 0) (.int .i64 0)
      clear k0 k1 k2 k3 k4 k5 k6 k7 k8 k9 k10 k11 k12' f11 f12
      go_wp2
      exact bodyPost_ret (v := .agg #[.int .i64 0, .slice none 0 0, .slice av K cp, .int .i64 0, .int .i64 0]) (by simp [results, Try.results89, go_sem, r0, r1, r2, r3, r4]) rfl
        (by rw [HQ.out]; exact ⟨_, _, v2, rfl, hFin.snd, .inl hvb, World.ownsRow_nil _ _ _ _, own_base (own_box (by rw [show (s.tags.take K).length = K by simp; omega]; exact ho5) (by omega) _ _ _ _ _) (by omega), (fun k hk => by rw [hvb]; intro e; have := (ho4.lt k hk).1; have := (h.row.lt e).2; omega), mv_none ((mv_none (Mv.refl w B none)).below hbx (Nat.le_refl _) |>.trans hFin.mv (.inl rfl))⟩)
    · have hK00 : K = 0 := by omega
      have hQ : hearF c s x = (⟨0, [], [], 0, 0⟩, s) := by unfold hearF; rw [← hK.out, if_neg (by omega), if_neg HD.out, if_neg hK0]
      have HQ : Hid _ := hQ
      have hcs : cutF s K = s := by rw [hK00]; cases s; simp [cutF]
      rw [hcs] at hA4
      subst hK00
      obtain ⟨⟨o0, o1, o2, o3, o4⟩, p0, p1, p2, p3, p4⟩ := cells5 hO4
      obtain ⟨⟨r0, r1, r2, r3, r4⟩, q0, q1, q2, q3, q4⟩ := cells5 hR3
      have hFin := (hA3.box5 (R := w.heap.size + 1) (by simp) (.int .i64 0) (.slice none 0 0) (.slice av 0 cp) (.int .i64 0) (.int .i64 0)).alloc (.cells #[.int .i64 0, .slice none 0 0, .slice av 0 cp, .int .i64 0, .int .i64 0] 47)
      rw [hcs] at hFin
      have m3 : w.heap.size + 1 < w2.heap.size := by omega
      have hZ := box_read w2 (.cells #[.int .i64 0, .slice none 0 0, .slice av 0 cp, .int .i64 0, .int .i64 0] 47) hR3 (.int .i64 0) (.slice none 0 0) (.slice av 0 cp) (.int .i64 0) (.int .i64 0)
      clear hQ k0 k1 k2 k3 k4 k5 k6 k7 k8 k9 k10 k11 f11 f12
      go_wp2
      obtain ⟨⟨z0, z1, z2, z3, z4⟩, _⟩ := cells5 hZ
      exact bodyPost_ret (v := .agg #[.int .i64 0, .slice none 0 0, .slice av 0 cp, .int .i64 0, .int .i64 0]) (by simp [results, Try.results89, go_sem, z0, z1, z2, z3, z4]) rfl
        (by rw [HQ.out]; exact ⟨_, _, v2, rfl, hFin.snd, .inl hvb, World.ownsRow_nil _ _ _ _, own_alloc (own_base (own_box (R := w.heap.size + 1) (by simpa using own_base ho2 (b2 := w.heap.size + 2) (by omega)) (by omega) _ _ _ _ _) (by omega)) _, (fun k hk => by rw [hvb]; intro e; have := (ho4.lt k hk).1; have := (h.row.lt e).2; omega), mv_none ((mv_none (Mv.refl w B none)).below hbx (Nat.le_refl _) |>.trans hFin.mv (.inl rfl))⟩)

theorem hearing_any (B base : Nat) (c : Cf) (hc : c.Ok) (s : St) (v : Value) (w : World) (k : Nat) (hg : Good c s k) (hk : k ≤ 4000) (h : SndAt w B base c s v) (x : Int) (x0 : 0 ≤ x) (x1 : x ≤ 4294967295) :
    Calls Try.prog 89 #[.agg #[.int .u32 x], .pointer (some ⟨B, 0, none⟩)] w (StepsTo w B base c v (hearF c s x)) := by
  have a1 := hg.all
  by_cases hf : s.tags.length < farF c s x
  · exact hearing_stale B base c s v w h x x0 x1 (by omega) hf
  · exact hearing_ok B base c hc s v w h x x0 x1 (by omega) hg.d hf
end Go.Proofs.Ytincfdhfoaimbaa
