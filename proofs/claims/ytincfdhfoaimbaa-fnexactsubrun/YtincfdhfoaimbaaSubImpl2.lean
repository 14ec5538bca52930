import Derived.Test.YtincfdhfoaimbaaSubImpl
import Derived.Test.YtincfdhfoaimbaaRow3
namespace Go.Proofs.Ytincfdhfoaimbaa
open Go.ChangeShapes Go.WideShapes Go.ChangeAt Go.RowKit
set_option linter.unusedVariables false

theorem info_sf : (Try.prog.info? 49).map (fun i => (i.zero, i.size, i.bytes)) = some (some (.agg #[.int .i64 0, .int .u32 0, .int .i64 0]), 3, 24) := by kernel_rfl

/-- What is put into a sender's cells. -/
theorem snd_put {w : World} {B base : Nat} {c : Cf} {s s' : St} {v : Value} (h : SndAt w B base c s v) {w' : World} (hk : ∀ k, k ≠ B → w'.heap[k]? = w.heap[k]?) (hs : s'.tags = s.tags) (hb : w'.heap[B]? = some (.cells (sndCells c s' v) 89 (0, 0))) : SndAt w' B base c s' v :=
  ⟨hb, by rw [hs]; exact h.row.kept fun k hj => hk k (fun e => h.ne (by rw [hj, e])), h.ne⟩

theorem restart_any (B base : Nat) (c : Cf) (s : St) (v : Value) (w : World) (h : SndAt w B base c s v) (hl : s.tags.length ≤ 5000) :
    Calls Try.prog 87 #[.pointer (some ⟨B, 0, none⟩)] w fun e w' => e = .returned (.tuple #[]) ∧ SndAt w' B base c (restartF c s) v ∧ w'.heap.size = w.heap.size ∧ Mv w w' B none := by
  obtain ⟨⟨k0, k1, k2, k3, k4, k5, k6, k7, k8, k9, k10, k11, k12⟩, kf⟩ := cells13 h.blk
  obtain ⟨a, cap, rfl, h1, h2, h3, hi⟩ := h.row.shape
  have f8 := kf 8
  have f9 := kf 9
  have f10 := kf 10
  have hmv := Mv.refl w B none
  clear kf
  by_cases ht : s.tags = []
  · have hl0 : s.tags.length = 0 := by rw [ht]; rfl
    go_enter Try.func87, Try.ntmps87
    go_wp2
    refine bodyPost_end (v := .tuple #[]) (by simp [results, Try.results87, go_sem]) rfl ⟨rfl, snd_put h (fun k hk => ?_) rfl ?_, by simp, ((hmv.set _ _).set _ _).set _ _⟩
    · rw [heap_setCell_other _ _ _ _ hk, heap_setCell_other _ _ _ _ hk, heap_setCell_other _ _ _ _ hk]
    · rw [Go.Joins.block_setCell (Go.Joins.block_setCell (Go.Joins.block_setCell h.blk _) _) _]
      simp [restartF, ht]
  · have hl1 : 0 < s.tags.length := by cases hh : s.tags with
      | nil => exact absurd hh ht
      | cons _ _ => simp
    have hl2 : (0 : Int) < (s.tags.length : Int) := by omega
    go_enter Try.func87, Try.ntmps87
    go_wp2
    refine bodyPost_end (v := .tuple #[]) (by simp [results, Try.results87, go_sem]) rfl ⟨rfl, snd_put h (fun k hk => ?_) rfl ?_, by simp, (((hmv.set _ _).set _ _).set _ _).set _ _⟩
    · rw [heap_setCell_other _ _ _ _ hk, heap_setCell_other _ _ _ _ hk, heap_setCell_other _ _ _ _ hk, heap_setCell_other _ _ _ _ hk]
    · rw [Go.Joins.block_setCell (Go.Joins.block_setCell (Go.Joins.block_setCell (Go.Joins.block_setCell h.blk _) _) _) _]
      simp [restartF, ht]

theorem againF_take (c : Cf) (d : Nat) (ts : List Int) (k : Nat) (hk : k < ts.length) : againF c d (ts.take (k + 1)) = againF c d (ts.take k) ++ [(2, seqOf c (d + k), ts.getD k 0)] := by
  rw [List.take_succ_eq_append_getElem hk]
  unfold againF
  rw [List.mapIdx_append]
  simp [hk, Nat.min_eq_left (Nat.le_of_lt hk)]
theorem againF_length (c : Cf) (d : Nat) (ts : List Int) : (againF c d ts).length = ts.length := by simp [againF]

/-- All that is outstanding, once more. -/
theorem again_any (B base : Nat) (c : Cf) (s : St) (v : Value) (w : World) (h : SndAt w B base c s v) (hl : s.tags.length ≤ 5000) :
    Calls Try.prog 91 #[.pointer (some ⟨B, 0, none⟩)] w fun e w' => ∃ av cp, e = .returned (.slice av s.tags.length cp) ∧ w'.ownsRow w.heap.size 49 3 (.slice av s.tags.length cp) s.tags.length (flat3 .i64 .u32 .i64 (againF c s.done s.tags)) ∧ Below w.heap.size w w' := by
  obtain ⟨⟨k0, k1, k2, k3, k4, k5, k6, k7, k8, k9, k10, k11, k12⟩, kf⟩ := cells13 h.blk
  have hB := h.lt
  have hrow := h.row
  obtain ⟨a, cap, rfl, h1, h2, h3, hi⟩ := h.row.shape
  obtain ⟨n, hn⟩ : ∃ n, s.tags.length = n := ⟨_, rfl⟩
  have HN : Hid (s.tags.length = n) := hn
  rw [hn] at hl h1 k7
  rw [hn]
  clear hn kf
  go_enter Try.func91, Try.ntmps91
  go_wp2
  go_loopw [3, 11] (fun v i wr => ∃ (k : Nat) (av : Option Addr) (cp : Nat), k ≤ n ∧ i = .int .i64 k ∧ v = .slice av k cp ∧ wr.ownsRow w.heap.size 49 3 (.slice av k cp) k (flat3 .i64 .u32 .i64 (againF c s.done (s.tags.take k))) ∧ Below w.heap.size w wr) (fun _ i _ => n - (intOf i).toNat)
  case atStart => exact ⟨0, none, 0, Nat.zero_le _, rfl, rfl, World.ownsRow_nil _ _ _ _, Below.refl _ _⟩
  case round =>
    obtain ⟨k, av, cp, hk, rfl, rfl, hown, hbr⟩ := hrel
    by_cases hlt : k < n
    · rcases hi with h0 | ⟨b, off, rfl, hc⟩
      · have := HN.out; simp [h0] at this; omega
      have hck := hc k (by have := HN.out; omega)
      obtain ⟨t, ht⟩ : ∃ t, Hid (s.tags.getD k 0 = t) := ⟨_, rfl⟩
      rw [ht.out] at hck
      have hcr : wr.cell? ⟨b, off + k, none⟩ = some (.int .i64 t) := by rw [hbr.cell (World.block_lt_of_cell? w _ hck)]; exact hck
      have k6r : wr.cell? ⟨B, 6, none⟩ = some (.int .u32 (seqOf c s.done)) := by rw [hbr.cell hB]; exact k6
      have hf := seqOf_fits c s.done
      have hs := seqOf_add c s.done k
      obtain ⟨q, hq⟩ : ∃ q, Hid (q = seqOf c s.done) := ⟨_, rfl⟩
      obtain ⟨q2, hq2⟩ : ∃ q2, Hid (q2 = seqOf c (s.done + k)) := ⟨_, rfl⟩
      rw [← hq.out] at hf hs k6r
      rw [← hq2.out] at hs
      obtain ⟨S, hS⟩ : ∃ S, Hid (S = againF c s.done (s.tags.take k)) := ⟨_, rfl⟩
      rw [← hS.out] at hown
      have hSl : Hid (S.length = k) := by unfold Hid; rw [hS.out, againF_length]; have := HN.out; simp; omega
      have hS2 : Hid (againF c s.done (s.tags.take (k + 1)) = S ++ [(2, q2, t)]) := by unfold Hid; rw [againF_take c s.done s.tags k (by have := HN.out; omega), ← hS.out, ← hq2.out, ht.out]
      have hszr := hbr.size
      clear hc hck k6
      go_wp2_with (at_builtin; refine wpList_app3 _ (by rfl) _ _ 45 49 (by rfl) .i64 .u32 .i64 24 Try.underlying45 info_sf (by decide) w.heap.size av k cp S hSl.out 2 q2 t (by rfl) (hown.alloc _) wr.heap.size (by rfl) (by simp) (by simp) (by simp) (by omega) (by simp; omega) ?_; intro g cap' w4 ho4 hg4)
      go_roundw
      case rel => exact ⟨k + 1, _, _, by omega, by go_num, rfl, by rw [hS2.out]; exact ho4, (hbr.alloc hszr _).grown hg4 (by simp; omega) (fun k' hk' => (hown.lt k' hk').1)⟩
      case measure => simp [intOf]; omega
    · obtain rfl : k = n := by omega
      go_wp2
      go_ret
      exact ⟨av, cp, rfl, by rw [show s.tags.take k = s.tags by rw [List.take_of_length_le (by have := HN.out; omega)]] at hown; exact hown, hbr⟩

/-- What comes of an event: the answer's rows are new, the sender is at B as before. -/
structure Stepped (w : World) (B base : Nat) (c : Cf) (v : Value) (R : Ot × St) (w' : World) (fv av v' : Value) : Prop where
  snd : SndAt w' B base c R.2 v'
  blk : v'.ownBlock = v.ownBlock ∨ ∀ k, v'.ownBlock = some k → w.heap.size ≤ k
  fr : w'.ownsRow w.heap.size 49 3 fv R.1.frames.length (flat3 .i64 .u32 .i64 R.1.frames)
  ak : w'.ownsRow w.heap.size 2 1 av R.1.acked.length (R.1.acked.map (.int .i64))
  ap : ∀ k, av.ownBlock = some k → v'.ownBlock ≠ some k
  mv : Mv w w' B v.ownBlock
def StepsTo (w : World) (B base : Nat) (c : Cf) (v : Value) (R : Ot × St) (e : Ending) (w' : World) : Prop :=
  ∃ fv av v', e = .returned (.agg #[.int .i64 R.1.code, fv, av, .int .i64 R.1.died, .int .i64 R.1.revived]) ∧ Stepped w B base c v R w' fv av v'

/-- An answer that is a number alone. -/
theorem stepsTo_plain {w w' : World} {B base : Nat} {c : Cf} {s : St} {v : Value} {R : Ot × St} (hs : SndAt w' B base c R.2 v) (hf : R.1.frames = []) (ha : R.1.acked = []) (hm : Mv w w' B none) {e : Ending}
    (he : e = .returned (.agg #[.int .i64 R.1.code, .slice none 0 0, .slice none 0 0, .int .i64 R.1.died, .int .i64 R.1.revived])) : StepsTo w B base c v R e w' :=
  ⟨_, _, v, he, hs, .inl rfl, by rw [hf]; exact World.ownsRow_nil _ _ _ _, by rw [ha]; exact World.ownsRow_nil _ _ _ _, (fun k hk => by cases hk), ⟨hm.os, hm.tape, hm.output, hm.size, fun k h1 h2 _ => hm.block k h1 h2 (by simp)⟩⟩

theorem SndAt.moved {w w' : World} {B base : Nat} {c : Cf} {s : St} {v : Value} (h : SndAt w B base c s v) (hb : Below w.heap.size w w') : SndAt w' B base c s v :=
  ⟨(hb.block B h.lt).trans h.blk, h.row.kept fun k hk => hb.block k (h.row.lt hk).2, h.ne⟩

theorem mv_none {w w' : World} {B : Nat} {r : Option Nat} (hm : Mv w w' B none) : Mv w w' B r := ⟨hm.os, hm.tape, hm.output, hm.size, fun k h1 h2 _ => hm.block k h1 h2 (by simp)⟩
theorem frame1 (W : World) (base b : Nat) (hb : b = W.heap.size) (h : base ≤ b) (x y z : Int) : (W.alloc (.cells #[.int .i64 x, .int .u32 y, .int .i64 z] 49)).ownsRow base 49 3 (.slice (some ⟨b, 0, none⟩) 1 1) 1 (flat3 .i64 .u32 .i64 [(x, y, z)]) := by
  subst hb
  exact ⟨rfl, .inr ⟨W.heap.size, 1, _, rfl, h, heap_alloc_new W _, Nat.le_refl _, by unfold maxLen; omega, rfl, rfl⟩⟩
theorem alloc_keeps {w : World} {B base : Nat} {c : Cf} {s : St} {v : Value} (h : SndAt w B base c s v) (o : Obj) : SndAt (w.alloc o) B base c s v := h.moved ((Below.refl _ _).alloc (Nat.le_refl _) o)

theorem unknown_any (B base : Nat) (c : Cf) (s : St) (v : Value) (w : World) (h : SndAt w B base c s v) :
    Calls Try.prog 95 #[.agg #[], .pointer (some ⟨B, 0, none⟩)] w (StepsTo w B base c v (⟨1, [], [], 0, 0⟩, s)) := by
  go_enter Try.func95, Try.ntmps95
  go_wp2
  exact bodyPost_ret (v := .agg #[.int .i64 1, .slice none 0 0, .slice none 0 0, .int .i64 0, .int .i64 0]) (by simp [results, Try.results95, go_sem]) rfl (stepsTo_plain (s := s) (alloc_keeps (alloc_keeps h _) _) rfl rfl (((Mv.refl w B none).alloc _).alloc _) rfl)

theorem own_alloc {w : World} {base : Nat} {e : TypeId} {size : Nat} {v : Value} {n : Nat} {xs : List Value} (h : w.ownsRow base e size v n xs) (o : Obj) : (w.alloc o).ownsRow base e size v n xs := h.alloc o

set_option maxHeartbeats 400000 in
theorem waitDead_any (B base : Nat) (c : Cf) (hc : c.Ok) (s : St) (v : Value) (w : World) (h : SndAt w B base c s v) (hd : s.dead = 1) (hp : 1 ≤ s.probe) (hp2 : s.probe ≤ 50) :
    Calls Try.prog 93 #[.pointer (some ⟨B, 0, none⟩)] w (StepsTo w B base c v (tickF c s)) := by
  obtain ⟨⟨k0, k1, k2, k3, k4, k5, k6, k7, k8, k9, k10, k11, k12⟩, kf⟩ := cells13 h.blk
  have f11 := kf 11
  have hB := h.lt
  clear kf
  by_cases hgt : 1 < s.probe
  · have hR : tickF c s = (⟨0, [], [], 0, 0⟩, { s with probe := s.probe - 1 }) := by unfold tickF; rw [if_pos hd, if_pos (by omega)]
    rw [hR]
    clear hd hR
    have hS : SndAt (w.setCell ⟨B, 11, none⟩ (.int .i64 (s.probe - 1))) B base c { s with probe := s.probe - 1 } v := by
      refine snd_put h (fun k hk => ?_) rfl ?_
      · rw [heap_setCell_other _ _ _ _ hk]
      · rw [Go.Joins.block_setCell h.blk _]
        rfl
    go_enter Try.func93, Try.ntmps93
    go_wp2
    exact bodyPost_ret (v := .agg #[.int .i64 0, .slice none 0 0, .slice none 0 0, .int .i64 0, .int .i64 0]) (by simp [results, Try.results93, go_sem]) rfl (stepsTo_plain (s := s) (alloc_keeps hS _) rfl rfl (((Mv.refl w B none).set _ _).alloc _) rfl)
  · have hR : tickF c s = (⟨0, [(3, seqOf c s.done, 0)], [], 0, 0⟩, { s with probe := c.pe }) := by unfold tickF; rw [if_pos hd, if_neg (by omega)]
    rw [hR]
    clear hd hR
    have hS : SndAt ((w.setCell ⟨B, 11, none⟩ (.int .i64 (s.probe - 1))).setCell ⟨B, 11, none⟩ (.int .i64 c.pe)) B base c { s with probe := c.pe } v := by
      refine snd_put h (fun k hk => ?_) rfl ?_
      · rw [heap_setCell_other _ _ _ _ hk, heap_setCell_other _ _ _ _ hk]
      · rw [Go.Joins.block_setCell (Go.Joins.block_setCell h.blk _) _]
        rfl
    go_enter Try.func93, Try.ntmps93
    go_wp2
    exact bodyPost_ret (v := .agg #[.int .i64 0, .slice (some ⟨w.heap.size + 1, 0, none⟩) 1 1, .slice none 0 0, .int .i64 0, .int .i64 0]) (by simp [results, Try.results93, go_sem]) rfl
      ⟨_, _, v, rfl, alloc_keeps (alloc_keeps hS _) _, .inl rfl, frame1 _ _ _ (by simp) (by omega) _ _ _, World.ownsRow_nil _ _ _ _, (fun k hk => by cases hk), mv_none (((((Mv.refl w B none).set _ _).set _ _).alloc _).alloc _)⟩
end Go.Proofs.Ytincfdhfoaimbaa
