import Derived.Test.YtincfdhfoaimbaaSubHap
import Derived.Deep.RegionHeld3
import Derived.Deep.RegionLaw
import Derived.Deep.Cut
import Derived.Deep.CutRange
namespace Go.Proofs.Ytincfdhfoaimbaa
open Go.ChangeShapes Go.WideShapes Go.ChangeAt Go.RowKit
set_option linter.unusedVariables false

set_option maxHeartbeats 400000 in
theorem sending_refused (B base : Nat) (c : Cf) (hc : c.Ok) (s : St) (v : Value) (w : World) (h : SndAt w B base c s v) (t : Int) (hd : s.dead = 0 ∨ s.dead = 1) (hl : s.tags.length ≤ 5000) (hno : s.dead = 1 ∨ c.win ≤ s.tags.length) :
    Calls Try.prog 88 #[.agg #[.int .i64 t], .pointer (some ⟨B, 0, none⟩)] w (StepsTo w B base c v (sendF c s t)) := by
  obtain ⟨⟨k0, k1, k2, k3, k4, k5, k6, k7, k8, k9, k10, k11, k12⟩, kf⟩ := cells13 h.blk
  have hB := h.lt
  have hA : At w B base c none s v w := At.begin h
  obtain ⟨a, cap, rfl, h1, h2, h3, hi⟩ := h.row.shape
  by_cases hd1 : s.dead = 1
  · have hQ : sendF c s t = (⟨10, [], [], 0, 0⟩, s) := by unfold sendF; rw [if_pos hd1]
    rw [hQ]
    rw [hd1] at k12
    clear kf hd1 hQ hno hd
    go_enter Try.func88, Try.ntmps88
    go_wp2
    exact bodyPost_ret (v := .agg #[.int .i64 10, .slice none 0 0, .slice none 0 0, .int .i64 0, .int .i64 0]) (by simp [results, Try.results88, go_sem]) rfl (((hA.alloc _).alloc _).plain (s := s) rfl rfl rfl rfl)
  · have hd0 : s.dead = 0 := by omega
    have hw : c.win ≤ s.tags.length := by omega
    have hQ : sendF c s t = (⟨9, [], [], 0, 0⟩, s) := by unfold sendF; rw [if_neg hd1, if_pos hw]
    rw [hQ]
    rw [hd0] at k12
    clear kf hd1 hQ hno hd hd0
    have hbx : Below w.heap.size w (w.alloc (.cells #[.int .i64 t] 124)) := (Below.refl _ _).alloc (Nat.le_refl _) _
    have hA1 : At (w.alloc (.cells #[.int .i64 t] 124)) B base c none s (.slice a s.tags.length cap) (w.alloc (.cells #[.int .i64 t] 124)) := At.begin (alloc_keeps h _)
    go_enter Try.func88, Try.ntmps88
    go_wp2
    go_quiet (fail)
    go_wp2
    exact bodyPost_ret (v := .agg #[.int .i64 9, .slice none 0 0, .slice none 0 0, .int .i64 0, .int .i64 0]) (by simp [results, Try.results88, go_sem]) rfl (stepsTo_from hbx ((((hA1.alloc zeroOut).drewN nq).box5 (by simp) _ _ _ _ _).plain (s := s) rfl rfl rfl rfl))

theorem next_drew (B base : Nat) (c : Cf) (s : St) (v : Value) (w : World) (h : SndAt w B base c s v) (hl : s.tags.length ≤ 5000) :
    Calls Try.prog 62 #[.pointer (some ⟨B, 0, none⟩)] w fun e w' => ∃ n, e = .returned (.int .u32 (seqOf c (s.done + s.tags.length))) ∧ w' = w.drewN n := by
  obtain ⟨⟨k0, k1, k2, k3, k4, k5, k6, k7, k8, k9, k10, k11, k12⟩, kf⟩ := cells13 h.blk
  obtain ⟨a, cap, rfl, h1, h2, h3, hi⟩ := h.row.shape
  have hf := seqOf_fits c s.done
  have hs := seqOf_add c s.done s.tags.length
  obtain ⟨q, hq⟩ : ∃ q, q = seqOf c s.done := ⟨_, rfl⟩
  rw [← hq] at hs hf k6
  have HS : Hid _ := hs
  clear hs hq kf
  go_enter Try.func62, Try.ntmps62
  go_wp2
  go_quiet (fail)
  go_wp2
  go_ret
  exact ⟨nq, by rw [← HS.out]; rfl, rfl⟩

/-- Behind the frame's making. -/
structure Made (w : World) (B base : Nat) (c : Cf) (s : St) (v : Value) (t q : Int) (wx : World) : Prop where
  at_ : At (w.alloc (.cells #[.int .i64 t] 124)) B base c none s v wx
  size : wx.heap.size = w.heap.size + 3
  e : wx.heap[w.heap.size]? = some (.cells #[.int .i64 t] 124)
  r : wx.heap[w.heap.size + 1]? = some zeroOut
  f : wx.heap[w.heap.size + 2]? = some (.cells #[.int .i64 1, .int .u32 q, .int .i64 t] 49)

theorem At.far {w0 w : World} {B base : Nat} {c : Cf} {r : Option Nat} {s : St} {v : Value} (h : At w0 B base c r s v w) (k j : Nat) (x : Value) (hk : w0.heap.size ≤ k) (hv : v.ownBlock ≠ some k) : At w0 B base c r s v (w.setCell ⟨k, j, none⟩ x) :=
  ⟨⟨(heap_setCell_other _ _ _ _ (by have := h.hb; simp; omega)).trans h.snd.blk, h.snd.row.kept fun i hi => heap_setCell_other _ _ _ _ (fun e => hv (by rw [hi, e])), h.snd.ne⟩, h.mv.grown (grown_set _ _ _ _) (.inr (.inr fun i hi => by have := Option.some.inj hi; omega)), h.hb, h.hv⟩

theorem made1 {w : World} {B base : Nat} {c : Cf} {s : St} {v : Value} {t q : Int} (hA1 : At (w.alloc (.cells #[.int .i64 t] 124)) B base c none s v (w.alloc (.cells #[.int .i64 t] 124))) (n : Nat) :
    Made w B base c s v t q ((((w.alloc (.cells #[.int .i64 t] 124)).alloc zeroOut).drewN n).alloc (.cells #[.int .i64 1, .int .u32 q, .int .i64 t] 49)) := by
  refine ⟨((hA1.alloc zeroOut).drewN n).alloc _, by simp, ?_, ?_, ?_⟩
  · rw [Below.heap_alloc _ _ _ (by simp; omega)]
    exact (Below.heap_alloc _ _ _ (by simp)).trans (box_new w _ _ rfl)
  · rw [Below.heap_alloc _ _ _ (by simp)]
    exact box_new _ zeroOut _ (by simp)
  · exact box_new _ _ _ (by simp)
theorem made2 {w : World} {B base : Nat} {c : Cf} {s : St} {v : Value} {t q : Int} (hA1 : At (w.alloc (.cells #[.int .i64 t] 124)) B base c none s v (w.alloc (.cells #[.int .i64 t] 124))) (n m : Nat) :
    Made w B base c s v t q (((((((w.alloc (.cells #[.int .i64 t] 124)).alloc zeroOut).drewN n).alloc (.cells #[.int .i64 0, .int .u32 0, .int .i64 0] 49)).drewN m).setCell ⟨w.heap.size + 1 + 1, 0, none⟩ (.int .i64 1)).setCell ⟨w.heap.size + 1 + 1, 1, none⟩ (.int .u32 q) |>.setCell ⟨w.heap.size + 1 + 1, 2, none⟩ (.int .i64 t)) := by
  have hv : v.ownBlock ≠ some (w.heap.size + 1 + 1) := fun e => by have := (hA1.snd.row.lt e).2; have hz : (w.alloc (.cells #[.int .i64 t] 124)).heap.size = w.heap.size + 1 := (by simp); omega
  have h0 := (((hA1.alloc zeroOut).drewN n).alloc (.cells #[.int .i64 0, .int .u32 0, .int .i64 0] 49)).drewN m
  have hs : (w.alloc (.cells #[.int .i64 t] 124)).heap.size ≤ w.heap.size + 1 + 1 := by simp
  have hf0 : (((((w.alloc (.cells #[.int .i64 t] 124)).alloc zeroOut).drewN n).alloc (.cells #[.int .i64 0, .int .u32 0, .int .i64 0] 49)).drewN m).heap[w.heap.size + 1 + 1]? = some (.cells #[.int .i64 0, .int .u32 0, .int .i64 0] 49) := box_new _ _ _ (by simp)
  refine ⟨((h0.far _ 0 _ hs hv).far _ 1 _ hs hv).far _ 2 _ hs hv, by simp, ?_, ?_, ?_⟩
  · rw [heap_setCell_other _ _ _ _ (by simp; omega), heap_setCell_other _ _ _ _ (by simp; omega), heap_setCell_other _ _ _ _ (by simp; omega)]
    show ((((w.alloc _).alloc zeroOut).drewN n).alloc _).heap[w.heap.size]? = _
    rw [Below.heap_alloc _ _ _ (by simp; omega)]
    exact (Below.heap_alloc _ _ _ (by simp)).trans (box_new w _ _ rfl)
  · rw [heap_setCell_other _ _ _ _ (by simp), heap_setCell_other _ _ _ _ (by simp), heap_setCell_other _ _ _ _ (by simp)]
    show ((((w.alloc _).alloc zeroOut).drewN n).alloc _).heap[w.heap.size + 1]? = _
    rw [Below.heap_alloc _ _ _ (by simp)]
    exact box_new _ zeroOut _ (by simp)
  · rw [Go.Joins.block_setCell (Go.Joins.block_setCell (Go.Joins.block_setCell hf0 _) _) _]
    rfl

theorem box_read (W : World) (o : Obj) {R : Nat} {t : TypeId} {y0 y1 y2 y3 y4 : Value} (h : W.heap[R]? = some (.cells #[y0, y1, y2, y3, y4] t (0, 0))) (x0 x1 x2 x3 x4 : Value) :
    ((((((W.setCell ⟨R, 0, none⟩ x0).setCell ⟨R, 1, none⟩ x1).setCell ⟨R, 2, none⟩ x2).setCell ⟨R, 3, none⟩ x3).setCell ⟨R, 4, none⟩ x4).alloc o).heap[R]? = some (.cells #[x0, x1, x2, x3, x4] t (0, 0)) := by
  have hR := (Array.getElem?_eq_some_iff.1 h).1
  rw [Below.heap_alloc _ _ _ (by simpa using hR), Go.Joins.block_setCell (Go.Joins.block_setCell (Go.Joins.block_setCell (Go.Joins.block_setCell (Go.Joins.block_setCell h _) _) _) _) _]
  rfl
/-- Behind the append. -/
structure Pushed (w : World) (B base : Nat) (c : Cf) (s : St) (v : Value) (t q : Int) (v' : Value) (wx : World) : Prop where
  snd : SndAt wx B base c { s with tags := s.tags ++ [t] } v'
  mv : Mv w wx B v.ownBlock
  blk : v'.ownBlock = v.ownBlock ∨ ∀ k, v'.ownBlock = some k → w.heap.size + 3 ≤ k
  r : wx.heap[w.heap.size + 1]? = some zeroOut
  f : wx.heap[w.heap.size + 2]? = some (.cells #[.int .i64 1, .int .u32 q, .int .i64 t] 49)

theorem pushed_cells {w wc w4 : World} {B base : Nat} {c : Cf} {s : St} {v : Value} {t q : Int} {o : Obj} (hM : Made w B base c s v t q wc) (hg : (wc.alloc o).drew.grownBy w4 v.ownBlock) (hv : ∀ k, v.ownBlock = some k → k < w.heap.size) :
    w4.heap[B]? = some (.cells (sndCells c s v) 89 (0, 0)) ∧ (∀ k, k < wc.heap.size → some k ≠ v.ownBlock → w4.heap[k]? = wc.heap[k]?) ∧ wc.heap.size + 1 ≤ w4.heap.size := by
  have h1 : ∀ k, k < wc.heap.size → some k ≠ v.ownBlock → w4.heap[k]? = wc.heap[k]? := fun k hk hne => (hg.block k (by simp; omega) hne).trans (Below.heap_alloc _ _ _ hk)
  exact ⟨(h1 B hM.at_.snd.lt (fun e => hM.at_.snd.ne e.symm)).trans hM.at_.snd.blk, h1, by have := hg.size; simpa using this⟩

theorem pushed_of {w wc w4 : World} {B base : Nat} {c : Cf} {s : St} {v : Value} {t q : Int} {o : Obj} {v' : Value} (hM : Made w B base c s v t q wc) (hv : ∀ k, v.ownBlock = some k → k < w.heap.size) (hT : Tags w4 base v' (s.tags ++ [t])) (hg : (wc.alloc o).drew.grownBy w4 v.ownBlock) (hat : v'.ownBlock = v.ownBlock ∨ ∀ k, v'.ownBlock = some k → (wc.alloc o).drew.heap.size ≤ k) :
    Pushed w B base c s v t q v' (w4.setCell ⟨B, 7, none⟩ v') := by
  obtain ⟨hb, hk, hs⟩ := pushed_cells hM hg hv
  have hsz := hM.size
  have hBlt := hM.at_.hb
  have hB : B < w.heap.size + 1 := by simpa using hBlt
  have hat' : v'.ownBlock = v.ownBlock ∨ ∀ k, v'.ownBlock = some k → w.heap.size + 3 ≤ k := by
    rcases hat with e | e
    · exact .inl e
    · refine .inr fun k hk => ?_
      have h1 := e k hk
      have h2 : (wc.alloc o).drew.heap.size = wc.heap.size + 1 := by simp
      omega
  have hne : v'.ownBlock ≠ some B := by
    rcases hat' with e | e
    · rw [e]; exact hM.at_.snd.ne
    · intro hb; have := e B hb; omega
  have hnv : ∀ j, w.heap.size ≤ j → j < wc.heap.size → some j ≠ v.ownBlock := fun j h1 h2 e => by have := hv j e.symm; omega
  refine ⟨⟨?_, hT.kept fun j hj => heap_setCell_other _ _ _ _ (fun e => hne (by rw [hj, e])), hne⟩, ?_, hat', ?_, ?_⟩
  · rw [Go.Joins.block_setCell hb _]
    rfl
  · have hmw : Mv w wc B v.ownBlock := by
      have h1 := hM.at_.mv
      exact ((mv_none (Mv.refl w B none)).below ((Below.refl _ _).alloc (Nat.le_refl _) _) (Nat.le_refl _)).trans (mv_none h1) (.inl rfl)
    exact ((hmw.alloc o).drew.grown hg (.inl rfl)).set 7 v'
  · by_cases hBe : B = w.heap.size + 1
    · omega
    rw [heap_setCell_other _ _ _ _ (fun e => hBe e.symm), hk _ (by omega) (hnv _ (by omega) (by omega))]
    exact hM.r
  · by_cases hBe : B = w.heap.size + 2
    · omega
    rw [heap_setCell_other _ _ _ _ (fun e => hBe e.symm), hk _ (by omega) (hnv _ (by omega) (by omega))]
    exact hM.f

set_option maxHeartbeats 4000000 in
theorem sending_ok (B base : Nat) (c : Cf) (hc : c.Ok) (s : St) (v : Value) (w : World) (h : SndAt w B base c s v) (t : Int) (hl : s.tags.length ≤ 5000) (hbs : base ≤ w.heap.size) (hd : s.dead = 0) (hw : ¬ c.win ≤ s.tags.length) :
    Calls Try.prog 88 #[.agg #[.int .i64 t], .pointer (some ⟨B, 0, none⟩)] w (StepsTo w B base c v (sendF c s t)) := by
  obtain ⟨⟨k0, k1, k2, k3, k4, k5, k6, k7, k8, k9, k10, k11, k12⟩, kf⟩ := cells13 h.blk
  have hB := h.lt
  have hQ : sendF c s t = (⟨0, [(1, seqOf c (s.done + s.tags.length), t)], [], 0, 0⟩, { s with tags := s.tags ++ [t], timer := if s.timer = 0 then s.rto else s.timer }) := by unfold sendF; rw [if_neg (by omega), if_neg hw]
  rw [hQ]
  obtain ⟨T, hT⟩ : ∃ T, Hid (T = if s.timer = 0 then s.rto else s.timer) := ⟨_, rfl⟩
  rw [← hT.out]
  obtain ⟨a, cap, rfl, h1, h2, h3, hi⟩ := h.row.shape
  rw [hd] at k12
  clear kf hQ hd
  have hbx : Below w.heap.size w (w.alloc (.cells #[.int .i64 t] 124)) := (Below.refl _ _).alloc (Nat.le_refl _) _
  have hA1 : At (w.alloc (.cells #[.int .i64 t] 124)) B base c none s (.slice a s.tags.length cap) (w.alloc (.cells #[.int .i64 t] 124)) := At.begin (alloc_keeps h _)
  obtain ⟨q, hq⟩ : ∃ q, Hid (q = seqOf c (s.done + s.tags.length)) := ⟨_, rfl⟩
  rw [← hq.out]
  go_enter Try.func88, Try.ntmps88
  go_wp2
  go_quiet (fail)
  have hA2 := (hA1.alloc zeroOut).drewN nq
  go_upto_region 5 with fail
  go_cut [5] from 24 to 28 (fun p wx => p = .pointer (some ⟨w.heap.size + 2, 0, none⟩) ∧ Made w B base c s (.slice a s.tags.length cap) t q wx)
  case first =>
    have L1 := next_drew B base c s _ _ ((hA1.alloc zeroOut).drewN (nq + 1)).snd hl
    have L2 := fun o => next_drew B base c s _ _ (((hA1.alloc zeroOut).drewN (nq + 1)).alloc o).snd hl
    rw [← hq.out] at L1
    simp only [← hq.out] at L2
    go_region_with (first
      | (go_at_call 62; with_reducible (refine Calls.mono L1 ?_); rintro e w6 ⟨n6, rfl, rfl⟩)
      | (go_at_call 62; with_reducible (refine Calls.mono (L2 _) ?_); rintro e w6 ⟨n6, rfl, rfl⟩))
    all_goals
      go_wp2_with fail
      go_meet
      case rel => first | exact ⟨rfl, made1 hA1 _⟩ | exact ⟨rfl, made2 hA1 _ _⟩
  case rest =>
    obtain ⟨rfl, hM⟩ := hcut
    clear k0 k1 k2 k3 k4 k5 k6 k7 k8 k9 k10 k11 k12 hA2
    obtain ⟨⟨k0, k1, k2, k3, k4, k5, k6, k7, k8, k9, k10, k11, k12⟩, kf⟩ := cells13 hM.at_.snd.blk
    have f7 := kf 7
    have f8 := kf 8
    have e0 : wc.cell? ⟨w.heap.size, 0, none⟩ = some (.int .i64 t) := Go.Joins.cell_of_block hM.e 0
    have HSZ : Hid (wc.heap.size = w.heap.size + 3) := hM.size
    have nn1 : ¬ B = w.heap.size := by omega
    have hne := hM.at_.snd.ne
    have hrow := hM.at_.snd.row
    have hrlt : ∀ k, (Value.slice a s.tags.length cap).ownBlock = some k → k < w.heap.size := fun k hk => (h.row.lt hk).2
    have hBc : B < wc.heap.size := by have := HSZ.out; omega
    clear kf
    have hbse : base ≤ (wc.alloc (.cells #[.int .i64 t] 2)).heap.size := by have := HSZ.out; simp; omega
    have hme := hM.e
    have hmr := hM.r
    have hmf := hM.f
    have hmb := hM.at_.snd.blk
    have hmv := hM.at_.mv
    go_upto_region 6 with fail
    go_cut [37] from 29 to 39 (fun p wx => ∃ v', Pushed w B base c s (.slice a s.tags.length cap) t q v' wx)
    case first =>
      go_region_law (first
        | (refine step_appTag (wc.alloc (.cells #[.int .i64 t] 2)).drew (by rfl) _ _ (by rfl) base _ s.tags t (by rfl) (hrow.kept (w' := (wc.alloc (.cells #[.int .i64 t] 2)).drew) (fun k hk => Below.heap_alloc _ _ _ (hrow.lt hk).2)) ⟨wc.heap.size, 0, none⟩ (by rfl) (by simp) (by omega) hbse ?_; intro v' w4 hT4 hg4 hat4; have hcm := pushed_cells hM hg4 hrlt; obtain ⟨a4, cap4, rfl, j1, j2, j3, j4⟩ := hT4.shape; rw [show (s.tags ++ [t]).length = s.tags.length + 1 by simp] at hT4 hat4; have cB : w4.cell? ⟨B, 7, none⟩ = some (.slice a s.tags.length cap) := Go.Joins.cell_of_block hcm.1 7; have fB : w4.frozen? ⟨B, 7, none⟩ = false := Go.Joins.unfrozen_of_block hcm.1 7))
      all_goals
        go_wp2_with fail
        go_meet
        case rel => exact ⟨_, pushed_of hM hrlt hT4 hg4 hat4⟩
    case rest =>
      obtain ⟨v', hP⟩ := hcut
      clear k0 k1 k2 k3 k4 k5 k6 k7 k8 k9 k10 k11 k12 f7 f8 e0 hme hmr hmf hmb hmv hrow hne hM hA1 hBc HSZ hbse
      obtain ⟨⟨k0, k1, k2, k3, k4, k5, k6, k7, k8, k9, k10, k11, k12⟩, kf⟩ := cells13 hP.snd.blk
      have f8 := kf 8
      obtain ⟨⟨r0, r1, r2, r3, r4⟩, q0, q1, q2, q3, q4⟩ := cells5 hP.r
      have g0 : wc.cell? ⟨w.heap.size + 2, 0, none⟩ = some (.int .i64 1) := Go.Joins.cell_of_block hP.f 0
      have g1 : wc.cell? ⟨w.heap.size + 2, 1, none⟩ = some (.int .u32 q) := Go.Joins.cell_of_block hP.f 1
      have g2 : wc.cell? ⟨w.heap.size + 2, 2, none⟩ = some (.int .i64 t) := Go.Joins.cell_of_block hP.f 2
      have hzc : w.heap.size + 2 < wc.heap.size := (Array.getElem?_eq_some_iff.1 hP.f).1
      have hBc := hP.snd.lt
      have m1 : ¬ B = w.heap.size + 1 := by omega
      have m2 : ¬ w.heap.size + 1 = B := by omega
      have m3 : ¬ B = w.heap.size + 2 := by omega
      have m4 : ¬ w.heap.size + 2 = B := by omega
      have m5 : ¬ wc.heap.size = w.heap.size + 1 := by omega
      have m6 : ¬ w.heap.size + 1 = wc.heap.size := by omega
      have m7 : w.heap.size + 1 < wc.heap.size := by omega
      have hrv : v'.ownBlock ≠ some (w.heap.size + 1) := by
        rcases hP.blk with e | e
        · rw [e]; intro hk; have := hrlt _ hk; omega
        · intro hk; have := e _ hk; omega
      have hv0 : v'.ownBlock ≠ some w.heap.size := by
        rcases hP.blk with e | e
        · rw [e]; intro hk; have := hrlt _ hk; omega
        · intro hk; have := e _ hk; omega
      have hP0 : At w B base c (Value.slice a s.tags.length cap).ownBlock { s with tags := s.tags ++ [t] } v' wc := ⟨hP.snd, hP.mv, hB, hv0⟩
      have hbk : v'.ownBlock = (Value.slice a s.tags.length cap).ownBlock ∨ ∀ k, v'.ownBlock = some k → w.heap.size ≤ k := hP.blk.imp id (fun e k hk => by have := e k hk; omega)
      clear kf
      by_cases htz : s.timer = 0
      · obtain rfl : T = s.rto := by rw [hT.out, if_pos htz]
        rw [htz] at k8
        have hZ := box_read (wc.setCell ⟨B, 8, none⟩ (.int .i64 s.rto)) (.cells #[.int .i64 1, .int .u32 q, .int .i64 t] 49) ((heap_setCell_other _ _ _ _ m2).trans hP.r) (.int .i64 0) (.slice (some ⟨wc.heap.size, 0, none⟩) 1 1) (.slice none 0 0) (.int .i64 0) (.int .i64 0)
        have hF := ((((((hP0.timer s.rto).far (w.heap.size + 1) 0 (.int .i64 0) (by omega) hrv).far (w.heap.size + 1) 1 (.slice (some ⟨wc.heap.size, 0, none⟩) 1 1) (by omega) hrv).far (w.heap.size + 1) 2 (.slice none 0 0) (by omega) hrv).far (w.heap.size + 1) 3 (.int .i64 0) (by omega) hrv).far (w.heap.size + 1) 4 (.int .i64 0) (by omega) hrv).alloc (.cells #[.int .i64 1, .int .u32 q, .int .i64 t] 49)
        go_wp2
        obtain ⟨⟨z0, z1, z2, z3, z4⟩, _⟩ := cells5 hZ
        exact bodyPost_ret (v := .agg #[.int .i64 0, .slice (some ⟨wc.heap.size, 0, none⟩) 1 1, .slice none 0 0, .int .i64 0, .int .i64 0]) (by simp [results, Try.results88, go_sem, z0, z1, z2, z3, z4]) rfl
          ⟨_, _, v', rfl, hF.snd, hbk, frame1 _ _ _ (by simp) (by omega) _ _ _, World.ownsRow_nil _ _ _ _, (fun k hk => by cases hk), hF.mv⟩
      · obtain rfl : T = s.timer := by rw [hT.out, if_neg htz]
        have htb : (s.timer == 0) = false := by simpa using htz
        have hZ := box_read wc (.cells #[.int .i64 1, .int .u32 q, .int .i64 t] 49) hP.r (.int .i64 0) (.slice (some ⟨wc.heap.size, 0, none⟩) 1 1) (.slice none 0 0) (.int .i64 0) (.int .i64 0)
        have hF := (((((hP0.far (w.heap.size + 1) 0 (.int .i64 0) (by omega) hrv).far (w.heap.size + 1) 1 (.slice (some ⟨wc.heap.size, 0, none⟩) 1 1) (by omega) hrv).far (w.heap.size + 1) 2 (.slice none 0 0) (by omega) hrv).far (w.heap.size + 1) 3 (.int .i64 0) (by omega) hrv).far (w.heap.size + 1) 4 (.int .i64 0) (by omega) hrv).alloc (.cells #[.int .i64 1, .int .u32 q, .int .i64 t] 49)
        go_wp2
        obtain ⟨⟨z0, z1, z2, z3, z4⟩, _⟩ := cells5 hZ
        exact bodyPost_ret (v := .agg #[.int .i64 0, .slice (some ⟨wc.heap.size, 0, none⟩) 1 1, .slice none 0 0, .int .i64 0, .int .i64 0]) (by simp [results, Try.results88, go_sem, z0, z1, z2, z3, z4]) rfl
          ⟨_, _, v', rfl, hF.snd, hbk, frame1 _ _ _ (by simp) (by omega) _ _ _, World.ownsRow_nil _ _ _ _, (fun k hk => by cases hk), hF.mv⟩

theorem sending_any (B base : Nat) (c : Cf) (hc : c.Ok) (s : St) (v : Value) (w : World) (k : Nat) (hg : Good c s k) (hk : k ≤ 4000) (hbs : base ≤ w.heap.size) (h : SndAt w B base c s v) (t : Int) :
    Calls Try.prog 88 #[.agg #[.int .i64 t], .pointer (some ⟨B, 0, none⟩)] w (StepsTo w B base c v (sendF c s t)) := by
  have a1 := hg.all
  by_cases hno : s.dead = 1 ∨ c.win ≤ s.tags.length
  · exact sending_refused B base c hc s v w h t hg.d (by omega) hno
  · have := hg.d
    exact sending_ok B base c hc s v w h t (by omega) hbs (by omega) (by omega)
end Go.Proofs.Ytincfdhfoaimbaa
