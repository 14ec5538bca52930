import Derived.Test.YtincfdhfoaimbaaSpTick
import Derived.Deep.RegionLaw
import Derived.Deep.Cut
import Derived.Deep.CutRange
namespace Go.Proofs.Ytincfdhfoaimbaa
open Go.ChangeShapes Go.WideShapes Go.ChangeAt Go.RowKit
set_option linter.unusedVariables false

set_option maxHeartbeats 400000 in
theorem l4Send_dead (B base : Nat) (c : Cf) (s : St) (v : Value) (all : List Int) (w : World) (h : SpAt w B base c s v all) (t : Int) (hd : s.dead = 1) :
    Calls Try.prog 65 #[.pointer (some ⟨B, 0, none⟩), .int .i64 t] w (StepsToS w B base c v (sendF c s t)) := by
  have hQ : sendF c s t = (⟨10, [], [], 0, 0⟩, s) := by unfold sendF; rw [if_pos hd]
  rw [hQ]
  obtain ⟨⟨k0, k1, k2, k3, k4, k5, k6, k7, k8, k9, k10, k11, k12⟩, kf⟩ := cells13 h.blk
  have hB := h.lt
  have k12' : w.cell? ⟨B, 12, none⟩ = some (.bool true) := by rw [k12]; simp [hd]
  have hA : AtS w w.heap.size B base c s v all w := AtS.begin h (Nat.le_refl _)
  clear kf k12 hd hQ
  go_enter Try.func65, Try.ntmps65
  go_wp2
  exact bodyPost_ret (v := .agg #[.int .i64 10, .slice none 0 0, .slice none 0 0, .int .i64 0, .int .i64 0]) (by simp [results, Try.results65, go_sem]) rfl ((hA.alloc _).plain rfl rfl rfl rfl)

/-- As AtS, where the row has moved too. -/
structure AtR (w0 : World) (B base : Nat) (c : Cf) (r : Option Nat) (s : St) (v : Value) (all : List Int) (w : World) : Prop where
  snd : SpAt w B base c s v all
  mv : Mv w0 w B r
  hb : B < w0.heap.size
section
variable {w0 w : World} {B base : Nat} {c : Cf} {r : Option Nat} {s : St} {v : Value} {all : List Int}
theorem AtR.alloc (h : AtR w0 B base c r s v all w) (o : Obj) : AtR w0 B base c r s v all (w.alloc o) := ⟨h.snd.moved ((Below.refl _ _).alloc (Nat.le_refl _) o), h.mv.alloc o, h.hb⟩
theorem AtR.far (h : AtR w0 B base c r s v all w) (k j : Nat) (x : Value) (hk : w0.heap.size ≤ k) (hv : v.ownBlock ≠ some k) : AtR w0 B base c r s v all (w.setCell ⟨k, j, none⟩ x) :=
  ⟨⟨(heap_setCell_other _ _ _ _ (by have := h.hb; simp; omega)).trans h.snd.blk, h.snd.row.kept fun i hi => heap_setCell_other _ _ _ _ (fun e => hv (by rw [hi, e])), h.snd.len, h.snd.tg, h.snd.ne⟩, h.mv.grown (grown_set _ _ _ _) (.inr (.inr fun i hi => by have := Option.some.inj hi; omega)), h.hb⟩
theorem AtR.timer (h : AtR w0 B base c r s v all w) (x : Int) : AtR w0 B base c r { s with timer := x } v all (w.setCell ⟨B, 8, none⟩ (.int .i64 x)) :=
  ⟨⟨by rw [Go.Joins.block_setCell h.snd.blk _]; rfl, h.snd.row.kept fun k hk => heap_setCell_other _ _ _ _ (fun e => h.snd.ne (by rw [hk, e])), h.snd.len, h.snd.tg, h.snd.ne⟩, h.mv.set 8 _, h.hb⟩
theorem AtR.push {w4 : World} {v4 : Value} {t : Int} (hc : w4.heap[B]? = some (.cells (spCells c s v) 85 (0, 0))) (hT : Tags w4 base v4 (all ++ [t])) (hne : v4.ownBlock ≠ some B) (hl : all.length = s.done + s.tags.length) (ht : s.tags = all.drop s.done) (hm : Mv w0 w4 B r) (hb : B < w0.heap.size) :
    AtR w0 B base c r { s with tags := s.tags ++ [t] } v4 (all ++ [t]) (w4.setCell ⟨B, 6, none⟩ v4) :=
  ⟨⟨by rw [Go.Joins.block_setCell hc _]; rfl, hT.kept fun k hk => heap_setCell_other _ _ _ _ (fun e => hne (by rw [hk, e])), by simp; omega, by simp only; rw [List.drop_append_of_le_length (by omega), ← ht], hne⟩, hm.set 6 _, hb⟩
end

set_option maxHeartbeats 1000000 in
theorem l4Send_live (B base : Nat) (c : Cf) (hc : c.Ok) (s : St) (v : Value) (all : List Int) (w : World) (h : SpAt w B base c s v all) (hi0 : 0 ≤ c.isn ∧ c.isn ≤ 4294967295) (hl : all.length ≤ 1000000) (hbs : base ≤ w.heap.size) (t : Int) (hd : s.dead = 0) :
    Calls Try.prog 65 #[.pointer (some ⟨B, 0, none⟩), .int .i64 t] w (StepsToS w B base c v (sendF c s t)) := by
  obtain ⟨⟨k0, k1, k2, k3, k4, k5, k6, k7, k8, k9, k10, k11, k12⟩, kf⟩ := cells13 h.blk
  have hB := h.lt
  have k12' : w.cell? ⟨B, 12, none⟩ = some (.bool false) := by rw [k12]; simp [hd]
  have hA : AtS w w.heap.size B base c s v all w := AtS.begin h (Nat.le_refl _)
  obtain ⟨N, hN⟩ : ∃ N, Hid (N = s.tags.length) := ⟨_, rfl⟩
  have hN5 : N ≤ 1000000 := by have := hN.out; have := h.len; omega
  have HD : Hid (s.dead = 0) := hd
  have L1 := l4Out_any B base c s v all _ (hA.alloc zeroOut).drew.snd hl
  rw [← hN.out] at L1
  clear kf k12 hd
  go_enter Try.func65, Try.ntmps65
  go_upto_region 3 with fail
  go_cut [18] from 11 to 18 (fun b wx => b = .bool (decide (c.win ≤ (N : Int))) ∧ AtS w w.heap.size B base c s v all wx ∧ wx.heap[w.heap.size]? = some zeroOut)
  case first =>
    go_region_with (first | (go_at_call 53; with_reducible (refine Calls.mono L1 ?_); rintro e w6 ⟨n6, rfl, rfl⟩))
    all_goals
      go_wp2_with fail
      go_meet
      case rel => first | exact ⟨rfl, ((hA.alloc zeroOut).drew).drewN n6, box_new _ _ _ rfl⟩ | exact ⟨rfl, (hA.alloc zeroOut).drewN _, box_new _ _ _ rfl⟩
  case rest =>
    obtain ⟨rfl, hAc, hRc⟩ := hcut
    clear L1 k0 k1 k2 k3 k4 k5 k6 k7 k8 k9 k10 k11 k12'
    obtain ⟨⟨k0, k1, k2, k3, k4, k5, k6, k7, k8, k9, k10, k11, k12⟩, kf⟩ := cells13 hAc.snd.blk
    obtain ⟨⟨r0, r1, r2, r3, r4⟩, q0, q1, q2, q3, q4⟩ := cells5 hRc
    have hv0 : v.ownBlock ≠ some w.heap.size := fun e => by have := (h.row.lt e).2; omega
    have n1 : ¬ B = w.heap.size := by omega
    have n4 : ¬ w.heap.size = B := by omega
    by_cases hw : c.win ≤ (N : Int)
    · have hQ : sendF c s t = (⟨9, [], [], 0, 0⟩, s) := by unfold sendF; rw [if_neg (by have := HD.out; omega), if_pos (by rw [← hN.out]; exact hw)]
      have HQ : Hid _ := hQ
      have hdw : decide (c.win ≤ (N : Int)) = true := by simpa using hw
      clear hQ kf
      have hF := ((((hAc.far w.heap.size 0 (.int .i64 9) (Nat.le_refl _) hv0).far w.heap.size 1 (.slice none 0 0) (Nat.le_refl _) hv0).far w.heap.size 2 (.slice none 0 0) (Nat.le_refl _) hv0).far w.heap.size 3 (.int .i64 0) (Nat.le_refl _) hv0).far w.heap.size 4 (.int .i64 0) (Nat.le_refl _) hv0
      go_wp2
      exact bodyPost_ret (v := .agg #[.int .i64 9, .slice none 0 0, .slice none 0 0, .int .i64 0, .int .i64 0]) (by simp [results, Try.results65, go_sem, r0, r1, r2, r3, r4]) rfl (by rw [HQ.out]; exact hF.plain rfl rfl rfl rfl)
    · have hdw : decide (c.win ≤ (N : Int)) = false := by simpa using hw
      have hQ : sendF c s t = (⟨0, [(1, seqOf c (s.done + s.tags.length), t)], [], 0, 0⟩, { s with tags := s.tags ++ [t], timer := if s.timer = 0 then s.rto else s.timer }) := by unfold sendF; rw [if_neg (by have := HD.out; omega), if_neg (by rw [← hN.out]; exact hw)]
      have HQ : Hid _ := hQ
      obtain ⟨q, hq⟩ : ∃ q, Hid (q = seqOf c (s.done + s.tags.length)) := ⟨_, rfl⟩
      obtain ⟨a, cap, hv, g1, g2, g3, hi⟩ := hAc.snd.row.shape
      have hla : Hid (all.length = s.done + s.tags.length) := h.len
      obtain ⟨L, hL⟩ : ∃ L, Hid (L = all.length) := ⟨_, rfl⟩
      rw [hv, ← hL.out] at k6
      have hL5 : L ≤ 1000000 := by rw [hL.out]; exact hl
      have hw1 : IntKind.u32.wrap (L : Int) = (L : Int) := by rw [IntKind.wrap_u32]; omega
      have hw3 : (c.isn + (L : Int)) % 4294967296 = q := by rw [hq.out, hL.out, hla.out]; rfl
      have hw2 : IntKind.u32.wrap (c.isn + (L : Int)) = q := by rw [IntKind.wrap_u32]; exact hw3
      have HV : Hid (v = .slice a L cap) := by unfold Hid; rw [hL.out]; exact hv
      have hzc : w.heap.size < wc.heap.size := (Array.getElem?_eq_some_iff.1 hRc).1
      have hBc := hAc.snd.lt
      have f6 := kf 6
      have f8 := kf 8
      clear kf hQ hv
      have hvb : (Value.slice a L cap).ownBlock = v.ownBlock := by rw [HV.out]
      have hrow5 : Tags ((wc.alloc (.cells #[.int .i64 1, .int .u32 q, .int .i64 t] 49)).alloc (.cells #[.int .i64 t] 2)).drew base (.slice a L cap) all := by
        rw [← HV.out]
        exact hAc.snd.row.kept fun k hk => (Below.heap_alloc _ _ _ (by have := (hAc.snd.row.lt hk).2; simp; omega)).trans (Below.heap_alloc _ _ _ (hAc.snd.row.lt hk).2)
      have hs5 : ((wc.alloc (.cells #[.int .i64 1, .int .u32 q, .int .i64 t] 49)).alloc (.cells #[.int .i64 t] 2)).drew.heap.size = wc.heap.size + 2 := by simp
      have hb5 : base ≤ ((wc.alloc (.cells #[.int .i64 1, .int .u32 q, .int .i64 t] 49)).alloc (.cells #[.int .i64 t] 2)).drew.heap.size := by omega
      have ht5 : ((wc.alloc (.cells #[.int .i64 1, .int .u32 q, .int .i64 t] 49)).alloc (.cells #[.int .i64 t] 2)).drew.cell? ⟨wc.heap.size + 1, 0, none⟩ = some (.int .i64 t) := Go.Joins.cell_of_block (box_new (wc.alloc (.cells #[.int .i64 1, .int .u32 q, .int .i64 t] 49)) (.cells #[.int .i64 t] 2) (wc.heap.size + 1) (by simp)) 0
      have hla5 : all.length ≤ 4294967296 := by omega
      have hblk5 : ∀ k, k < wc.heap.size → ((wc.alloc (.cells #[.int .i64 1, .int .u32 q, .int .i64 t] 49)).alloc (.cells #[.int .i64 t] 2)).drew.heap[k]? = wc.heap[k]? := fun k hk => (Below.heap_alloc _ _ _ (by simp; omega)).trans (Below.heap_alloc _ _ _ hk)
      have hf5 : ((wc.alloc (.cells #[.int .i64 1, .int .u32 q, .int .i64 t] 49)).alloc (.cells #[.int .i64 t] 2)).drew.heap[wc.heap.size]? = some (.cells #[.int .i64 1, .int .u32 q, .int .i64 t] 49) := (Below.heap_alloc _ _ _ (by simp)).trans (box_new _ _ _ rfl)
      have m1 : ¬ wc.heap.size = B := by omega
      have m2 : ¬ B = wc.heap.size := by omega
      have m3 : ¬ wc.heap.size = w.heap.size := by omega
      have m4 : ¬ w.heap.size = wc.heap.size := by omega
      by_cases htz : s.timer = 0
      · have htz' : Hid (s.timer = 0) := htz
        go_wp2_with fail
        go_region
        go_wp2_with (at_builtin; refine wpList_appTag ((wc.alloc (.cells #[.int .i64 1, .int .u32 q, .int .i64 t] 49)).alloc (.cells #[.int .i64 t] 2)).drew (by rfl) _ _ (by rfl) base (.slice a L cap) all t (by rfl) hrow5 ⟨wc.heap.size + 1, 0, none⟩ (by rfl) ht5 hla5 hb5 ?_; intro v' w4 hT4 hg4 hat4; obtain ⟨a4, cap4, rfl, j1, j2, j3, j4⟩ := hT4.shape; have cB4 : w4.heap[B]? = some (.cells (spCells c s v) 85 (0, 0)) := (hg4.block B (by omega) (fun e => hAc.snd.ne (by rw [← hvb, ← e]))).trans ((hblk5 B hBc).trans hAc.snd.blk); obtain ⟨⟨c0, c1, c2, c3, c4, c5, c6, c7, c8, c9, c10, c11, c12⟩, cf⟩ := cells13 cB4; have cf6 := cf 6; have cf8 := cf 8; have hr4 : w4.heap[w.heap.size]? = some zeroOut := (hg4.block _ (by omega) (fun e => hv0 (by rw [← hvb, ← e]))).trans ((hblk5 _ hzc).trans hRc); have hf4 := (hg4.block wc.heap.size (by omega) (fun e => by have := (hAc.snd.row.lt (hvb ▸ e.symm)).2; omega)).trans hf5; obtain ⟨⟨s0, s1, s2, s3, s4⟩, u0, u1, u2, u3, u4⟩ := cells5 hr4; have g0 : w4.cell? ⟨wc.heap.size, 0, none⟩ = some (.int .i64 1) := Go.Joins.cell_of_block hf4 0; have g1 : w4.cell? ⟨wc.heap.size, 1, none⟩ = some (.int .u32 q) := Go.Joins.cell_of_block hf4 1; have g2 : w4.cell? ⟨wc.heap.size, 2, none⟩ = some (.int .i64 t) := Go.Joins.cell_of_block hf4 2; have z4 := hg4.size; have y1 : w.heap.size < w4.heap.size := (by omega); have y2 : ¬ w.heap.size = w4.heap.size := (by omega); have y3 : ¬ w4.heap.size = w.heap.size := (by omega))
        have hne4 : (Value.slice a4 (all ++ [t]).length cap4).ownBlock ≠ some B := by
          rcases hat4 with e | e
          · rw [e, hvb]; exact hAc.snd.ne
          · intro hk; have := e _ hk; omega
        have hbk4 : (Value.slice a4 (all ++ [t]).length cap4).ownBlock = v.ownBlock ∨ ∀ k, (Value.slice a4 (all ++ [t]).length cap4).ownBlock = some k → w.heap.size + 1 ≤ k := by
          rcases hat4 with e | e
          · exact .inl (e.trans hvb)
          · exact .inr fun k hk => by have := e k hk; omega
        have hvR : (Value.slice a4 (all ++ [t]).length cap4).ownBlock ≠ some w.heap.size := by
          rcases hbk4 with e | e
          · rw [e]; exact hv0
          · intro hk; have := e _ hk; omega
        have hm4 : Mv w w4 B v.ownBlock := (((mv_none hAc.mv).alloc (.cells #[.int .i64 1, .int .u32 q, .int .i64 t] 49)).alloc (.cells #[.int .i64 t] 2)).drew.grown hg4 (.inl hvb)
        have hP := AtR.push (t := t) cB4 hT4 hne4 hla.out h.tg hm4 hB
        rw [show (all ++ [t]).length = all.length + 1 by simp] at hP hvR hbk4
        have hG := ((((((hP.timer s.rto).far w.heap.size 0 (.int .i64 0) (Nat.le_refl _) hvR).far w.heap.size 1 (.slice (some ⟨w4.heap.size, 0, none⟩) 1 1) (Nat.le_refl _) hvR).far w.heap.size 2 (.slice none 0 0) (Nat.le_refl _) hvR).far w.heap.size 3 (.int .i64 0) (Nat.le_refl _) hvR).far w.heap.size 4 (.int .i64 0) (Nat.le_refl _) hvR).alloc (.cells #[.int .i64 1, .int .u32 q, .int .i64 t] 49)
        have hZ := box_read ((w4.setCell ⟨B, 6, none⟩ (.slice a4 (all.length + 1) cap4)).setCell ⟨B, 8, none⟩ (.int .i64 s.rto)) (.cells #[.int .i64 1, .int .u32 q, .int .i64 t] 49) ((heap_setCell_other _ _ _ _ n4).trans ((heap_setCell_other _ _ _ _ n4).trans hr4)) (.int .i64 0) (.slice (some ⟨w4.heap.size, 0, none⟩) 1 1) (.slice none 0 0) (.int .i64 0) (.int .i64 0)
        obtain ⟨⟨b0, b1, b2, b3, b4⟩, _⟩ := cells5 hZ
        exact bodyPost_ret (v := .agg #[.int .i64 0, .slice (some ⟨w4.heap.size, 0, none⟩) 1 1, .slice none 0 0, .int .i64 0, .int .i64 0]) (by simp [results, Try.results65, go_sem, b0, b1, b2, b3, b4]) rfl
          (by rw [HQ.out, if_pos htz'.out, ← hq.out]; exact ⟨_, _, _, _, rfl, hG.snd, hbk4.imp id (fun e k hk => by have := e k hk; omega), frame1 _ _ _ (by simp) (by omega) _ _ _, Tags.nil _ _, (fun k hk => by cases hk), hG.mv⟩)
      · have htb : (s.timer == 0) = false := by simpa using htz
        go_wp2_with fail
        go_region
        go_wp2_with (at_builtin; refine wpList_appTag ((wc.alloc (.cells #[.int .i64 1, .int .u32 q, .int .i64 t] 49)).alloc (.cells #[.int .i64 t] 2)).drew (by rfl) _ _ (by rfl) base (.slice a L cap) all t (by rfl) hrow5 ⟨wc.heap.size + 1, 0, none⟩ (by rfl) ht5 hla5 hb5 ?_; intro v' w4 hT4 hg4 hat4; obtain ⟨a4, cap4, rfl, j1, j2, j3, j4⟩ := hT4.shape; have cB4 : w4.heap[B]? = some (.cells (spCells c s v) 85 (0, 0)) := (hg4.block B (by omega) (fun e => hAc.snd.ne (by rw [← hvb, ← e]))).trans ((hblk5 B hBc).trans hAc.snd.blk); obtain ⟨⟨c0, c1, c2, c3, c4, c5, c6, c7, c8, c9, c10, c11, c12⟩, cf⟩ := cells13 cB4; have cf6 := cf 6; have cf8 := cf 8; have hr4 : w4.heap[w.heap.size]? = some zeroOut := (hg4.block _ (by omega) (fun e => hv0 (by rw [← hvb, ← e]))).trans ((hblk5 _ hzc).trans hRc); have hf4 := (hg4.block wc.heap.size (by omega) (fun e => by have := (hAc.snd.row.lt (hvb ▸ e.symm)).2; omega)).trans hf5; obtain ⟨⟨s0, s1, s2, s3, s4⟩, u0, u1, u2, u3, u4⟩ := cells5 hr4; have g0 : w4.cell? ⟨wc.heap.size, 0, none⟩ = some (.int .i64 1) := Go.Joins.cell_of_block hf4 0; have g1 : w4.cell? ⟨wc.heap.size, 1, none⟩ = some (.int .u32 q) := Go.Joins.cell_of_block hf4 1; have g2 : w4.cell? ⟨wc.heap.size, 2, none⟩ = some (.int .i64 t) := Go.Joins.cell_of_block hf4 2; have z4 := hg4.size; have y1 : w.heap.size < w4.heap.size := (by omega); have y2 : ¬ w.heap.size = w4.heap.size := (by omega); have y3 : ¬ w4.heap.size = w.heap.size := (by omega))
        have hne4 : (Value.slice a4 (all ++ [t]).length cap4).ownBlock ≠ some B := by
          rcases hat4 with e | e
          · rw [e, hvb]; exact hAc.snd.ne
          · intro hk; have := e _ hk; omega
        have hbk4 : (Value.slice a4 (all ++ [t]).length cap4).ownBlock = v.ownBlock ∨ ∀ k, (Value.slice a4 (all ++ [t]).length cap4).ownBlock = some k → w.heap.size + 1 ≤ k := by
          rcases hat4 with e | e
          · exact .inl (e.trans hvb)
          · exact .inr fun k hk => by have := e k hk; omega
        have hvR : (Value.slice a4 (all ++ [t]).length cap4).ownBlock ≠ some w.heap.size := by
          rcases hbk4 with e | e
          · rw [e]; exact hv0
          · intro hk; have := e _ hk; omega
        have hm4 : Mv w w4 B v.ownBlock := (((mv_none hAc.mv).alloc (.cells #[.int .i64 1, .int .u32 q, .int .i64 t] 49)).alloc (.cells #[.int .i64 t] 2)).drew.grown hg4 (.inl hvb)
        have hP := AtR.push (t := t) cB4 hT4 hne4 hla.out h.tg hm4 hB
        rw [show (all ++ [t]).length = all.length + 1 by simp] at hP hvR hbk4
        have hG := ((((((hP).far w.heap.size 0 (.int .i64 0) (Nat.le_refl _) hvR).far w.heap.size 1 (.slice (some ⟨w4.heap.size, 0, none⟩) 1 1) (Nat.le_refl _) hvR).far w.heap.size 2 (.slice none 0 0) (Nat.le_refl _) hvR).far w.heap.size 3 (.int .i64 0) (Nat.le_refl _) hvR).far w.heap.size 4 (.int .i64 0) (Nat.le_refl _) hvR).alloc (.cells #[.int .i64 1, .int .u32 q, .int .i64 t] 49)
        have hZ := box_read (w4.setCell ⟨B, 6, none⟩ (.slice a4 (all.length + 1) cap4)) (.cells #[.int .i64 1, .int .u32 q, .int .i64 t] 49) ((heap_setCell_other _ _ _ _ n4).trans hr4) (.int .i64 0) (.slice (some ⟨w4.heap.size, 0, none⟩) 1 1) (.slice none 0 0) (.int .i64 0) (.int .i64 0)
        obtain ⟨⟨b0, b1, b2, b3, b4⟩, _⟩ := cells5 hZ
        exact bodyPost_ret (v := .agg #[.int .i64 0, .slice (some ⟨w4.heap.size, 0, none⟩) 1 1, .slice none 0 0, .int .i64 0, .int .i64 0]) (by simp [results, Try.results65, go_sem, b0, b1, b2, b3, b4]) rfl
          (by rw [HQ.out, if_neg htz, ← hq.out]; exact ⟨_, _, _, _, rfl, hG.snd, hbk4.imp id (fun e k hk => by have := e k hk; omega), frame1 _ _ _ (by simp) (by omega) _ _ _, Tags.nil _ _, (fun k hk => by cases hk), hG.mv⟩)

theorem l4Send_any (B base : Nat) (c : Cf) (hc : c.Ok) (s : St) (v : Value) (all : List Int) (w : World) (k : Nat) (hg : Good c s k) (hk : k ≤ 900000) (hi0 : 0 ≤ c.isn ∧ c.isn ≤ 4294967295) (hbs : base ≤ w.heap.size) (h : SpAt w B base c s v all) (t : Int) :
    Calls Try.prog 65 #[.pointer (some ⟨B, 0, none⟩), .int .i64 t] w (StepsToS w B base c v (sendF c s t)) := by
  have a1 := hg.all
  have hl : all.length ≤ 1000000 := by have := h.len; omega
  rcases hg.d with hd | hd
  · exact l4Send_live B base c hc s v all w h hi0 hl hbs t hd
  · exact l4Send_dead B base c s v all w h t hd
end Go.Proofs.Ytincfdhfoaimbaa
