import Derived.Test.YtincfdhfoaimbaaSpRun
namespace Go.Proofs.Ytincfdhfoaimbaa
open Go.ChangeShapes Go.WideShapes Go.ChangeAt Go.RowKit
set_option linter.unusedVariables false

abbrev vwCells (q0 q1 : Int) (tv : Value) (t r c p d : Int) : Array Value := #[.int .u32 q0, .int .u32 q1, tv, .int .i64 t, .int .i64 r, .int .i64 c, .int .i64 p, .int .i64 d]
/-- While the outstanding tags are gathered into the view. -/
structure GatherV (w : World) (B base : Nat) (c : Cf) (s : St) (v : Value) (all : List Int) (q0 q1 : Int) (j : Nat) (av : Option Addr) (cp : Nat) (wr : World) : Prop where
  at_ : SpAt wr B base c s v all
  bl : Below w.heap.size w wr
  r : wr.heap[w.heap.size]? = some (.cells (vwCells 0 0 (.slice none 0 0) 0 0 0 0 0) 54 (0, 0))
  o : wr.heap[w.heap.size + 1]? = some (.cells (vwCells q0 q1 (.slice av j cp) s.timer s.rto s.count s.probe 0) 54 (0, 0))
  row : Tags wr (w.heap.size + 2) (.slice av j cp) (s.tags.take j)
  vb : ∀ k, v.ownBlock = some k → k < w.heap.size
  hB : B < w.heap.size

theorem GatherV.push {w wr w4 : World} {B base : Nat} {c : Cf} {s : St} {v : Value} {all : List Int} {q0 q1 : Int} {j cp : Nat} {av a4 : Option Addr} {c4 : Nat} {t : Int} {o : Obj} (h : GatherV w B base c s v all q0 q1 j av cp wr) (hj : j < s.tags.length) (ht : s.tags.getD j 0 = t) (hT : Tags w4 (w.heap.size + 2) (.slice a4 (j + 1) c4) (s.tags.take j ++ [t])) (hg : (wr.alloc o).drew.grownBy w4 (Value.slice av j cp).ownBlock) :
    GatherV w B base c s v all q0 q1 (j + 1) a4 c4 (w4.setCell ⟨w.heap.size + 1, 2, none⟩ (.slice a4 (j + 1) c4)) := by
  have hb : ∀ k, (Value.slice av j cp).ownBlock = some k → w.heap.size + 2 ≤ k := fun k hk => (h.row.lt hk).1
  have hz : w.heap.size + 1 < wr.heap.size := (Array.getElem?_eq_some_iff.1 h.o).1
  have old : ∀ k, k < w.heap.size + 2 → k < wr.heap.size → w4.heap[k]? = wr.heap[k]? := fun k h1 h2 => (hg.block k (by simp; omega) (fun e => by have := hb k e.symm; omega)).trans (Below.heap_alloc _ _ _ h2)
  have old2 : ∀ k, k < w.heap.size → (w4.setCell ⟨w.heap.size + 1, 2, none⟩ (.slice a4 (j + 1) c4)).heap[k]? = wr.heap[k]? := fun k hk => (heap_setCell_other _ _ _ _ (by simp; omega)).trans (old k (by omega) (by omega))
  have hbl : Below w.heap.size w (w4.setCell ⟨w.heap.size + 1, 2, none⟩ (.slice a4 (j + 1) c4)) :=
    Below.setCell ((h.bl.alloc h.bl.size o).drew.grown hg (by simp; omega) (fun k hk => by have := hb k hk; omega)) (p := ⟨w.heap.size + 1, 2, none⟩) (by simp) _
  refine ⟨⟨(old2 B h.hB).trans h.at_.blk, h.at_.row.kept fun k hk => old2 k (h.vb k hk), h.at_.len, h.at_.tg, h.at_.ne⟩, hbl, ?_, ?_, ?_, h.vb, h.hB⟩
  · rw [heap_setCell_other _ _ _ _ (by simp), old _ (by omega) (by omega)]
    exact h.r
  · rw [Go.Joins.block_setCell ((old _ (by omega) hz).trans h.o) _]
    rfl
  · rw [List.take_succ_eq_append_getElem hj]
    have e : s.tags[j] = t := by rw [← ht]; simp [hj]
    rw [e]
    exact hT.kept fun k hk => heap_setCell_other _ _ _ _ (by have := (hT.lt hk).1; simp; omega)

set_option maxHeartbeats 1000000 in
set_option maxRecDepth 100000 in
theorem l4View_any (B base : Nat) (c : Cf) (s : St) (v : Value) (all : List Int) (w : World) (h : SpAt w B base c s v all) (hl : all.length ≤ 5000) (hci : 0 ≤ c.isn ∧ c.isn ≤ 4294967295) (hd01 : s.dead = 0 ∨ s.dead = 1) :
    Calls Try.prog 43 #[.pointer (some ⟨B, 0, none⟩)] w fun e w' => ∃ av cp, e = .returned (viewV c s (.slice av s.tags.length cp)) ∧ Tags w' w.heap.size (.slice av s.tags.length cp) s.tags ∧ Below w.heap.size w w' := by
  obtain ⟨⟨k0, k1, k2, k3, k4, k5, k6, k7, k8, k9, k10, k11, k12⟩, kf⟩ := cells13 h.blk
  obtain ⟨a, cap, hv, h1, h2, h3, hi⟩ := h.row.shape
  have hB := h.lt
  obtain ⟨L, hL⟩ : ∃ L, Hid (L = all.length) := ⟨_, rfl⟩
  obtain ⟨m, hm⟩ : ∃ m, Hid (m = s.tags.length) := ⟨_, rfl⟩
  have HLM : Hid (L = s.done + m) := by unfold Hid; rw [hL.out, hm.out]; exact h.len
  have hL5 : L ≤ 5000 := by rw [hL.out]; exact hl
  rw [hv, ← hL.out] at k6
  have HV : Hid (v = .slice a L cap) := by unfold Hid; rw [hL.out]; exact hv
  obtain ⟨q0, hq0⟩ : ∃ q, Hid (q = seqOf c s.done) := ⟨_, rfl⟩
  obtain ⟨q1, hq1⟩ : ∃ q, Hid (q = seqOf c (s.done + s.tags.length)) := ⟨_, rfl⟩
  unfold viewV
  rw [← hq1.out, ← hm.out, ← hq0.out]
  have e0 : (c.isn + (s.done : Int)) % 4294967296 = q0 := by rw [hq0.out]; rfl
  have e1 : (c.isn + (L : Int)) % 4294967296 = q1 := by rw [hq1.out, HLM.out, hm.out]; rfl
  have hd5 : s.done ≤ 5000 := by have := HLM.out; omega
  have l2 : B < w.heap.size + 1 := by omega
  have n1 : ¬ B = w.heap.size := by omega
  have n4 : ¬ w.heap.size = B := by omega
  have hvb : ∀ k, v.ownBlock = some k → k < w.heap.size := fun k hk => (h.row.lt hk).2
  have w1' : IntKind.u32.wrap (s.done : Int) = (s.done : Int) := by rw [IntKind.wrap_u32]; omega
  have w2' : IntKind.u32.wrap (L : Int) = (L : Int) := by rw [IntKind.wrap_u32]; omega
  obtain ⟨W1, hW1⟩ : ∃ W, W = w.alloc (.cells #[.int .u32 0, .int .u32 0, .slice none 0 0, .int .i64 0, .int .i64 0, .int .i64 0, .int .i64 0, .int .i64 0] 54) := ⟨_, rfl⟩
  have hb1 : Below w.heap.size w W1 := by rw [hW1]; exact (Below.refl _ _).alloc (Nat.le_refl _) _
  have hR1 : W1.heap[w.heap.size]? = some (.cells #[.int .u32 0, .int .u32 0, .slice none 0 0, .int .i64 0, .int .i64 0, .int .i64 0, .int .i64 0, .int .i64 0] 54) := by rw [hW1]; exact box_new _ _ _ rfl
  have hs1 : W1.heap.size = w.heap.size + 1 := by rw [hW1]; simp
  have hS1 := h.moved hb1
  have hs1a : B < W1.heap.size := hS1.lt
  have n6 : ¬ B = W1.heap.size := by omega
  have n7 : ¬ W1.heap.size = B := by omega
  have HS1 : Hid (W1.heap.size = w.heap.size + 1) := hs1
  have kk : ∀ i, W1.cell? ⟨B, i, none⟩ = w.cell? ⟨B, i, none⟩ := fun i => hb1.cell hB
  rw [← kk] at k0 k6 k7 k8 k9 k10 k11 k12
  have w3' : IntKind.u32.wrap (c.isn + (s.done : Int)) = q0 := by rw [IntKind.wrap_u32]; exact e0
  have w4' : IntKind.u32.wrap (c.isn + (L : Int)) = q1 := by rw [IntKind.wrap_u32]; exact e1
  clear kf hv h1 hi hs1 kk k1 k2 k3 k4 k5
  go_enter Try.func43, Try.ntmps43
  go_wp2
  rw [← hW1]
  clear hW1
  go_region_held3 (fun w' => w'.cell? ⟨B, 0, none⟩ = some (.int .u32 c.isn) ∧ w'.cell? ⟨B, 6, none⟩ = some (.slice a L cap) ∧ w'.cell? ⟨B, 7, none⟩ = some (.int .i64 s.done) ∧ w'.cell? ⟨B, 8, none⟩ = some (.int .i64 s.timer) ∧ w'.cell? ⟨B, 9, none⟩ = some (.int .i64 s.rto) ∧ w'.cell? ⟨B, 10, none⟩ = some (.int .i64 s.count) ∧ w'.cell? ⟨B, 11, none⟩ = some (.int .i64 s.probe))
    (first | (go_keep; done) | exact ⟨by assumption, by assumption, by assumption, by assumption, by assumption, by assumption, by assumption⟩)
    (fail)
  have hG0 : GatherV w B base c s v all q0 q1 0 none 0 (W1.alloc (.cells #[.int .u32 q0, .int .u32 q1, .slice none 0 0, .int .i64 s.timer, .int .i64 s.rto, .int .i64 s.count, .int .i64 s.probe, .int .i64 0] 54)).drew :=
    ⟨hS1.moved ((Below.refl _ _).alloc (Nat.le_refl _) _).drew, (hb1.alloc hb1.size _).drew, (Below.heap_alloc _ _ _ (by have := HS1.out; omega)).trans hR1, box_new _ _ _ HS1.out.symm, Tags.nil _ _, hvb, hB⟩
  rw [HS1.out]
  clear k0 k6 k7 k8 k9 k10 k11 k12 n6 n7 hs1a hR1 hS1
  go_wp2
  go_loopw [4] (fun i wr => ∃ (j : Nat) (av : Option Addr) (cp : Nat), j ≤ m ∧ i = .int .i64 ((s.done + j : Nat) : Int) ∧ GatherV w B base c s v all q0 q1 j av cp wr) (fun i _ => L - (intOf i).toNat)
  case atStart => exact ⟨0, none, 0, Nat.zero_le _, by simp, hG0⟩
  case round =>
    clear hG0
    obtain ⟨i, av, cp, hiK, rfl, hG⟩ := hrel
    obtain ⟨⟨b0, b1, b2, b3, b4, b5, b6, b7, b8, b9, b10, b11, b12⟩, _⟩ := cells13 hG.at_.blk
    rw [HV.out] at b6
    by_cases hlt : i < m
    · obtain ⟨a2, cap2, hv2, g1, g2, g3, hi2⟩ := hG.at_.row.shape
      have hva : Value.slice a2 all.length cap2 = .slice a L cap := by rw [← hv2, HV.out]
      simp only [Value.slice.injEq] at hva
      obtain ⟨rfl, _, rfl⟩ := hva
      rcases hi2 with h0 | ⟨b, off, rfl, hcc⟩
      · have := hL.out; have := HLM.out; simp [h0] at *; omega
      have hck := hcc (s.done + i) (by have := hL.out; have := HLM.out; omega)
      obtain ⟨t, ht⟩ : ∃ t, Hid (all.getD (s.done + i) 0 = t) := ⟨_, rfl⟩
      have htg : Hid (s.tags.getD i 0 = t) := by unfold Hid; rw [← ht.out, h.tg, List.getD_eq_getElem?_getD, List.getD_eq_getElem?_getD, List.getElem?_drop]
      rw [ht.out] at hck
      obtain ⟨⟨o0, o1, o2, o3, o4, o5, o6, o7⟩, p0, p1, p2, p3, p4, p5, p6, p7⟩ := cells8 hG.o
      obtain ⟨D, hD⟩ : ∃ D, D = s.done + i := ⟨_, rfl⟩
      have HDD : Hid (D = s.done + i) := hD
      have hDL : (D : Int) < (L : Int) := by have := HLM.out; omega
      have hD0 : (0 : Int) ≤ (D : Int) := by omega
      have hDb : D < 5000 := by have := HLM.out; omega
      have hit : i < s.tags.length := by have := hm.out; omega
      rw [← hD] at hck ⊢
      have hltb : b < wr.heap.size := World.block_lt_of_cell? wr _ hck
      have hzr : w.heap.size + 1 < wr.heap.size := (Array.getElem?_eq_some_iff.1 hG.o).1
      have hBr := hG.at_.lt
      have hrow5 : Tags (wr.alloc (.cells #[.int .i64 t] 2)).drew (w.heap.size + 2) (.slice av i cp) (s.tags.take i) := hG.row.kept fun k hk => Below.heap_alloc _ _ _ (hG.row.lt hk).2
      have hs5 : (wr.alloc (.cells #[.int .i64 t] 2)).drew.heap.size = wr.heap.size + 1 := by simp
      have hb5 : w.heap.size + 2 ≤ (wr.alloc (.cells #[.int .i64 t] 2)).drew.heap.size := by omega
      have ht5 : (wr.alloc (.cells #[.int .i64 t] 2)).drew.cell? ⟨wr.heap.size, 0, none⟩ = some (.int .i64 t) := Go.Joins.cell_of_block (box_new wr (.cells #[.int .i64 t] 2) wr.heap.size rfl) 0
      have hl5 : (s.tags.take i).length ≤ 4294967296 := by simp; omega
      have hpush := fun (w4 : World) (a4 : Option Addr) (c4 : Nat) hT hg => GatherV.push (w4 := w4) (a4 := a4) (c4 := c4) (o := (.cells #[.int .i64 t] 2)) hG hit htg.out hT hg
      have hob : ∀ (w4 : World), (wr.alloc (.cells #[.int .i64 t] 2)).drew.grownBy w4 (Value.slice av i cp).ownBlock → w4.cell? ⟨w.heap.size + 1, 2, none⟩ = some (.slice av i cp) ∧ w4.frozen? ⟨w.heap.size + 1, 2, none⟩ = false := fun w4 hg => by
        have hbk := (hg.block (w.heap.size + 1) (by omega) (fun e => by have := (hG.row.lt e.symm).1; omega)).trans ((Below.heap_alloc _ _ _ hzr).trans hG.o)
        exact ⟨Go.Joins.cell_of_block hbk 2, Go.Joins.unfrozen_of_block hbk 2⟩
      have HSL : Hid ((s.tags.take i).length + 1 = i + 1) := by unfold Hid; simp; omega
      clear hD hcc ht
      go_wp2
      go_region_law (first
        | (refine step_appTag (wr.alloc (.cells #[.int .i64 t] 2)).drew (by rfl) _ _ (by rfl) (w.heap.size + 2) (.slice av i cp) (s.tags.take i) t (by rfl) hrow5 ⟨wr.heap.size, 0, none⟩ (by rfl) ht5 hl5 hb5 ?_; intro v' w4 hT4 hg4 hat4; obtain ⟨a4, cap4, rfl, j1, j2, j3, j4⟩ := hT4.shape; rw [show (s.tags.take i ++ [t]).length = i + 1 by rw [List.length_append]; exact HSL.out] at hT4 hat4 ⊢; obtain ⟨cO, fO⟩ := hob w4 hg4))
      all_goals
        go_wp2
        go_roundw
        case rel => exact ⟨i + 1, _, _, by omega, by rw [HDD.out]; go_num, hpush _ _ _ hT4 hg4⟩
        case measure => simp [intOf]; omega
    · obtain rfl : i = m := by omega
      obtain ⟨⟨o0, o1, o2, o3, o4, o5, o6, o7⟩, p0, p1, p2, p3, p4, p5, p6, p7⟩ := cells8 hG.o
      obtain ⟨⟨r0, r1, r2, r3, r4, r5, r6, r7⟩, y0, y1, y2, y3, y4, y5, y6, y7⟩ := cells8 hG.r
      have hge : ¬ ((s.done + i : Nat) : Int) < (L : Int) := by have := HLM.out; omega
      obtain ⟨D, hD⟩ : ∃ D, D = s.done + i := ⟨_, rfl⟩
      rw [← hD] at hge ⊢
      clear hD
      have hT := hG.row
      rw [show s.tags.take i = s.tags by rw [List.take_of_length_le (by have := hm.out; omega)]] at hT
      have m1 : ¬ w.heap.size + 1 = w.heap.size := by omega
      have m2 : ¬ w.heap.size = w.heap.size + 1 := by omega
      have m3 : ¬ B = w.heap.size + 1 := by omega
      have m4 : ¬ w.heap.size + 1 = B := by omega
      rcases hd01 with hd | hd
      · have b12' : wr.cell? ⟨B, 12, none⟩ = some (.bool false) := by rw [b12]; simp [hd]
        clear b12
        have hZ := put8_block hG.r (.int .u32 q0) (.int .u32 q1) (.slice av i cp) (.int .i64 s.timer) (.int .i64 s.rto) (.int .i64 s.count) (.int .i64 s.probe) (.int .i64 0)
        have hO := put8_other wr w.heap.size (.int .u32 q0) (.int .u32 q1) (.slice av i cp) (.int .i64 s.timer) (.int .i64 s.rto) (.int .i64 s.count) (.int .i64 s.probe) (.int .i64 0)
        have hbZ := put8_below hG.bl w.heap.size (Nat.le_refl _) (.int .u32 q0) (.int .u32 q1) (.slice av i cp) (.int .i64 s.timer) (.int .i64 s.rto) (.int .i64 s.count) (.int .i64 s.probe) (.int .i64 0)
        obtain ⟨⟨z0, z1, z2, z3, z4, z5, z6, z7⟩, _⟩ := cells8 hZ
        have HDD : Hid (s.dead = 0) := hd
        clear hd
        go_wp2
        exact bodyPost_ret (v := .agg #[.int .u32 q0, .int .u32 q1, .slice av i cp, .int .i64 s.timer, .int .i64 s.rto, .int .i64 s.count, .int .i64 s.probe, .int .i64 0]) (by simp [results, Try.results43, go_sem, z0, z1, z2, z3, z4, z5, z6, z7]) rfl ⟨av, cp, by rw [HDD.out], (hT.kept fun k hk => hO k (by have := (hT.lt hk).1; omega)).base (by omega), hbZ⟩
      · have b12' : wr.cell? ⟨B, 12, none⟩ = some (.bool true) := by rw [b12]; simp [hd]
        clear b12
        have hr2 : (wr.setCell ⟨w.heap.size + 1, 7, none⟩ (.int .i64 1)).heap[w.heap.size]? = some (.cells (vwCells 0 0 (.slice none 0 0) 0 0 0 0 0) 54 (0, 0)) := (heap_setCell_other _ _ _ _ m2).trans hG.r
        have hbl2 : Below w.heap.size w (wr.setCell ⟨w.heap.size + 1, 7, none⟩ (.int .i64 1)) := hG.bl.setCell (p := ⟨w.heap.size + 1, 7, none⟩) (by simp) _
        have hZ := put8_block hr2 (.int .u32 q0) (.int .u32 q1) (.slice av i cp) (.int .i64 s.timer) (.int .i64 s.rto) (.int .i64 s.count) (.int .i64 s.probe) (.int .i64 1)
        have hO := put8_other (wr.setCell ⟨w.heap.size + 1, 7, none⟩ (.int .i64 1)) w.heap.size (.int .u32 q0) (.int .u32 q1) (.slice av i cp) (.int .i64 s.timer) (.int .i64 s.rto) (.int .i64 s.count) (.int .i64 s.probe) (.int .i64 1)
        have hbZ := put8_below hbl2 w.heap.size (Nat.le_refl _) (.int .u32 q0) (.int .u32 q1) (.slice av i cp) (.int .i64 s.timer) (.int .i64 s.rto) (.int .i64 s.count) (.int .i64 s.probe) (.int .i64 1)
        obtain ⟨⟨z0, z1, z2, z3, z4, z5, z6, z7⟩, _⟩ := cells8 hZ
        have HDD : Hid (s.dead = 1) := hd
        clear hd
        go_wp2
        exact bodyPost_ret (v := .agg #[.int .u32 q0, .int .u32 q1, .slice av i cp, .int .i64 s.timer, .int .i64 s.rto, .int .i64 s.count, .int .i64 s.probe, .int .i64 1]) (by simp [results, Try.results43, go_sem, z0, z1, z2, z3, z4, z5, z6, z7]) rfl ⟨av, cp, by rw [HDD.out], (hT.kept fun k hk => (hO k (by have := (hT.lt hk).1; omega)).trans (heap_setCell_other _ _ _ _ (by have := (hT.lt hk).1; simp; omega))).base (by omega), hbZ⟩
end Go.Proofs.Ytincfdhfoaimbaa
