import Derived.Test.YtincfdhfoaimbaaSpAck
namespace Go.Proofs.Ytincfdhfoaimbaa
open Go.ChangeShapes Go.WideShapes Go.ChangeAt Go.RowKit
set_option linter.unusedVariables false

theorem AtS.grown {w0 w w' : World} {R B base : Nat} {c : Cf} {s : St} {v : Value} {all : List Int} {r : Option Nat} (h : AtS w0 R B base c s v all w) (hg : w.grownBy w' r) (hr : ∀ k, r = some k → w0.heap.size ≤ k ∧ v.ownBlock ≠ some k) : AtS w0 R B base c s v all w' :=
  ⟨⟨(hg.block B h.snd.lt (fun e => by have := (hr B e.symm).1; have := h.hb; omega)).trans h.snd.blk, h.snd.row.kept fun k hk => hg.block k (h.snd.row.lt hk).2 (fun e => (hr k e.symm).2 hk), h.snd.len, h.snd.tg, h.snd.ne⟩, h.mv.grown hg (.inr (.inr fun k hk => (hr k hk).1)), h.hb, h.hR, h.hv⟩

/-- While the tags are gathered that were acknowledged. -/
structure Gather (w : World) (B base : Nat) (c : Cf) (s : St) (v : Value) (all : List Int) (j : Nat) (av : Option Addr) (cp : Nat) (wr : World) : Prop where
  at_ : AtS w w.heap.size B base c s v all wr
  r : wr.heap[w.heap.size]? = some zeroOut
  o : wr.heap[w.heap.size + 1]? = some (.cells #[.int .i64 0, .slice none 0 0, .slice av j cp, .int .i64 0, .int .i64 0] 47 (0, 0))
  row : Tags wr (w.heap.size + 2) (.slice av j cp) (s.tags.take j)
  vb : ∀ k, v.ownBlock = some k → k < w.heap.size

theorem Gather.push {w wr w4 : World} {B base : Nat} {c : Cf} {s : St} {v : Value} {all : List Int} {j cp : Nat} {av a4 : Option Addr} {c4 : Nat} {t : Int} {o : Obj} (h : Gather w B base c s v all j av cp wr) (hj : j < s.tags.length) (ht : s.tags.getD j 0 = t) (hT : Tags w4 (w.heap.size + 2) (.slice a4 (j + 1) c4) (s.tags.take j ++ [t])) (hg : (wr.alloc o).drew.grownBy w4 (Value.slice av j cp).ownBlock) :
    Gather w B base c s v all (j + 1) a4 c4 (w4.setCell ⟨w.heap.size + 1, 2, none⟩ (.slice a4 (j + 1) c4)) := by
  have hb : ∀ k, (Value.slice av j cp).ownBlock = some k → w.heap.size + 2 ≤ k := fun k hk => (h.row.lt hk).1
  have hv1 : v.ownBlock ≠ some (w.heap.size + 1) := fun e => by have := h.vb _ e; omega
  have hz : w.heap.size + 1 < wr.heap.size := (Array.getElem?_eq_some_iff.1 h.o).1
  have old : ∀ k, k < w.heap.size + 2 → k < wr.heap.size → w4.heap[k]? = wr.heap[k]? := fun k h1 h2 => (hg.block k (by simp; omega) (fun e => by have := hb k e.symm; omega)).trans (Below.heap_alloc _ _ _ h2)
  refine ⟨((h.at_.alloc o).drew.grown hg (fun k hk => ⟨by have := hb k hk; omega, fun e => by have := h.vb _ e; have := hb k hk; omega⟩)).far (w.heap.size + 1) 2 _ (by omega) hv1, ?_, ?_, ?_, h.vb⟩
  · rw [heap_setCell_other _ _ _ _ (by simp), old _ (by omega) (by omega)]
    exact h.r
  · rw [Go.Joins.block_setCell ((old _ (by omega) hz).trans h.o) _]
    rfl
  · rw [List.take_succ_eq_append_getElem hj]
    have e : s.tags[j] = t := by rw [← ht]; simp [hj]
    rw [e]
    exact hT.kept fun k hk => heap_setCell_other _ _ _ _ (by have := (hT.lt hk).1; simp; omega)

theorem Tags.put {w : World} {base k0 j : Nat} {u x : Value} {ts : List Int} (h : Tags w base u ts) (hk : k0 < base) : Tags (w.setCell ⟨k0, j, none⟩ x) base u ts := h.kept fun k hk2 => heap_setCell_other _ _ _ _ (by have := (h.lt hk2).1; simp; omega)
theorem Tags.put5 {w : World} {base R : Nat} {u : Value} {ts : List Int} (h : Tags w base u ts) (hk : R < base) (x0 x1 x2 x3 x4 : Value) : Tags (((((w.setCell ⟨R, 0, none⟩ x0).setCell ⟨R, 1, none⟩ x1).setCell ⟨R, 2, none⟩ x2).setCell ⟨R, 3, none⟩ x3).setCell ⟨R, 4, none⟩ x4) base u ts := ((((h.put hk).put hk).put hk).put hk).put hk
theorem AtS.far5 {w0 w : World} {R B base : Nat} {c : Cf} {s : St} {v : Value} {all : List Int} (h : AtS w0 R B base c s v all w) (k : Nat) (hk : w0.heap.size ≤ k) (hv : v.ownBlock ≠ some k) (x0 x1 x2 x3 x4 : Value) : AtS w0 R B base c s v all (((((w.setCell ⟨k, 0, none⟩ x0).setCell ⟨k, 1, none⟩ x1).setCell ⟨k, 2, none⟩ x2).setCell ⟨k, 3, none⟩ x3).setCell ⟨k, 4, none⟩ x4) := ((((h.far k 0 x0 hk hv).far k 1 x1 hk hv).far k 2 x2 hk hv).far k 3 x3 hk hv).far k 4 x4 hk hv

set_option maxHeartbeats 2000000 in
set_option maxRecDepth 100000 in
theorem l4Ack_ok (B base : Nat) (c : Cf) (s : St) (v : Value) (all : List Int) (w : World) (h : SpAt w B base c s v all) (hl : all.length ≤ 1000000) (hci : 0 ≤ c.isn ∧ c.isn ≤ 4294967295) (x : Int) (x0 : 0 ≤ x) (x1 : x ≤ 4294967295) (hf : ¬ s.tags.length < farF c s x) :
    Calls Try.prog 66 #[.pointer (some ⟨B, 0, none⟩), .int .u32 x] w (StepsToS w B base c v (hearF c s x)) := by
  obtain ⟨⟨k0, k1, k2, k3, k4, k5, k6, k7, k8, k9, k10, k11, k12⟩, kf⟩ := cells13 h.blk
  obtain ⟨a, cap, hv, h1, h2, h3, hi⟩ := h.row.shape
  have hB := h.lt
  have hA : AtS w w.heap.size B base c s v all w := AtS.begin h (Nat.le_refl _)
  obtain ⟨L, hL⟩ : ∃ L, Hid (L = all.length) := ⟨_, rfl⟩
  obtain ⟨m, hm⟩ : ∃ m, Hid (m = s.tags.length) := ⟨_, rfl⟩
  have HLM : Hid (L = s.done + m) := by unfold Hid; rw [hL.out, hm.out]; exact h.len
  have hL5 : L ≤ 1000000 := by rw [hL.out]; exact hl
  rw [hv, ← hL.out] at k6
  rw [← hm.out] at hf
  obtain ⟨K, hK⟩ : ∃ K, Hid (K = farF c s x) := ⟨_, rfl⟩
  rw [← hK.out] at hf
  have hKm : K ≤ m := by omega
  have HV : Hid (v = .slice a L cap) := by unfold Hid; rw [hL.out]; exact hv
  clear kf hv h1 hf
  have l2 : B < w.heap.size + 1 := by omega
  have n1 : ¬ B = w.heap.size := by omega
  have n4 : ¬ w.heap.size = B := by omega
  have hd5 : s.done ≤ 1000000 := by have := HLM.out; omega
  go_enter Try.func66, Try.ntmps66
  go_wp2
  go_loop [5, 6] (fun kk i => ∃ j : Nat, j ≤ m + 1 ∧ i = .int .i64 ((s.done + j : Nat) : Int) ∧ kk = .int .i64 (foundF c s x j)) (fun _ i => L + 1 - (intOf i).toNat)
  case atStart => exact ⟨0, by omega, by simp, by simp [foundF]⟩
  case round =>
    obtain ⟨j, hj, rfl, rfl⟩ := hrel
    by_cases hlt : j ≤ m
    · have hh := far_hit c s x x0 x1 j (by have := HLM.out; omega)
      obtain ⟨D, hD⟩ : ∃ D, D = s.done + j := ⟨_, rfl⟩
      have HDD : Hid (D = s.done + j) := hD
      have hDL : (D : Int) ≤ (L : Int) := by have := HLM.out; omega
      have hDb : D ≤ 1000000 := by omega
      obtain ⟨fo, hfo⟩ : ∃ f, Hid (f = foundF c s x j) := ⟨_, rfl⟩
      rw [← hD] at hh ⊢
      rw [← hfo.out]
      by_cases hjK : j = farF c s x
      · have hmb : ((c.isn + (D : Int)) % 4294967296 == x) = true := by simpa using hh.2 hjK
        have HFS : Hid (foundF c s x (j + 1) = (D : Int)) := by unfold Hid; rw [foundF_succ_hit c s x j hjK, hD]
        clear hD hh
        go_wp2
        go_round
        case rel => exact ⟨j + 1, by omega, by rw [HDD.out]; go_num, by rw [HFS.out]⟩
        case measure => simp [intOf]; omega
      · have hmb : ((c.isn + (D : Int)) % 4294967296 == x) = false := by simpa using fun e => hjK (hh.1 e)
        have HFS : Hid (foundF c s x (j + 1) = fo) := by unfold Hid; rw [foundF_succ_miss c s x j hjK, hfo.out]
        clear hD hh
        go_wp2
        go_round
        case rel => exact ⟨j + 1, by omega, by rw [HDD.out]; go_num, by rw [HFS.out]⟩
        case measure => simp [intOf]; omega
    · have hge : ¬ ((s.done + j : Nat) : Int) ≤ (L : Int) := by have := HLM.out; omega
      obtain ⟨D, hD⟩ : ∃ D, D = s.done + j := ⟨_, rfl⟩
      have hfk : foundF c s x j = ((s.done + K : Nat) : Int) := by unfold foundF; rw [if_pos (by have := hK.out; omega), ← hK.out]
      obtain ⟨E, hE⟩ : ∃ E, E = s.done + K := ⟨_, rfl⟩
      have HE : Hid (E = s.done + K) := hE
      rw [← hD] at hge ⊢
      rw [hfk, ← hE]
      clear hD hE hfk
      have hE0 : ¬ (E : Int) < 0 := by omega
      have hvb : ∀ k, v.ownBlock = some k → k < w.heap.size := fun k hk => (h.row.lt hk).2
      have hX0 := Bx.start w w.heap.size rfl
      have hG0 : Gather w B base c s v all 0 none 0 ((w.alloc zeroOut).alloc zeroOut) := ⟨(hA.alloc _).alloc _, hX0.r, hX0.o, Tags.nil _ _, hvb⟩
      go_wp2
      go_loopw [8] (fun i wr => ∃ (j : Nat) (av : Option Addr) (cp : Nat), j ≤ K ∧ i = .int .i64 ((s.done + j : Nat) : Int) ∧ Gather w B base c s v all j av cp wr) (fun i _ => E - (intOf i).toNat)
      case atStart => exact ⟨0, none, 0, Nat.zero_le _, by simp, hG0⟩
      case round =>
        clear hG0 hX0
        obtain ⟨i, av, cp, hiK, rfl, hG⟩ := hrel
        by_cases hlt : i < K
        · obtain ⟨a2, cap2, hv2, g1, g2, g3, hi2⟩ := hG.at_.snd.row.shape
          have hva : Value.slice a2 all.length cap2 = .slice a L cap := by rw [← hv2, HV.out]
          simp only [Value.slice.injEq] at hva
          obtain ⟨rfl, _, rfl⟩ := hva
          rcases hi2 with h0 | ⟨b, off, rfl, hcc⟩
          · have := hL.out; have := HLM.out; simp [h0] at *; omega
          have hck := hcc (s.done + i) (by have := hL.out; have := HLM.out; omega)
          obtain ⟨t, ht⟩ : ∃ t, Hid (all.getD (s.done + i) 0 = t) := ⟨_, rfl⟩
          have htg : Hid (s.tags.getD i 0 = t) := by unfold Hid; rw [← ht.out, h.tg, List.getD_eq_getElem?_getD, List.getD_eq_getElem?_getD, List.getElem?_drop]
          rw [ht.out] at hck
          obtain ⟨⟨b0, b1, b2, b3, b4, b5, b6, b7, b8, b9, b10, b11, b12⟩, _⟩ := cells13 hG.at_.snd.blk
          rw [HV.out] at b6
          obtain ⟨⟨o0, o1, o2, o3, o4⟩, p0, p1, p2, p3, p4⟩ := cells5 hG.o
          obtain ⟨D, hD⟩ : ∃ D, D = s.done + i := ⟨_, rfl⟩
          have HDD : Hid (D = s.done + i) := hD
          have hDE : (D : Int) < (E : Int) := by have := HE.out; omega
          have hDL : (D : Int) < (L : Int) := by have := HLM.out; omega
          have hD0 : (0 : Int) ≤ (D : Int) := by omega
          have hDb : D < 1000000 := by have := HLM.out; omega
          have hit : i < s.tags.length := by have := hm.out; omega
          rw [← hD] at hck ⊢
          have hltb : b < wr.heap.size := World.block_lt_of_cell? wr _ hck
          have hzr : w.heap.size + 1 < wr.heap.size := (Array.getElem?_eq_some_iff.1 hG.o).1
          have hBr := hG.at_.snd.lt
          have hrow5 : Tags (wr.alloc (.cells #[.int .i64 t] 2)).drew (w.heap.size + 2) (.slice av i cp) (s.tags.take i) := hG.row.kept fun k hk => Below.heap_alloc _ _ _ (hG.row.lt hk).2
          have hs5 : (wr.alloc (.cells #[.int .i64 t] 2)).drew.heap.size = wr.heap.size + 1 := by simp
          have hb5 : w.heap.size + 2 ≤ (wr.alloc (.cells #[.int .i64 t] 2)).drew.heap.size := by omega
          have ht5 : (wr.alloc (.cells #[.int .i64 t] 2)).drew.cell? ⟨wr.heap.size, 0, none⟩ = some (.int .i64 t) := Go.Joins.cell_of_block (box_new wr (.cells #[.int .i64 t] 2) wr.heap.size rfl) 0
          have hl5 : (s.tags.take i).length ≤ 4294967296 := by simp; omega
          have hpush := fun (w4 : World) (a4 : Option Addr) (c4 : Nat) hT hg => Gather.push (w4 := w4) (a4 := a4) (c4 := c4) (o := (.cells #[.int .i64 t] 2)) hG hit htg.out hT hg
          have hob : ∀ (w4 : World), (wr.alloc (.cells #[.int .i64 t] 2)).drew.grownBy w4 (Value.slice av i cp).ownBlock → w4.cell? ⟨w.heap.size + 1, 2, none⟩ = some (.slice av i cp) ∧ w4.frozen? ⟨w.heap.size + 1, 2, none⟩ = false := fun w4 hg => by
            have hbk := (hg.block (w.heap.size + 1) (by omega) (fun e => by have := (hG.row.lt e.symm).1; omega)).trans ((Below.heap_alloc _ _ _ hzr).trans hG.o)
            exact ⟨Go.Joins.cell_of_block hbk 2, Go.Joins.unfrozen_of_block hbk 2⟩
          have HSL : Hid ((s.tags.take i).length + 1 = i + 1) := by unfold Hid; simp; omega
          clear hD hcc ht k0 k1 k2 k3 k4 k5 k6 k7 k8 k9 k10 k11 k12 hA
          go_wp2
          go_region_law (first
            | (refine step_appTag (wr.alloc (.cells #[.int .i64 t] 2)).drew (by rfl) _ _ (by rfl) (w.heap.size + 2) (.slice av i cp) (s.tags.take i) t (by rfl) hrow5 ⟨wr.heap.size, 0, none⟩ (by rfl) ht5 hl5 hb5 ?_; intro v' w4 hT4 hg4 hat4; obtain ⟨a4, cap4, rfl, j1, j2, j3, j4⟩ := hT4.shape; rw [show (s.tags.take i ++ [t]).length = i + 1 by rw [List.length_append]; exact HSL.out] at hT4 hat4 ⊢; obtain ⟨cO, fO⟩ := hob w4 hg4))
          all_goals
            go_wp2
            go_roundw
            case rel => exact ⟨i + 1, _, _, by omega, by rw [HDD.out]; go_num, hpush _ _ _ hT4 hg4⟩
            case measure => simp [intOf]; omega
        · obtain rfl : i = K := by omega
          obtain ⟨⟨b0, b1, b2, b3, b4, b5, b6, b7, b8, b9, b10, b11, b12⟩, bf⟩ := cells13 hG.at_.snd.blk
          have bf7 := bf 7
          have bf11 := bf 11
          have bf12 := bf 12
          obtain ⟨⟨o0, o1, o2, o3, o4⟩, p0, p1, p2, p3, p4⟩ := cells5 hG.o
          obtain ⟨⟨r0, r1, r2, r3, r4⟩, q0, q1, q2, q3, q4⟩ := cells5 hG.r
          have hzr : w.heap.size + 1 < wr.heap.size := (Array.getElem?_eq_some_iff.1 hG.o).1
          have hBr := hG.at_.snd.lt
          have hA1 : AtS w w.heap.size B base c (cutF s i) v all (wr.setCell ⟨B, 7, none⟩ (.int .i64 (E : Int))) := by
            rw [HE.out]
            exact hG.at_.done i (by have := hm.out; omega)
          have hv0 : v.ownBlock ≠ some w.heap.size := fun e => by have := hvb _ e; omega
          have hv1 : v.ownBlock ≠ some (w.heap.size + 1) := fun e => by have := hvb _ e; omega
          have n2 : ¬ B = w.heap.size + 1 := by omega
          have n5 : ¬ w.heap.size + 1 = B := by omega
          obtain ⟨D, hD⟩ : ∃ D, D = s.done + i := ⟨_, rfl⟩
          have hDE : D = E := by rw [hD, HE.out]
          rw [← hD, hDE]
          clear hD hDE k0 k1 k2 k3 k4 k5 k6 k7 k8 k9 k10 k11 k12 bf
          by_cases hd : s.dead = 1
          · have hQ : hearF c s x = (⟨0, againF c (s.done + i) (s.tags.drop i), s.tags.take i, 0, 1⟩, restartF c { cutF s i with dead := 0, probe := 0 }) := by unfold hearF; rw [← hK.out, if_neg (by have := hm.out; omega), if_pos hd]
            have HQ : Hid _ := hQ
            have b12' : wr.cell? ⟨B, 12, none⟩ = some (.bool true) := by rw [b12]; simp [hd]
            have hA2 := ((hA1.lives).probe 0).far (w.heap.size + 1) 4 (.int .i64 1) (by omega) hv1
            have hag : Calls Try.prog 70 #[.pointer (some ⟨B, 0, none⟩)] ((((wr.setCell ⟨B, 7, none⟩ (.int .i64 (E : Int))).setCell ⟨B, 12, none⟩ (.bool false)).setCell ⟨B, 11, none⟩ (.int .i64 0)).setCell ⟨w.heap.size + 1, 4, none⟩ (.int .i64 1)) fun e w' => ∃ av cp, e = .returned (.slice av (s.tags.drop i).length cp) ∧ w'.ownsRow ((((wr.setCell ⟨B, 7, none⟩ (.int .i64 (E : Int))).setCell ⟨B, 12, none⟩ (.bool false)).setCell ⟨B, 11, none⟩ (.int .i64 0)).setCell ⟨w.heap.size + 1, 4, none⟩ (.int .i64 1)).heap.size 49 3 (.slice av (s.tags.drop i).length cp) (s.tags.drop i).length (flat3 .i64 .u32 .i64 (againF c (s.done + i) (s.tags.drop i))) ∧ Below ((((wr.setCell ⟨B, 7, none⟩ (.int .i64 (E : Int))).setCell ⟨B, 12, none⟩ (.bool false)).setCell ⟨B, 11, none⟩ (.int .i64 0)).setCell ⟨w.heap.size + 1, 4, none⟩ (.int .i64 1)).heap.size ((((wr.setCell ⟨B, 7, none⟩ (.int .i64 (E : Int))).setCell ⟨B, 12, none⟩ (.bool false)).setCell ⟨B, 11, none⟩ (.int .i64 0)).setCell ⟨w.heap.size + 1, 4, none⟩ (.int .i64 1)) w' := l4Again_any B base c _ v all _ hA2.snd hl hci
            obtain ⟨N, hN⟩ : ∃ N, Hid (N = (s.tags.drop i).length) := ⟨_, rfl⟩
            rw [← hN.out] at hag
            have hO2 : ((((wr.setCell ⟨B, 7, none⟩ (.int .i64 (E : Int))).setCell ⟨B, 12, none⟩ (.bool false)).setCell ⟨B, 11, none⟩ (.int .i64 0)).setCell ⟨w.heap.size + 1, 4, none⟩ (.int .i64 1)).heap[w.heap.size + 1]? = some (.cells #[.int .i64 0, .slice none 0 0, .slice av i cp, .int .i64 0, .int .i64 1] 47 (0, 0)) := by
              rw [Go.Joins.block_setCell (((heap_setCell_other _ _ _ _ n5).trans ((heap_setCell_other _ _ _ _ n5).trans (heap_setCell_other _ _ _ _ n5))).trans hG.o) _]
              rfl
            have hsz2 : ((((wr.setCell ⟨B, 7, none⟩ (.int .i64 (E : Int))).setCell ⟨B, 12, none⟩ (.bool false)).setCell ⟨B, 11, none⟩ (.int .i64 0)).setCell ⟨w.heap.size + 1, 4, none⟩ (.int .i64 1)).heap.size = wr.heap.size := by simp
            have hk2 : ∀ k, k ≠ B → k ≠ w.heap.size + 1 → ((((wr.setCell ⟨B, 7, none⟩ (.int .i64 (E : Int))).setCell ⟨B, 12, none⟩ (.bool false)).setCell ⟨B, 11, none⟩ (.int .i64 0)).setCell ⟨w.heap.size + 1, 4, none⟩ (.int .i64 1)).heap[k]? = wr.heap[k]? := fun k h1 h2 => by rw [heap_setCell_other _ _ _ _ h2, heap_setCell_other _ _ _ _ h1, heap_setCell_other _ _ _ _ h1, heap_setCell_other _ _ _ _ h1]
            clear hQ b12 hd
            obtain ⟨W2, hW2, hA2', hag', hk2', hO2', hsz2'⟩ : ∃ W, W = ((((wr.setCell ⟨B, 7, none⟩ (.int .i64 (E : Int))).setCell ⟨B, 12, none⟩ (.bool false)).setCell ⟨B, 11, none⟩ (.int .i64 0)).setCell ⟨w.heap.size + 1, 4, none⟩ (.int .i64 1)) ∧ AtS w w.heap.size B base c { cutF s i with dead := 0, probe := 0 } v all W ∧ (Calls Try.prog 70 #[.pointer (some ⟨B, 0, none⟩)] W fun e w' => ∃ av cp, e = .returned (.slice av N cp) ∧ w'.ownsRow W.heap.size 49 3 (.slice av N cp) N (flat3 .i64 .u32 .i64 (againF c (s.done + i) (s.tags.drop i))) ∧ Below W.heap.size W w') ∧ (∀ k, k ≠ B → k ≠ w.heap.size + 1 → W.heap[k]? = wr.heap[k]?) ∧ W.heap[w.heap.size + 1]? = some (.cells #[.int .i64 0, .slice none 0 0, .slice av i cp, .int .i64 0, .int .i64 1] 47 (0, 0)) ∧ W.heap.size = wr.heap.size := ⟨_, rfl, hA2, hag, hk2, hO2, hsz2⟩
            have hsz2a : wr.heap.size ≤ W2.heap.size := by omega
            have hsz2b : W2.heap.size ≤ wr.heap.size := by omega
            clear hA2 hag hk2 hO2 hsz2 hsz2'
            go_wp2_with fail
            rw [← hW2]
            clear hW2
            refine hag'.mono ?_
            rintro e w5 ⟨fv, fc, rfl, ho5, hb5⟩
            have hA5 := (hA2'.below hb5).far (w.heap.size + 1) 1 (.slice fv N fc) (by omega) hv1
            have hO5 := (hb5.block _ (by omega)).trans hO2'
            have hk5 : ∀ k, k < wr.heap.size → k ≠ B → k ≠ w.heap.size + 1 → w5.heap[k]? = wr.heap[k]? := fun k h1 h2 h3 => (hb5.block k (by omega)).trans (hk2' k h2 h3)
            have hO6 : (w5.setCell ⟨w.heap.size + 1, 1, none⟩ (.slice fv N fc)).heap[w.heap.size + 1]? = some (.cells #[.int .i64 0, .slice fv N fc, .slice av i cp, .int .i64 0, .int .i64 1] 47 (0, 0)) := by
              rw [Go.Joins.block_setCell hO5 _]
              rfl
            obtain ⟨⟨o0, o1, o2, o3, o4⟩, p0, p1, p2, p3, p4⟩ := cells5 hO5
            have hcl := l4Clock_any B base c _ v all _ hA5.snd hl
            clear hag' b0 b1 b2 b3 b4 b5 b6 b7 b8 b9 b10 b11 b12'
            go_wp2_with fail
            refine hcl.mono ?_
            rintro e w6 ⟨rfl, hS6, hz6, hm6⟩
            have hA6 : AtS w w.heap.size B base c (restartF c { cutF s i with dead := 0, probe := 0 }) v all w6 := ⟨hS6, hA5.mv.trans hm6 (.inl rfl), hA5.hb, hA5.hR, hA5.hv⟩
            have z5 := hb5.size
            have hk6 : ∀ k, k < wr.heap.size → k ≠ B → k ≠ w.heap.size + 1 → w6.heap[k]? = wr.heap[k]? := fun k h1 h2 h3 => (hm6.block k (by simp; omega) h2 (by simp)).trans ((heap_setCell_other _ _ _ _ h3).trans (hk5 k h1 h2 h3))
            obtain ⟨⟨r0, r1, r2, r3, r4⟩, q0, q1, q2, q3, q4⟩ := cells5 ((hk6 _ (by omega) n4 (by omega)).trans hG.r)
            obtain ⟨⟨a0, a1, a2, a3, a4⟩, d0, d1, d2, d3, d4⟩ := cells5 ((hm6.block _ (by simp; omega) (fun e => n5 e) (by simp)).trans hO6)
            have hT6 : Tags w6 (w.heap.size + 2) (.slice av i cp) (s.tags.take i) := hG.row.kept fun k hk => hk6 k (hG.row.lt hk).2 (by have := (hG.row.lt hk).1; omega) (by have := (hG.row.lt hk).1; omega)
            have hfo : (Value.slice fv N fc).ownBlock ≠ some (w.heap.size + 1) := fun e => by have := (ho5.lt _ e).1; omega
            have hfB : (Value.slice fv N fc).ownBlock ≠ some B := fun e => by have := (ho5.lt _ e).1; omega
            have ho6 := own_mv (own_put ho5 hfo) hm6 hfB
            have hF := hA6.far5 w.heap.size (Nat.le_refl _) hv0 (.int .i64 0) (.slice fv N fc) (.slice av i cp) (.int .i64 0) (.int .i64 1)
            have hT := hT6.put5 (R := w.heap.size) (by omega) (.int .i64 0) (.slice fv N fc) (.slice av i cp) (.int .i64 0) (.int .i64 1)
            have hoF := own_box ho6 (R := w.heap.size) (by omega) (.int .i64 0) (.slice fv N fc) (.slice av i cp) (.int .i64 0) (.int .i64 1)
            have y1 : ¬ w.heap.size = w.heap.size + 1 := by omega
            have y2 : ¬ w.heap.size + 1 = w.heap.size := by omega
            clear hcl o0 o1 o2 o3 o4 p0 p1 p2 p3 p4
            go_wp2
            exact bodyPost_ret (v := .agg #[.int .i64 0, .slice fv N fc, .slice av i cp, .int .i64 0, .int .i64 1]) (by simp [results, Try.results66, go_sem, r0, r1, r2, r3, r4]) rfl
              (by rw [HQ.out]; exact ⟨_, _, v, all, rfl, hF.snd, .inl rfl, by rw [againF_length, ← hN.out]; exact own_base hoF (by omega), hT.base (by omega), (fun k hk e => by have := hvb _ e; have := (hG.row.lt hk).1; omega), mv_none hF.mv⟩)
          · by_cases hi0 : 0 < i
            · have hQ : hearF c s x = (⟨0, [], s.tags.take i, 0, 0⟩, restartF c (cutF s i)) := by unfold hearF; rw [← hK.out, if_neg (by have := hm.out; omega), if_neg hd, if_pos hi0]
              have HQ : Hid _ := hQ
              have b12' : wr.cell? ⟨B, 12, none⟩ = some (.bool false) := by rw [b12]; simp [hd]
              have hgt : (s.done : Int) < (E : Int) := by have := HE.out; omega
              have hcl := l4Clock_any B base c _ v all _ hA1.snd hl
              clear hQ b12 hd
              go_wp2_with fail
              refine hcl.mono ?_
              rintro e w5 ⟨rfl, hS5, hz5, hm5⟩
              have hA5 : AtS w w.heap.size B base c (restartF c (cutF s i)) v all w5 := ⟨hS5, hA1.mv.trans hm5 (.inl rfl), hA1.hb, hA1.hR, hA1.hv⟩
              have hk5 : ∀ k, k < wr.heap.size → k ≠ B → w5.heap[k]? = wr.heap[k]? := fun k h1 h2 => (hm5.block k (by simpa using h1) h2 (by simp)).trans (heap_setCell_other _ _ _ _ h2)
              obtain ⟨⟨o0, o1, o2, o3, o4⟩, p0, p1, p2, p3, p4⟩ := cells5 ((hk5 _ hzr (fun e => n5 e)).trans hG.o)
              obtain ⟨⟨r0, r1, r2, r3, r4⟩, q0, q1, q2, q3, q4⟩ := cells5 ((hk5 _ (by omega) (fun e => n4 e)).trans hG.r)
              have hT5 : Tags w5 (w.heap.size + 2) (.slice av i cp) (s.tags.take i) := hG.row.kept fun k hk => hk5 k (hG.row.lt hk).2 (by have := (hG.row.lt hk).1; omega)
              have hF := hA5.far5 w.heap.size (Nat.le_refl _) hv0 (.int .i64 0) (.slice none 0 0) (.slice av i cp) (.int .i64 0) (.int .i64 0)
              have hT := hT5.put5 (R := w.heap.size) (by omega) (.int .i64 0) (.slice none 0 0) (.slice av i cp) (.int .i64 0) (.int .i64 0)
              have y1 : ¬ w.heap.size = w.heap.size + 1 := by omega
              have y2 : ¬ w.heap.size + 1 = w.heap.size := by omega
              clear hcl b0 b1 b2 b3 b4 b5 b6 b7 b8 b9 b10 b11 b12'
              go_wp2
              exact bodyPost_ret (v := .agg #[.int .i64 0, .slice none 0 0, .slice av i cp, .int .i64 0, .int .i64 0]) (by simp [results, Try.results66, go_sem, r0, r1, r2, r3, r4]) rfl
                (by rw [HQ.out]; exact ⟨_, _, v, all, rfl, hF.snd, .inl rfl, World.ownsRow_nil _ _ _ _, hT.base (by omega), (fun k hk e => by have := hvb _ e; have := (hG.row.lt hk).1; omega), mv_none hF.mv⟩)
            · have hi00 : i = 0 := by omega
              have hQ : hearF c s x = (⟨0, [], [], 0, 0⟩, s) := by unfold hearF; rw [← hK.out, if_neg (by have := hm.out; omega), if_neg hd, if_neg hi0]
              have HQ : Hid _ := hQ
              have b12' : wr.cell? ⟨B, 12, none⟩ = some (.bool false) := by rw [b12]; simp [hd]
              have hEd : (E : Int) = (s.done : Int) := by have := HE.out; omega
              have hcs : cutF s i = s := by rw [hi00]; cases s; simp [cutF]
              have hgt : ¬ (s.done : Int) < (E : Int) := by omega
              rw [hcs] at hA1
              have HI : Hid (i = 0) := hi00
              clear hQ b12 hd hi0 hi00 hcs hEd
              have hF := hA1.far5 w.heap.size (Nat.le_refl _) hv0 (.int .i64 0) (.slice none 0 0) (.slice av i cp) (.int .i64 0) (.int .i64 0)
              have hT := (hG.row.put (k0 := B) (j := 7) (x := .int .i64 (E : Int)) (by omega)).put5 (R := w.heap.size) (by omega) (.int .i64 0) (.slice none 0 0) (.slice av i cp) (.int .i64 0) (.int .i64 0)
              go_wp2
              exact bodyPost_ret (v := .agg #[.int .i64 0, .slice none 0 0, .slice av i cp, .int .i64 0, .int .i64 0]) (by simp [results, Try.results66, go_sem, r0, r1, r2, r3, r4]) rfl
                (by rw [HQ.out]; exact ⟨_, _, v, all, rfl, hF.snd, .inl rfl, World.ownsRow_nil _ _ _ _, by have hT0 := hT.base (b2 := w.heap.size) (by omega); rw [show s.tags.take i = [] by rw [HI.out]; rfl] at hT0; exact hT0, (fun k hk e => by have := hvb _ e; have := (hG.row.lt hk).1; omega), mv_none hF.mv⟩)
end Go.Proofs.Ytincfdhfoaimbaa
