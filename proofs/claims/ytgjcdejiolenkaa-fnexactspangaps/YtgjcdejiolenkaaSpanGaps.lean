import Derived.Test.YtgjcdejiolenkaaSpanOps
import Derived.Test.YtgjcdejiolenkaaSpanMath6
namespace Go.Proofs.Ytgjcdejiolenkaa
open Go.ChangeShapes Go.WideShapes Go.ChangeAt Go.RowKit
set_option linter.unusedVariables false

theorem atOf_fits {S : Sp} {p : Int} (hf : Fits S) (p0 : 0 ≤ p) (p1 : p ≤ 18446744073709551615) (i k : Nat) (hk : i + k ≤ S.length) : 0 ≤ atOf S p i k ∧ atOf S p i k ≤ 18446744073709551615 := by
  cases k with
  | zero => exact ⟨p0, p1⟩
  | succ k =>
    rw [atOf_succ p (by omega)]
    have := hf _ (List.getElem_mem (show i + k < S.length by omega))
    exact ⟨this.2.2.1, this.2.2.2⟩

set_option maxHeartbeats 4000000 in
theorem implGaps_main (S : Sp) (p q : Int) (hf : Fits S) (hl : S.length ≤ 1000) (hn : Norm S) (p0 : 0 ≤ p) (pq : p ≤ q) (q1 : q ≤ 18446744073709551615)
    (a : Option Addr) (cap : Nat) (w : World) (hS : Spans w a S) (hc : S.length ≤ cap) (hm : cap ≤ 9223372036854775807) (hnone : a = none → cap = 0) (T : Sp) (c : Int)
    (hTc : ((built f3 S (p, q)).length ≤ 1000 ∧ T = built f3 S (p, q) ∧ c = 0) ∨ (1000 < (built f3 S (p, q)).length ∧ T = [] ∧ c = 5)) :
    Calls Try.prog 24 #[.slice a S.length cap, .agg #[.int .u64 p, .int .u64 q]] w fun e w' => ∃ av cp, e = .returned (.tuple #[.slice av T.length cp, .int .i64 c]) ∧
      w'.ownsRow w.heap.size 31 2 (.slice av T.length cp) T.length (flat T) ∧ Below w.heap.size w w' := by
  have hb0 : Below w.heap.size w (w.alloc (.cells #[.int .u64 p, .int .u64 q] 31)) := (Below.refl _ _).alloc (Nat.le_refl _) _
  have hS0 := hS.moved hb0
  obtain ⟨x0, x1⟩ := cell_alloc2 w (.int .u64 p) (.int .u64 q) 31 _ rfl
  have HTC : Hid _ := hTc
  clear hTc
  go_enter Try.func24, Try.ntmps24
  go_wp2_with fail
  refine (spansHold_any a S cap p q _ hS0 hf (by omega)).mono ?_
  rintro e w1 ⟨b, rfl, hiff, hb1⟩
  obtain rfl : b = true := hiff.2 ⟨⟨hl, hn⟩, pq⟩
  obtain ⟨W, hWS, hW0, hW1, hB1, hwW⟩ : ∃ W : World, Spans W a S ∧ W.cell? ⟨w.heap.size, 0, none⟩ = some (.int .u64 p) ∧ W.cell? ⟨w.heap.size, 1, none⟩ = some (.int .u64 q) ∧ Below W.heap.size W w1 ∧ Below w.heap.size w W := ⟨_, hS0, x0, x1, hb1, hb0⟩
  have y0 := (hB1.cell (World.block_lt_of_cell? _ _ hW0)).trans hW0
  have y1 := (hB1.cell (World.block_lt_of_cell? _ _ hW1)).trans hW1
  clear hiff hS hS0 hb0 hb1 x0 x1
  go_wp2_with fail
  refine (overlap_any a S cap p q _ (hWS.moved hB1) hf hl hn).mono ?_
  rintro e w2 ⟨i, j, rfl, hi, hj, hb2⟩
  have hB2 := hB1.trans (hb2.mono hB1.size)
  have hij := overlap_le (s := (p, q)) hn pq hi hj
  have hjl := hj.le
  have hnil : w2.ownsRow W.heap.size 31 2 (.slice none 0 0) 0 (flat []) := World.ownsRow_nil _ _ _ _
  clear y0 y1 hB1 hb2
  by_cases hlt : i < j
  · have hic : i < cap := by omega
    have hic' : ¬ i = cap := by omega
    rcases hWS with h0 | ⟨b, off, rfl, hcc⟩
    · simp [h0] at hjl; omega
    have HI : Hid _ := hi
    have HJ0 : Hid _ := hj
    have HNo : Hid (Norm S) := hn
    clear hi hj hn
    go_wp2
    go_loopw [6, 7, 29] (fun v t x wr => ∃ (k : Nat) (G : Sp) (av : Option Addr) (cp : Nat), k ≤ j - i ∧ x = .int .i64 k ∧ t = .int .u64 (atOf S p i k) ∧ v = .slice av G.length cp ∧
        wr.ownsRow W.heap.size 31 2 (.slice av G.length cp) G.length (flat G) ∧ Below W.heap.size W wr ∧ Hid (Gapped S (p, q) i j k G)) (fun _ _ x _ => j - i - (intOf x).toNat)
    case atStart => exact ⟨0, [], none, 0, Nat.zero_le _, rfl, rfl, rfl, hnil, hB2, gapped_start S (p, q) i j⟩
    case round =>
      clear hnil hB2
      obtain ⟨k, G, av, cp, hk, rfl, rfl, rfl, ho, hB, HG⟩ := hrel
      have hat := atOf_fits hf p0 (by omega) i k (by omega)
      have hGl := HG.out.len
      have hsz := hB.size
      by_cases hk2 : k < j - i
      · have hik : i + k < S.length := by omega
        obtain ⟨c1, d1, hn1, c0, c0', d0, d0', q2, q3⟩ := Spans.at hf hcc hik
        have r1 : wr.cell? ⟨b, off + i * 2 + k * 2, none⟩ = some (.int .u64 c1) := by rw [show off + i * 2 + k * 2 = off + (i + k) * 2 by omega, hB.cell (World.block_lt_of_cell? W _ q2)]; exact q2
        have r2 : wr.cell? ⟨b, off + i * 2 + k * 2 + 1, none⟩ = some (.int .u64 d1) := by rw [show off + i * 2 + k * 2 + 1 = off + (i + k) * 2 + 1 by omega, hB.cell (World.block_lt_of_cell? W _ q3)]; exact q3
        have HE : Hid (atOf S p i (k + 1) = d1) := by unfold Hid; rw [atOf_succ p hik, hn1.out]
        have HY : Hid (atOf S p i k < c1 → Gapped S (p, q) i j (k + 1) (G ++ [(atOf S p i k, c1)])) := by
          intro h
          have g := gapped_yes (s := (p, q)) HNo.out HI.out hik HG.out (by rw [hn1.out]; exact h)
          rw [hn1.out] at g
          exact g
        have HN : Hid (¬ atOf S p i k < c1 → Gapped S (p, q) i j (k + 1) G) := fun h => gapped_no (s := (p, q)) HNo.out HI.out hik HG.out (by rw [hn1.out]; exact h)
        clear hcc HG hn1 q2 q3
        obtain ⟨A, hA⟩ : ∃ A, A = atOf S p i k := ⟨_, rfl⟩
        rw [← hA] at hat HY HN ⊢
        have HA : Hid (atOf S p i k = A) := hA.symm
        clear hA
        by_cases hlt2 : A < c1
        · go_wp2_with (at_builtin; refine wpList_appS _ rfl (.tmp 37) (.tmp 42) rfl W.heap.size _ G.length _ G rfl A c1 rfl ((ho.alloc _).alloc _) _ rfl (cell_alloc2 _ _ _ _ _ (by simp)).1 (cell_alloc2 _ _ _ _ _ (by simp)).2 (by omega) (by simp; omega) ?_; intro g9 c9 w9 ho9 hg9; have hB9 := below_grown ((hB.alloc hsz _).alloc (by simp; omega) _) ((ho.alloc _).alloc _) hg9 (Nat.le_refl _) (by simp; omega); have dcell := hg9.cell (a := ⟨wr.heap.size, 1, none⟩) (v := .int .u64 d1) (by simp) (fun e => by have := (ho.lt _ e.symm).2; simp at this))
          go_roundw
          case rel => exact ⟨k + 1, G ++ [(A, c1)], _, _, by omega, by go_num, by rw [HE.out], by simp; exact ⟨rfl, rfl⟩, by simpa using ho9, hB9, HY.out hlt2⟩
          case measure => simp [intOf]; omega
        · go_wp2
          go_roundw
          case rel => exact ⟨k + 1, G, av, cp, by omega, by go_num, by rw [HE.out], rfl, ho.alloc _, hB.alloc hsz _, HN.out hlt2⟩
          case measure => simp [intOf]; omega
      · have hke : k = j - i := by omega
        subst hke
        have HY : Hid (atOf S p i (j - i) < q → built f3 S (p, q) = G ++ [(atOf S p i (j - i), q)]) := fun h => gaps_yes (s := (p, q)) HNo.out HI.out HJ0.out hij HG.out h
        have HN : Hid (¬ atOf S p i (j - i) < q → built f3 S (p, q) = G) := fun h => gaps_no (s := (p, q)) HNo.out HI.out HJ0.out hij pq HG.out h
        clear hcc HI HJ0 HNo HG
        obtain ⟨A, hA⟩ : ∃ A, A = atOf S p i (j - i) := ⟨_, rfl⟩
        rw [← hA] at hat HY HN ⊢
        clear hA
        have e0 := (hB.cell (World.block_lt_of_cell? W _ hW0)).trans hW0
        have e1 := (hB.cell (World.block_lt_of_cell? W _ hW1)).trans hW1
        have sE := hB.size
        have hTc := HTC.out
        clear HTC
        by_cases hA : A < q
        · have HJ : Hid (built f3 S (p, q) = G ++ [(A, q)]) := HY.out hA
          have hL : Hid ((built f3 S (p, q)).length = G.length + 1) := by unfold Hid; rw [HJ.out]; simp
          clear HY HN
          rcases hTc with ⟨hlen, rfl, rfl⟩ | ⟨hlen, rfl, rfl⟩
          · go_wp2_with (at_builtin; refine wpList_appS _ rfl (.tmp 51) (.tmp 56) rfl W.heap.size _ G.length _ G rfl A q rfl (ho.alloc _) _ rfl (cell_alloc2 _ _ _ _ _ rfl).1 (cell_alloc2 _ _ _ _ _ rfl).2 (by omega) (by simp; omega) ?_; intro g9 c9 w9 ho9 hg9; have hB9 := below_grown (hB.alloc sE _) (ho.alloc _) hg9 (Nat.le_refl _) (by simp; omega))
            refine (limit_ok _ _ _ _ (by have := hL.out; omega)).mono ?_
            rintro e w10 ⟨rfl, rfl⟩
            go_wp2
            go_ret2
            exact ⟨_, c9, by rw [hL.out]; rfl, by rw [hL.out, HJ.out]; exact owned_base ho9 hwW.size, hwW.trans (hB9.mono hwW.size)⟩
          · go_wp2_with (at_builtin; refine wpList_appS _ rfl (.tmp 51) (.tmp 56) rfl W.heap.size _ G.length _ G rfl A q rfl (ho.alloc _) _ rfl (cell_alloc2 _ _ _ _ _ rfl).1 (cell_alloc2 _ _ _ _ _ rfl).2 (by omega) (by simp; omega) ?_; intro g9 c9 w9 ho9 hg9; have hB9 := below_grown (hB.alloc sE _) (ho.alloc _) hg9 (Nat.le_refl _) (by simp; omega))
            refine (limit_no _ _ _ _ (by have := hL.out; omega) (by omega)).mono ?_
            rintro e w10 ⟨rfl, rfl⟩
            go_wp2
            go_ret2
            exact ⟨none, 0, rfl, World.ownsRow_nil _ _ _ _, hwW.trans (hB9.mono hwW.size)⟩
        · have HJ : Hid (built f3 S (p, q) = G) := HN.out (by first | exact hA | omega)
          have hL : Hid ((built f3 S (p, q)).length = G.length) := by unfold Hid; rw [HJ.out] <;> rfl
          clear HY HN
          rcases hTc with ⟨hlen, rfl, rfl⟩ | ⟨hlen, rfl, rfl⟩
          · go_wp2_with fail
            refine (limit_ok _ _ _ _ (by have := hL.out; omega)).mono ?_
            rintro e w10 ⟨rfl, rfl⟩
            go_wp2
            go_ret2
            exact ⟨av, cp, by rw [hL.out]; rfl, by rw [hL.out, HJ.out]; exact owned_base ho hwW.size, hwW.trans (hB.mono hwW.size)⟩
          · exfalso
            have := hL.out
            omega
  · have hije : i = j := by omega
    subst hije
    have HG := gapped_start S (p, q) i i
    have HY : Hid (p < q → built f3 S (p, q) = [] ++ [(p, q)]) := fun h => by
      have g := gaps_yes (s := (p, q)) hn hi hj hij (by rw [Nat.sub_self]; exact HG) (by rw [Nat.sub_self, atOf_zero]; exact h)
      rwa [Nat.sub_self, atOf_zero] at g
    have HN : Hid (¬ p < q → built f3 S (p, q) = []) := fun h => gaps_no (s := (p, q)) hn hi hj hij pq (by rw [Nat.sub_self]; exact HG) (by rw [Nat.sub_self, atOf_zero]; exact h)
    clear HG hi hj
    have y0 := (hB2.cell (World.block_lt_of_cell? _ _ hW0)).trans hW0
    go_wp2
    all_goals
      refine wp_loop_rounds 1 ?_
      rw [rounds_succ]
      have e0 := (hB2.cell (World.block_lt_of_cell? W _ hW0)).trans hW0
      have e1 := (hB2.cell (World.block_lt_of_cell? W _ hW1)).trans hW1
      have sE := hB2.size
      have hTc := HTC.out
      clear HTC
      by_cases hA : p < q
      · have HJ : Hid (built f3 S (p, q) = [] ++ [(p, q)]) := HY.out hA
        have hL : Hid ((built f3 S (p, q)).length = 0 + 1) := by unfold Hid; rw [HJ.out]; simp
        clear HY HN
        rcases hTc with ⟨hlen, rfl, rfl⟩ | ⟨hlen, rfl, rfl⟩
        · go_wp2_with (at_builtin; refine wpList_appS _ rfl (.tmp 51) (.tmp 56) rfl W.heap.size _ 0 _ [] rfl p q rfl (hnil.alloc _) _ rfl (cell_alloc2 _ _ _ _ _ rfl).1 (cell_alloc2 _ _ _ _ _ rfl).2 (by omega) (by simp; omega) ?_; intro g9 c9 w9 ho9 hg9; have hB9 := below_grown (hB2.alloc sE _) (hnil.alloc _) hg9 (Nat.le_refl _) (by simp; omega))
          refine (limit_ok _ _ _ _ (by have := hL.out; omega)).mono ?_
          rintro e w10 ⟨rfl, rfl⟩
          go_wp2
          go_ret2
          exact ⟨_, c9, by rw [hL.out]; rfl, by rw [hL.out, HJ.out]; exact owned_base ho9 hwW.size, hwW.trans (hB9.mono hwW.size)⟩
        · go_wp2_with (at_builtin; refine wpList_appS _ rfl (.tmp 51) (.tmp 56) rfl W.heap.size _ 0 _ [] rfl p q rfl (hnil.alloc _) _ rfl (cell_alloc2 _ _ _ _ _ rfl).1 (cell_alloc2 _ _ _ _ _ rfl).2 (by omega) (by simp; omega) ?_; intro g9 c9 w9 ho9 hg9; have hB9 := below_grown (hB2.alloc sE _) (hnil.alloc _) hg9 (Nat.le_refl _) (by simp; omega))
          refine (limit_no _ _ _ _ (by have := hL.out; omega) (by omega)).mono ?_
          rintro e w10 ⟨rfl, rfl⟩
          go_wp2
          go_ret2
          exact ⟨none, 0, rfl, World.ownsRow_nil _ _ _ _, hwW.trans (hB9.mono hwW.size)⟩
      · have HJ : Hid (built f3 S (p, q) = []) := HN.out (by first | exact hA | omega)
        have hL : Hid ((built f3 S (p, q)).length = 0) := by unfold Hid; rw [HJ.out] <;> rfl
        clear HY HN
        rcases hTc with ⟨hlen, rfl, rfl⟩ | ⟨hlen, rfl, rfl⟩
        · go_wp2_with fail
          refine (limit_ok _ _ _ _ (by have := hL.out; omega)).mono ?_
          rintro e w10 ⟨rfl, rfl⟩
          go_wp2
          go_ret2
          exact ⟨none, 0, by rw [hL.out]; rfl, by rw [hL.out, HJ.out]; exact owned_base hnil hwW.size, hwW.trans (hB2.mono hwW.size)⟩
        · exfalso
          have := hL.out
          omega
end Go.Proofs.Ytgjcdejiolenkaa
