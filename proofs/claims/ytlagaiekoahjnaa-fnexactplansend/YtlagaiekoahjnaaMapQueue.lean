import Derived.Test.YtlagaiekoahjnaaMapBits
namespace Go.Proofs.Ytlagaiekoahjnaa
open Go.ChangeShapes Go.WideShapes Go.ChangeAt Go.RowKit
set_option linter.unusedVariables false

theorem que_yes {c0 c1 c2 c4 : Int} {C x : Nat} (h : C &&& x = 0) : que1 x ⟨c0, c1, c2, (C : Int), c4⟩ = ⟨c0, c1, c2, (C : Int), 1⟩ := by
  unfold que1
  rw [if_pos (by simpa using h)]
theorem que_no {c0 c1 c2 c4 : Int} {C x : Nat} (h : ¬ C &&& x = 0) : que1 x ⟨c0, c1, c2, (C : Int), c4⟩ = ⟨c0, c1, c2, (C : Int), c4⟩ := by
  unfold que1
  rw [if_neg (by simpa using h)]
theorem car_nat {S : Mps} (hV : Valid S) {k : Nat} (hk : k < S.length) {c0 c1 c2 c3 c4 : Int} (hn : S[k] = ⟨c0, c1, c2, c3, c4⟩) : ∃ C : Nat, c3 = C ∧ C < 256 := by
  have h := (hV.shape hk).1
  rw [hn] at h
  have h1 : 1 ≤ c3 := h.2.1
  have h2 : c3 ≤ 255 := h.2.2.1
  exact ⟨c3.toNat, by omega, by omega⟩

set_option maxRecDepth 100000 in
set_option maxHeartbeats 4000000 in
theorem specQueue_ok' (S : Mps) (x : Nat) (hf : FitsM S) (hg : S.length ≤ 256 ∧ Valid S) (hx : x < 256) : GivesM 15 S (.int .i64 (x : Int)) (queued x S) 0 := by
  intro a cap w hS hc hm hnone
  rw [queued_length]
  obtain ⟨hl, hV⟩ := hg
  go_enter Try.func15, Try.ntmps15
  go_wp2_with fail
  refine (specMapsOK a S cap _ hS hf (by omega)).mono ?_
  rintro e w1 ⟨b, rfl, hiff, hb1⟩
  obtain rfl : b = true := hiff.2 ⟨hl, hV⟩
  have hS1 := hS.moved hb1
  have s1 := hb1.size
  have HV : Hid (Valid S) := hV
  clear hV
  have hmade : (w1.alloc (.cells #[] 55)).ownsRow w1.heap.size 55 5 (.slice (some ⟨w1.heap.size, 0, none⟩) 0 0) 0 (flatM []) := World.ownsRow_made w1 #[] 0 (Nat.le_refl _) (by unfold maxLen; omega) rfl
  clear hiff hS
  go_wp2
  go_loopw [6, 7] (fun v i wr => ∃ (k : Nat) (av : Option Addr) (cp : Nat), k ≤ S.length ∧ i = .int .i64 k ∧ v = .slice av k cp ∧
      wr.ownsRow w1.heap.size 55 5 (.slice av k cp) k (flatM (queued x (S.take k))) ∧ Below w1.heap.size w1 wr) (fun _ i _ => S.length - (intOf i).toNat)
  case atStart => exact ⟨0, _, _, Nat.zero_le _, rfl, rfl, hmade, (Below.refl _ _).alloc (Nat.le_refl _) _⟩
  case round =>
    clear hmade
    obtain ⟨k, av, cp, hk, rfl, rfl, hown, hb⟩ := hrel
    by_cases hlt : k < S.length
    · rcases hS1 with h0 | ⟨b, off, rfl, hc⟩
      · simp [h0] at hlt
      obtain ⟨c0, c1, c2, c3, c4, hn, hok, q0, q1, q2, q3, q4⟩ := LieM.at hf hc hlt
      obtain ⟨C, rfl, hC⟩ := car_nat HV.out hlt hn.out
      have r0 : wr.cell? ⟨b, off + k * 5, none⟩ = some (.int .u64 c0) := by rw [hb.cell (World.block_lt_of_cell? w1 _ q0)]; exact q0
      have r1 : wr.cell? ⟨b, off + k * 5 + 1, none⟩ = some (.int .i64 c1) := by rw [hb.cell (World.block_lt_of_cell? w1 _ q1)]; exact q1
      have r2 : wr.cell? ⟨b, off + k * 5 + 2, none⟩ = some (.int .i64 c2) := by rw [hb.cell (World.block_lt_of_cell? w1 _ q2)]; exact q2
      have r3 : wr.cell? ⟨b, off + k * 5 + 3, none⟩ = some (.int .i64 (C : Int)) := by rw [hb.cell (World.block_lt_of_cell? w1 _ q3)]; exact q3
      have r4 : wr.cell? ⟨b, off + k * 5 + 4, none⟩ = some (.int .i64 c4) := by rw [hb.cell (World.block_lt_of_cell? w1 _ q4)]; exact q4
      have HF : Hid (queued x (S.take (k + 1)) = queued x (S.take k) ++ [que1 x ⟨c0, c1, c2, (C : Int), c4⟩]) := by unfold Hid; rw [queued_take hlt, hn.out]
      have hBl : (queued x (S.take k)).length = k := by rw [queued_length]; simp; omega
      obtain ⟨B, hB⟩ : ∃ B, B = queued x (S.take k) := ⟨_, rfl⟩
      have HB : Hid (B = queued x (S.take k)) := hB
      rw [← hB] at hown hBl
      clear hB hc q0 q1 q2 q3 q4 hok HV hf hn
      have HBl : Hid (B.length = k) := hBl
      clear hBl
      have sz := hb.size
      obtain ⟨wb, hwb⟩ : ∃ v, v = wr.alloc (.cells #[.int .u64 c0, .int .i64 c1, .int .i64 c2, .int .i64 (C : Int), .int .i64 c4] 55) := ⟨_, rfl⟩
      have t0 : wb.cell? ⟨wr.heap.size, 0, none⟩ = some (.int .u64 c0) := by rw [hwb]; simp
      have t1 : wb.cell? ⟨wr.heap.size, 1, none⟩ = some (.int .i64 c1) := by rw [hwb]; simp
      have t2 : wb.cell? ⟨wr.heap.size, 2, none⟩ = some (.int .i64 c2) := by rw [hwb]; simp
      have t3 : wb.cell? ⟨wr.heap.size, 3, none⟩ = some (.int .i64 (C : Int)) := by rw [hwb]; simp
      have t4 : wb.cell? ⟨wr.heap.size, 4, none⟩ = some (.int .i64 c4) := by rw [hwb]; simp
      have t5 : wb.frozen? ⟨wr.heap.size, 4, none⟩ = false := by rw [hwb]; simp
      have hbb : Below w1.heap.size w1 wb := by rw [hwb]; exact hb.alloc sz _
      have hownb : wb.ownsRow w1.heap.size 55 5 (.slice av k cp) k (flatM B) := by rw [hwb]; exact hown.alloc _
      have ltB : ∀ q, (Value.slice av k cp).ownBlock = some q → q < wr.heap.size := fun q hq => (hown.lt q hq).2
      have hownS : (wb.setCell ⟨wr.heap.size, 4, none⟩ (.int .i64 1)).ownsRow w1.heap.size 55 5 (.slice av k cp) k (flatM B) := by
        refine hownb.kept (grown_set wb wr.heap.size 4 _) ?_
        cases hv : (Value.slice av k cp).ownBlock with
        | none => exact .inl rfl
        | some q =>
          refine .inr fun e => ?_
          have := ltB q hv
          simp only [Option.some.injEq] at e
          omega
      have hbS : Below w1.heap.size w1 (wb.setCell ⟨wr.heap.size, 4, none⟩ (.int .i64 1)) := hbb.setCell (p := ⟨wr.heap.size, 4, none⟩) sz _
      clear ltB
      have szb : w1.heap.size ≤ wb.heap.size := hbb.size
      have szc : wr.heap.size < wb.heap.size := World.block_lt_of_cell? _ _ t0
      go_wp2
      rw [← hwb]
      clear hwb hb hown r0 r1 r2 r3 r4
      go_loop [9, 10] (fun v i => ∃ j : Nat, j ≤ 8 ∧ i = .int .i64 j ∧ v = .bool (anyB C x j)) (fun _ i => 8 - (intOf i).toNat)
      case atStart => exact ⟨0, by omega, rfl, rfl⟩
      case round =>
        obtain ⟨j, hj, rfl, rfl⟩ := hrel
        by_cases hlj : j < 8
        · clear hownb hownS hbb hbS HF HB HBl
          cases h1 : C.testBit j with
          | false =>
            have H1 : Hid _ := h1
            clear h1
            go_wp2_with (go_at_call 45; refine (bit_is C j false _ hC (by omega) H1.out).mono ?_; rintro e w2 ⟨rfl, rfl⟩)
            go_round
            case rel => exact ⟨j + 1, by omega, by go_num, by rw [anyB_succ, H1.out]; simp⟩
            case measure => simp [intOf]; omega
          | true =>
            have H1 : Hid _ := h1
            clear h1
            cases h2 : x.testBit j with
            | false =>
              have H2 : Hid _ := h2
              clear h2
              go_wp2_with (first
                | (go_at_call 45; with_reducible (refine Calls.mono (bit_is C j true _ hC (by omega) H1.out) ?_); rintro e w2 ⟨rfl, rfl⟩)
                | (go_at_call 45; with_reducible (refine Calls.mono (bit_is x j false _ hx (by omega) H2.out) ?_); rintro e w2 ⟨rfl, rfl⟩))
              go_round
              case rel => exact ⟨j + 1, by omega, by go_num, by rw [anyB_succ, H1.out, H2.out]; simp⟩
              case measure => simp [intOf]; omega
            | true =>
              have H2 : Hid _ := h2
              clear h2
              go_wp2_with (first
                | (go_at_call 45; with_reducible (refine Calls.mono (bit_is C j true _ hC (by omega) H1.out) ?_); rintro e w2 ⟨rfl, rfl⟩)
                | (go_at_call 45; with_reducible (refine Calls.mono (bit_is x j true _ hx (by omega) H2.out) ?_); rintro e w2 ⟨rfl, rfl⟩))
              go_round
              case rel => exact ⟨j + 1, by omega, by go_num, by rw [anyB_succ, H1.out, H2.out]; simp⟩
              case measure => simp [intOf]; omega
        · obtain rfl : j = 8 := by omega
          by_cases hand : C &&& x = 0
          · have ha : anyB C x 8 = false := by
              cases e : anyB C x 8 with
              | false => rfl
              | true => exact absurd hand ((anyB_all hC).1 e)
            have HN : Hid (queued x (S.take (k + 1)) = B ++ [⟨c0, c1, c2, (C : Int), 1⟩]) := by unfold Hid; rw [HF.out, ← HB.out, que_yes hand]
            simp only [ha]
            clear HF HB hand hownb hbb ha
            go_wp2_with (at_builtin; refine wpList_oneM _ rfl (.tmp 47) (.tmp 49) rfl w1.heap.size _ k _ B HBl.out c0 c1 c2 (C : Int) 1 rfl (hownS.alloc _) _ rfl (cell_alloc5 _ _ _ _ _ _ _ _ (by simp)).1 (cell_alloc5 _ _ _ _ _ _ _ _ (by simp)).2.1 (cell_alloc5 _ _ _ _ _ _ _ _ (by simp)).2.2.1 (cell_alloc5 _ _ _ _ _ _ _ _ (by simp)).2.2.2.1 (cell_alloc5 _ _ _ _ _ _ _ _ (by simp)).2.2.2.2 (by omega) (by simp; omega) ?_; intro g5 cp5 w5 ho5 hg5)
            go_roundw
            case rel => exact ⟨k + 1, some ⟨g5, 0, none⟩, cp5, by omega, by go_num, rfl, by rw [HN.out]; exact ho5, below_grown (hbS.alloc (by simp; omega) _) (hownS.alloc _) hg5 (Nat.le_refl _) (by simp; omega)⟩
            case measure => simp [intOf]; omega
          · have ha : anyB C x 8 = true := (anyB_all hC).2 hand
            have HN : Hid (queued x (S.take (k + 1)) = B ++ [⟨c0, c1, c2, (C : Int), c4⟩]) := by unfold Hid; rw [HF.out, ← HB.out, que_no hand]
            simp only [ha]
            clear HF HB hand hownS hbS ha
            go_wp2_with (at_builtin; refine wpList_oneM _ rfl (.tmp 47) (.tmp 49) rfl w1.heap.size _ k _ B HBl.out c0 c1 c2 (C : Int) c4 rfl (hownb.alloc _) _ rfl (cell_alloc5 _ _ _ _ _ _ _ _ rfl).1 (cell_alloc5 _ _ _ _ _ _ _ _ rfl).2.1 (cell_alloc5 _ _ _ _ _ _ _ _ rfl).2.2.1 (cell_alloc5 _ _ _ _ _ _ _ _ rfl).2.2.2.1 (cell_alloc5 _ _ _ _ _ _ _ _ rfl).2.2.2.2 (by omega) (by simp; omega) ?_; intro g5 cp5 w5 ho5 hg5)
            go_roundw
            case rel => exact ⟨k + 1, some ⟨g5, 0, none⟩, cp5, by omega, by go_num, rfl, by rw [HN.out]; exact ho5, below_grown (hbb.alloc (by omega) _) (hownb.alloc _) hg5 (Nat.le_refl _) (by simp; omega)⟩
            case measure => simp [intOf]; omega
    · have : k = S.length := by omega
      subst this
      rw [List.take_length] at hown
      go_wp2
      go_ret2
      exact ⟨av, cp, rfl, owned_base hown s1, hb1.trans (hb.mono s1)⟩

theorem specQueue_ok (S : Mps) (x : Int) (hf : FitsM S) (hg : S.length ≤ 256 ∧ Valid S) (hx : 0 ≤ x ∧ x ≤ 255) : GivesM 15 S (.int .i64 x) (queued x.toNat S) 0 := by
  have := specQueue_ok' S x.toNat hf hg (by omega)
  rwa [show ((x.toNat : Nat) : Int) = x by omega] at this

theorem specQueue_range (S : Mps) (x : Int) (hf : FitsM S) (hg : S.length ≤ 256 ∧ Valid S) (hx : ¬ (0 ≤ x ∧ x ≤ 255)) : GivesM 15 S (.int .i64 x) [] 4 := by
  intro a cap w hS hc hm hnone
  rcases (show x < 0 ∨ (0 ≤ x ∧ 255 < x) by omega) with g | ⟨g, g'⟩
  all_goals
    clear hx
    go_enter Try.func15, Try.ntmps15
    go_wp2_with fail
    refine (specMapsOK a S cap _ hS hf (by omega)).mono ?_
    rintro e w1 ⟨b, rfl, hiff, hb1⟩
    obtain rfl : b = true := hiff.2 hg
    clear hiff hg hf hS hnone
    go_wp2
    go_ret2
    exact ⟨none, 0, rfl, World.ownsRow_nil _ _ _ _, hb1⟩

theorem specQueue_no (S : Mps) (x : Int) (hf : FitsM S) (hg : ¬ (S.length ≤ 256 ∧ Valid S)) : GivesM 15 S (.int .i64 x) [] 1 := by
  intro a cap w hS hc hm hnone
  go_enter Try.func15, Try.ntmps15
  go_wp2_with (go_at_call 37; refine (specMapsOK a S cap _ hS hf (by omega)).mono ?_; rintro e w1 ⟨b, rfl, hiff, hb1⟩; obtain rfl : b = false := by cases b; rfl; exact absurd (hiff.1 rfl) hg)
  go_ret2
  exact ⟨none, 0, rfl, World.ownsRow_nil _ _ _ _, hb1⟩

theorem pathSet_yes (x : Int) (w : World) (h : 0 ≤ x ∧ x ≤ 255) : Calls Try.prog 46 #[.int .i64 x] w fun e w' => e = .returned (.bool true) ∧ w' = w := by
  go_enter Try.func46, Try.ntmps46
  go_wp2_with (go_at_call 65; refine (within_yes _ _ _ _ h.1 h.2).mono ?_; rintro e w2 ⟨rfl, rfl⟩)
  go_ret
  exact ⟨rfl, rfl⟩
theorem pathSet_no (x : Int) (w : World) (h : ¬ (0 ≤ x ∧ x ≤ 255)) : Calls Try.prog 46 #[.int .i64 x] w fun e w' => e = .returned (.bool false) ∧ w' = w := by
  go_enter Try.func46, Try.ntmps46
  go_wp2_with (go_at_call 65; refine (within_no _ _ _ _ h).mono ?_; rintro e w2 ⟨rfl, rfl⟩)
  go_ret
  exact ⟨rfl, rfl⟩

theorem implQueue_no (S : Mps) (x : Int) (hf : FitsM S) (hg : ¬ (S.length ≤ 256 ∧ Valid S)) : GivesM 16 S (.int .i64 x) [] 1 := by
  intro a cap w hS hc hm hnone
  go_enter Try.func16, Try.ntmps16
  go_wp2_with (go_at_call 39; refine (implMapsOK a S cap _ hS hf (by omega)).mono ?_; rintro e w1 ⟨b, rfl, hiff, hb1⟩; obtain rfl : b = false := by cases b; rfl; exact absurd (hiff.1 rfl) hg)
  go_ret2
  exact ⟨none, 0, rfl, World.ownsRow_nil _ _ _ _, hb1⟩

theorem implQueue_range (S : Mps) (x : Int) (hf : FitsM S) (hg : S.length ≤ 256 ∧ Valid S) (hx : ¬ (0 ≤ x ∧ x ≤ 255)) : GivesM 16 S (.int .i64 x) [] 4 := by
  intro a cap w hS hc hm hnone
  go_enter Try.func16, Try.ntmps16
  go_wp2_with fail
  refine (implMapsOK a S cap _ hS hf (by omega)).mono ?_
  rintro e w1 ⟨b, rfl, hiff, hb1⟩
  obtain rfl : b = true := hiff.2 hg
  clear hiff
  go_wp2_with fail
  refine (pathSet_no x _ hx).mono ?_
  rintro e w2 ⟨rfl, rfl⟩
  clear hx
  go_wp2
  go_ret2
  exact ⟨none, 0, rfl, World.ownsRow_nil _ _ _ _, hb1⟩

/-- One mapping's mark is stored. -/
theorem storedQue {w : World} {base : Nat} {e : TypeId} {g cap : Nat} {S : Mps} (h : w.ownsRow base e 5 (.slice (some ⟨g, 0, none⟩) S.length cap) S.length (flatM S)) (j : Nat) (hj : j < S.length) {c0 c1 c2 c3 c4 : Int} (hs : S[j] = ⟨c0, c1, c2, c3, c4⟩) (y : Int) :
    (w.setCell ⟨g, j * 5 + 4, none⟩ (.int .i64 y)).ownsRow base e 5 (.slice (some ⟨g, 0, none⟩) S.length cap) S.length (flatM (S.set j ⟨c0, c1, c2, c3, y⟩)) := by
  have h1 := (h.stored (j * 5 + 4) (.int .i64 y)).1
  have e : (flatM S).set (j * 5 + 4) (.int .i64 y) = flatM (S.set j ⟨c0, c1, c2, c3, y⟩) := by
    rw [← flatM_set S j ⟨c0, c1, c2, c3, y⟩ hj]
    obtain ⟨f0, f1, f2, f3, f4⟩ := flatM_at hj
    rw [hs] at f0 f1 f2 f3
    have same : ∀ (l : List Value) (i : Nat) (v : Value), l[i]? = some v → l.set i v = l := by
      intro l i v hv
      obtain ⟨hi, rfl⟩ := List.getElem?_eq_some_iff.1 hv
      exact List.set_getElem_self hi
    rw [same _ _ _ f0, same _ _ _ f1, same _ _ _ f2, same _ _ _ f3]
  rwa [e] at h1

set_option maxRecDepth 100000 in
set_option maxHeartbeats 4000000 in
theorem implQueue_ok' (S : Mps) (x : Nat) (hf : FitsM S) (hg : S.length ≤ 256 ∧ Valid S) (hx : x < 256) : GivesM 16 S (.int .i64 (x : Int)) (queued x S) 0 := by
  intro a cap w hS hc hm hnone
  rw [queued_length]
  obtain ⟨hl, hV⟩ := hg
  go_enter Try.func16, Try.ntmps16
  go_wp2_with fail
  refine (implMapsOK a S cap _ hS hf (by omega)).mono ?_
  rintro e w1 ⟨b, rfl, hiff, hb1⟩
  obtain rfl : b = true := hiff.2 ⟨hl, hV⟩
  have hS1 := hS.moved hb1
  have s1 := hb1.size
  have HV : Hid (Valid S) := hV
  clear hV hiff hS
  go_wp2_with fail
  refine (pathSet_yes (x : Int) _ ⟨by omega, by omega⟩).mono ?_
  rintro e w2 ⟨rfl, rfl⟩
  go_wp2_with fail
  refine (copyListM a S _ cap rfl _ hS1 (by omega) hnone).mono ?_
  rintro e w3 ⟨av, cp, rfl, ho, hb3⟩
  rcases ho.2 with ⟨hnil, h0⟩ | ⟨g, cp', cur, hv, _⟩
  · simp only [Value.slice.injEq] at hnil
    obtain ⟨rfl, _, rfl⟩ := hnil
    have hS0 : S = [] := List.eq_nil_of_length_eq_zero h0
    subst hS0
    clear HV
    go_wp2
    refine wp_loop_rounds 1 ?_
    rw [rounds_succ]
    go_wp2
    go_ret2
    exact ⟨none, 0, rfl, owned_base ho s1, hb1.trans (hb3.mono s1)⟩
  · simp only [Value.slice.injEq] at hv
    obtain ⟨rfl, _, rfl⟩ := hv
    have hge : w2.heap.size ≤ g := (ho.lt g rfl).1
    clear hS1
    go_wp2
    go_loopw [18] (fun i wr => ∃ k : Nat, k ≤ S.length ∧ i = .int .i64 k ∧ wr.ownsRow w2.heap.size 55 5 (.slice (some ⟨g, 0, none⟩) S.length cp) S.length (flatM (partQ x S k)) ∧ Below w2.heap.size w2 wr) (fun i _ => S.length - (intOf i).toNat)
    case atStart => exact ⟨0, Nat.zero_le _, rfl, by rw [partQ_zero]; exact ho, hb3⟩
    case round =>
      clear ho hb3
      obtain ⟨k, hk, rfl, hown, hb⟩ := hrel
      by_cases hlt : k < S.length
      · have hpl := partQ_length x S hk
        have hown2 := hown
        rw [← hpl] at hown2
        have hat := partQ_at (x := x) hlt
        obtain ⟨c0, c1, c2, c3, c4, hn⟩ : ∃ c0 c1 c2 c3 c4 : Int, S[k] = ⟨c0, c1, c2, c3, c4⟩ := ⟨_, _, _, _, _, rfl⟩
        obtain ⟨C, rfl, hC⟩ := car_nat HV.out hlt hn
        have r3 := (flatM_at (S := partQ x S k) (i := k) (by rw [hpl]; exact hlt)).2.2.2.1
        rw [hat, hn] at r3
        have r3' : wr.cell? ⟨g, k * 5 + 3, none⟩ = some (.int .i64 (C : Int)) := by rw [hown.cellAt (k * 5 + 3) (by omega)]; exact r3
        obtain ⟨_, _, _, _, f4, _, _, _, _, ⟨u4, g4⟩⟩ := placeM hown hlt
        have hand := and_small C x hC hx
        by_cases h0 : C &&& x = 0
        · have hnew := storedQue hown2 k (by omega) (hat.trans hn) 1
          have hq : (⟨c0, c1, c2, (C : Int), 1⟩ : Mp) = que1 x S[k] := by rw [hn, que_yes h0]
          rw [hq, partQ_succ hlt, hpl] at hnew
          rw [h0] at hand
          have HN : Hid _ := hnew
          have hb2 := hb.setCell (p := ⟨g, k * 5 + 4, none⟩) hge (.int .i64 1)
          clear hown hown2 hnew hq hat hn r3 HV hpl hb h0
          go_wp2
          go_roundw
          case rel => exact ⟨k + 1, by omega, by go_num, HN.out, hb2⟩
          case measure => simp [intOf]; omega
        · have hq : partQ x S (k + 1) = partQ x S k := by
            rw [← partQ_succ hlt, hn, que_no h0, ← hn, ← hat, List.set_getElem_self]
          have hne : ((((C &&& x : Nat) : Int)) == 0) = false := by simp; omega
          have HQ : Hid _ := hq
          obtain ⟨D, hD⟩ : ∃ D : Nat, D = C &&& x := ⟨_, rfl⟩
          rw [← hD] at hand hne
          have hDn : ¬ (D : Int) = 0 := by simpa using hne
          clear hown2 hat hn r3 HV hpl hD h0 hq
          go_wp2
          go_roundw
          case rel => exact ⟨k + 1, by omega, by go_num, by rw [HQ.out]; exact hown, hb⟩
          case measure => simp [intOf]; omega
      · have : k = S.length := by omega
        subst this
        rw [partQ_all] at hown
        go_wp2
        go_ret2
        exact ⟨_, cp, rfl, owned_base hown s1, hb1.trans (hb.mono s1)⟩

theorem implQueue_ok (S : Mps) (x : Int) (hf : FitsM S) (hg : S.length ≤ 256 ∧ Valid S) (hx : 0 ≤ x ∧ x ≤ 255) : GivesM 16 S (.int .i64 x) (queued x.toNat S) 0 := by
  have := implQueue_ok' S x.toNat hf hg (by omega)
  rwa [show ((x.toNat : Nat) : Int) = x by omega] at this
end Go.Proofs.Ytlagaiekoahjnaa
