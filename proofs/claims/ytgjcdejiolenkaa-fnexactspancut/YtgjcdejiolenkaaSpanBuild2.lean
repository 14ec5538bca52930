import Derived.Test.YtgjcdejiolenkaaSpanBuild0
namespace Go.Proofs.Ytgjcdejiolenkaa
open Go.ChangeShapes Go.WideShapes Go.ChangeAt Go.RowKit
set_option linter.unusedVariables false

set_option maxHeartbeats 4000000 in
set_option maxRecDepth 100000 in
theorem specBuild2 (a : Option Addr) (S : Sp) (cap : Nat) (p q : Int) (w : World) (hS : Spans w a S) (hf : Fits S) (hl : S.length ≤ 1000) (p0 : 0 ≤ p) (p1 : p ≤ 18446744073709551615) (q0 : 0 ≤ q) (q1 : q ≤ 18446744073709551615) :
    Calls Try.prog 28 #[.slice a S.length cap, .agg #[.int .u64 p, .int .u64 q], .int .i64 2] w fun e w' => ∃ av cap', e = .returned (.slice av (built f2 S (p, q)).length cap') ∧
      w'.ownsRow w.heap.size 31 2 (.slice av (built f2 S (p, q)).length cap') (built f2 S (p, q)).length (flat (built f2 S (p, q))) ∧ Below w.heap.size w w' := by
  go_enter Try.func28, Try.ntmps28
  go_wp2_with fail
  have hbw : Below w.heap.size w (w.alloc (.cells #[.int .u64 p, .int .u64 q] 31)) := (Below.refl _ _).alloc (Nat.le_refl _) _
  have hSb := hS.moved hbw
  refine (specPoints a S cap p q _ hSb hf (by omega) p0 p1 q0 q1).mono ?_
  rintro e w1 ⟨av, cp, rfl, hoP, hb1⟩
  have hs1 : w.heap.size + 1 ≤ w1.heap.size := by have := hb1.size; simpa using this
  have hb1' : Below w.heap.size w w1 := hbw.trans (hb1.mono (by simp))
  have hS1 := hS.moved hb1'
  have hbox : w1.cell? ⟨w.heap.size, 0, none⟩ = some (.int .u64 p) ∧ w1.cell? ⟨w.heap.size, 1, none⟩ = some (.int .u64 q) := by
    rw [hb1.cell (by simp), hb1.cell (by simp)]
    simp
  obtain ⟨x0, x1⟩ := hbox
  have hwP := pts_words hf p0 p1 q0 q1
  have hPl := pts_length S (p, q)
  have hPp := pts_pos S (p, q)
  obtain ⟨P, hP⟩ : ∃ P, P = pts S (p, q) := ⟨_, rfl⟩
  have hbd : Hid (built f2 S (p, q) = buildTo P (fun x => f2 (inB x S) (inB x [(p, q)])) (P.length - 1)) := by unfold Hid; rw [hP]; rfl
  rw [← hP] at hoP hwP hPl hPp
  rw [← hP]
  rcases Ints.ofRow hoP with h | ⟨bp, op, rfl, hcp⟩
  · simp [h] at hPp
  clear hP hSb hbw hoP hb1
  obtain ⟨wo, hwo⟩ : ∃ x, x = w1.alloc (.cells #[.int .u64 p, .int .u64 q] 31) := ⟨_, rfl⟩
  have hbo : Below w1.heap.size w1 wo := by rw [hwo]; exact (Below.refl _ _).alloc (Nat.le_refl _) _
  have hone : Spans wo (some ⟨w1.heap.size, 0, none⟩) [(p, q)] := by
    rw [hwo]
    refine .inr ⟨w1.heap.size, 0, rfl, fun i hi => ?_⟩
    have : i = 0 := by simp at hi; omega
    subst this
    simp
  have hSo := hS1.moved hbo
  have hcpo : ∀ i, i < P.length → wo.cell? ⟨bp, op + i, none⟩ = some (.int .u64 (P.getD i 0)) := fun i hi => (hbo.cell (World.block_lt_of_cell? w1 _ (hcp i hi))).trans (hcp i hi)
  have hwos : w1.heap.size ≤ wo.heap.size := hbo.size
  have hbwo : Below w.heap.size w wo := hb1'.trans (hbo.mono (by omega))
  have hmade : (wo.alloc (.cells #[] 31)).ownsRow wo.heap.size 31 2 (.slice (some ⟨wo.heap.size, 0, none⟩) 0 0) 0 (flat []) := World.ownsRow_made wo #[] 0 (Nat.le_refl _) (by unfold maxLen; omega) rfl
  have hsizes : wo.heap.size = w1.heap.size + 1 := by rw [hwo]; simp
  have hfo : Fits [(p, q)] := by intro r hr; simp at hr; subst hr; exact ⟨p0, p1, q0, q1⟩
  clear hcp hS1 hS hb1' hbo
  go_wp2
  rw [← hwo] at *
  rw [← hsizes]
  clear hwo hsizes
  go_loopw [9, 10] (fun v i wr => ∃ (k : Nat) (av : Option Addr) (cp : Nat), k + 1 ≤ P.length ∧ i = .int .i64 k ∧ v = .slice av (buildTo P (fun x => f2 (inB x S) (inB x [(p, q)])) k).length cp ∧
      wr.ownsRow wo.heap.size 31 2 (.slice av (buildTo P (fun x => f2 (inB x S) (inB x [(p, q)])) k).length cp) (buildTo P (fun x => f2 (inB x S) (inB x [(p, q)])) k).length (flat (buildTo P (fun x => f2 (inB x S) (inB x [(p, q)])) k)) ∧ Below wo.heap.size wo wr) (fun _ i _ => P.length - (intOf i).toNat)
  case atStart => exact ⟨0, _, _, by omega, rfl, rfl, hmade, (Below.refl _ _).alloc (Nat.le_refl _) _⟩
  case round =>
    clear hmade
    obtain ⟨k, av, cp2, hk, rfl, rfl, hownB, hb⟩ := hrel
    have hBl := buildTo_length (P := P) (pass := fun x => f2 (inB x S) (inB x [(p, q)])) k
    by_cases hlt : k + 1 < P.length
    · obtain ⟨x, hx, u0, u1, hxc⟩ := wordAt hwP hcpo (show k < P.length by omega)
      obtain ⟨y, hy, v0, v1, hyc⟩ := wordAt hwP hcpo hlt
      have hyes := fun h => buildTo_yes (pass := fun x => f2 (inB x S) (inB x [(p, q)])) (getD_at (by omega) hx.out) (getD_at hlt hy.out) h
      have hno := fun h => buildTo_no (pass := fun x => f2 (inB x S) (inB x [(p, q)])) (getD_at (show k < P.length by omega) hx.out) h
      have HY : Hid _ := hyes
      have HN : Hid _ := hno
      obtain ⟨B, hB⟩ : ∃ B, B = buildTo P (fun x => f2 (inB x S) (inB x [(p, q)])) k := ⟨_, rfl⟩
      have hB' : Hid (B = buildTo P (fun x => f2 (inB x S) (inB x [(p, q)])) k) := hB
      rw [← hB] at hownB hBl
      rw [← hB]
      have hxc' : wr.cell? ⟨bp, op + k, none⟩ = some (.int .u64 x) := (hb.cell (World.block_lt_of_cell? wo _ hxc)).trans hxc
      have hyc' : wr.cell? ⟨bp, op + (k + 1), none⟩ = some (.int .u64 y) := (hb.cell (World.block_lt_of_cell? wo _ hyc)).trans hyc
      have hSr := hSo.moved hb
      have hor := hone.moved hb
      have hsr := hb.size
      obtain ⟨bA, hA⟩ : ∃ b, inB x S = b := ⟨_, rfl⟩
      obtain ⟨bB, hBb⟩ : ∃ b, inB x [(p, q)] = b := ⟨_, rfl⟩
      have HA : Hid (inB x S = bA) := hA
      have HB : Hid (inB x [(p, q)] = bB) := hBb
      clear hyes hno hB hx hy hA hBb hcpo hSo hone
      cases bA <;> cases bB
      all_goals
        go_wp2_with fail
        refine (specInAs a S S.length cap rfl x _ _ hSr hf (by omega) u0 u1 HA.out).mono ?_
        rintro e w2 ⟨rfl, rfl⟩
        go_wp2_with fail
        refine (specInAs (some ⟨w1.heap.size, 0, none⟩) [(p, q)] 1 1 rfl x _ _ hor hfo (by simp) u0 u1 HB.out).mono ?_
        rintro e w2 ⟨rfl, rfl⟩
        clear hor hfo hSr hf hwP hPp x0 x1 hbwo hwos
        go_wp2
      all_goals first
        | (go_roundw
           case rel =>
             have e := HN.out (by rw [HA.out, HB.out]; rfl)
             exact ⟨k + 1, av, cp2, by omega, by go_num, by rw [e, ← hB'.out], by rw [e, ← hB'.out]; exact hownB, hb⟩
           case measure => simp [intOf]; omega)
        | skip
      all_goals
        have e := HY.out (by rw [HA.out, HB.out]; rfl)
        have HE : Hid (buildTo P (fun x => f2 (inB x S) (inB x [(p, q)])) (k + 1) = addOn B x y) := by unfold Hid; rw [e, ← hB'.out]
        clear e HY HN HA HB hB' hbd
        rcases List.eq_nil_or_concat B with h | ⟨L, ⟨u, v⟩, h⟩
        · subst h
          go_quiet (fail)
          go_wp2
          obtain ⟨w3, hw3⟩ : ∃ z, z = w2.drewN nq := ⟨_, rfl⟩
          rw [← hw3]
          have hown3 : w3.ownsRow wo.heap.size 31 2 (.slice av ([] : Sp).length cp2) ([] : Sp).length (flat []) := by rw [hw3]; exact hownB
          have hb3 : Below wo.heap.size wo w3 := by rw [hw3]; exact drewsN hb _
          have hx3 : w3.cell? ⟨bp, op + k, none⟩ = some (.int .u64 x) := by rw [hw3]; exact hxc'
          have hy3 : w3.cell? ⟨bp, op + (k + 1), none⟩ = some (.int .u64 y) := by rw [hw3]; exact hyc'
          have hs3 := hb3.size
          have ki : (0 : Int) ≤ (k : Int) + 1 := by omega
          have kk : (0 : Int) ≤ (k : Int) := by omega
          have kl : (k : Int) < (P.length : Int) := by omega
          have kw : IntKind.i64.wrap ((k : Int) + 1) = (k : Int) + 1 := by simpa using wrap_i64_small (k + 1) (by omega)
          have kj : (k : Int) + 1 < (P.length : Int) := by omega
          have hbl : bp < w3.heap.size := World.block_lt_of_cell? w3 _ hx3
          obtain ⟨i0, hi, hz0, hz1, hz2⟩ := info_parts info_span
          clear hw3 hownB hb hxc' hyc'
          go_region_held3 (fun w' => w'.cell? ⟨bp, op + k, none⟩ = some (.int .u64 x) ∧ w'.cell? ⟨bp, op + (k + 1), none⟩ = some (.int .u64 y))
            (first | go_keep | exact ⟨by assumption, by assumption⟩)
            ((refine step_append_lies _ (by rfl) _ _ _ (by rfl) wo.heap.size 31 i0 _ 2 16 Try.underlying29 hi hz0 hz1 hz2 rfl (by omega) _ ([] : Sp).length (flat []) (by rfl) ((hown3.alloc _).drew) ⟨w3.heap.size, 0, none⟩ 1 1 [.int .u64 x, .int .u64 y] (by rfl) (by rfl) (World.news_of_block (cs := #[.int .u64 x, .int .u64 y]) (t := 31) (fr := (0, 0)) (heap_alloc_new w3 _)) (by simp [Value.oneCell']) (by omega) (by unfold maxLen; simp) (by simp) (by simp; omega) (w3.heap.size + 1) (by simp) ?_; intro g4 c4 w4 ho4 hg4 hat hgl; have hb4 := below_grown (hb3.alloc hs3 _).drew (hown3.alloc _).drew hg4 (Nat.le_refl _) (by simp; omega); have k1 := (hb4.cell (World.block_lt_of_cell? wo _ hxc)).trans hxc; have k2 := (hb4.cell (World.block_lt_of_cell? wo _ hyc)).trans hyc))
          go_wp2
          go_roundw
          case rel => exact ⟨k + 1, _, _, by omega, by go_num, by rw [HE.out, addOn_nil]; simp; exact ⟨rfl, rfl⟩, by rw [HE.out, addOn_nil, flat_append, flat_one]; simpa using ho4, hb4⟩
          case measure => simp [intOf]; omega
        · rw [List.concat_eq_append] at h
          subst h
          simp only [List.length_append, List.length_singleton] at hownB hBl ⊢
          rcases hownB.2 with ⟨h', _⟩ | ⟨g, cap', cur, h', _⟩
          · simp at h'
          simp only [Value.slice.injEq] at h'
          obtain ⟨rfl, _, rfl⟩ := h'
          obtain ⟨l1, l2⟩ := lastCells rfl hownB
          have n0 : decide ((0 : Int) < (L.length : Int) + 1) = true := by rw [decide_eq_true_iff]; omega
          have n1 : (0 : Int) < (L.length : Int) + 1 := by omega
          by_cases hvx : v = x
          · have b1 : (v == x) = true := by simpa using hvx
            subst hvx
            have hgb := (hownB.lt g rfl).1
            have hst := fun n => storedHi rfl (owned_drewN hownB n) y
            have hbs := fun n => (drewsN hb n).setCell (p := ⟨g, L.length * 2 + 1, none⟩) hgb (.int .u64 y)
            clear hownB hb
            go_quiet (fail)
            go_wp2
            go_roundw
            case rel => exact ⟨k + 1, some ⟨g, 0, none⟩, cp2, by omega, by go_num, by rw [HE.out, addOn_touch rfl]; simp, by rw [HE.out, addOn_touch rfl]; simpa using hst nq, hbs nq⟩
            case measure => simp [intOf]; omega
          · have b1 : (v == x) = false := by simpa using hvx
            go_quiet (fail)
            go_wp2
            obtain ⟨w3, hw3⟩ : ∃ z, z = w2.drewN nq := ⟨_, rfl⟩
            rw [← hw3]
            have hown3 : w3.ownsRow wo.heap.size 31 2 (.slice (some ⟨g, 0, none⟩) (L.length + 1) cp2) (L.length + 1) (flat (L ++ [(u, v)])) := by rw [hw3]; exact hownB
            have hb3 : Below wo.heap.size wo w3 := by rw [hw3]; exact drewsN hb _
            have hx3 : w3.cell? ⟨bp, op + k, none⟩ = some (.int .u64 x) := by rw [hw3]; exact hxc'
            have hy3 : w3.cell? ⟨bp, op + (k + 1), none⟩ = some (.int .u64 y) := by rw [hw3]; exact hyc'
            have hs3 := hb3.size
            have ki : (0 : Int) ≤ (k : Int) + 1 := by omega
            have kk : (0 : Int) ≤ (k : Int) := by omega
            have kl : (k : Int) < (P.length : Int) := by omega
            have kw : IntKind.i64.wrap ((k : Int) + 1) = (k : Int) + 1 := by simpa using wrap_i64_small (k + 1) (by omega)
            have kj : (k : Int) + 1 < (P.length : Int) := by omega
            have hbl : bp < w3.heap.size := World.block_lt_of_cell? w3 _ hx3
            obtain ⟨i0, hi, hz0, hz1, hz2⟩ := info_parts info_span
            clear hw3 hownB hb hxc' hyc'
            go_region_held3 (fun w' => w'.cell? ⟨bp, op + k, none⟩ = some (.int .u64 x) ∧ w'.cell? ⟨bp, op + (k + 1), none⟩ = some (.int .u64 y))
              (first | go_keep | exact ⟨by assumption, by assumption⟩)
              ((refine step_append_lies _ (by rfl) _ _ _ (by rfl) wo.heap.size 31 i0 _ 2 16 Try.underlying29 hi hz0 hz1 hz2 rfl (by omega) _ (L.length + 1) (flat (L ++ [(u, v)])) (by rfl) ((hown3.alloc _).drew) ⟨w3.heap.size, 0, none⟩ 1 1 [.int .u64 x, .int .u64 y] (by rfl) (by rfl) (World.news_of_block (cs := #[.int .u64 x, .int .u64 y]) (t := 31) (fr := (0, 0)) (heap_alloc_new w3 _)) (by simp [Value.oneCell']) (by omega) (by unfold maxLen; omega) (by omega) (by simp; omega) (w3.heap.size + 1) (by simp) ?_; intro g4 c4 w4 ho4 hg4 hat hgl; have hb4 := below_grown (hb3.alloc hs3 _).drew (hown3.alloc _).drew hg4 (Nat.le_refl _) (by simp; omega); have k1 := (hb4.cell (World.block_lt_of_cell? wo _ hxc)).trans hxc; have k2 := (hb4.cell (World.block_lt_of_cell? wo _ hyc)).trans hyc))
            go_wp2
            go_roundw
            case rel => exact ⟨k + 1, _, _, by omega, by go_num, by rw [HE.out, addOn_apart hvx]; simp; exact ⟨rfl, rfl⟩, by rw [HE.out, addOn_apart hvx, flat_append, flat_one]; simpa using ho4, hb4⟩
            case measure => simp [intOf]; omega
    · go_wp2
      go_ret
      have hke : P.length - 1 = k := by omega
      exact ⟨av, cp2, by rw [hbd.out, hke]; rfl, by rw [hbd.out, hke]; exact owned_base hownB (by omega), hbwo.trans (hb.mono (by omega))⟩
end Go.Proofs.Ytgjcdejiolenkaa
