import Derived.Test.YtkamdaadgndmbaaNLoop2
namespace Go.Proofs.Ytkamdaadgndmbaa
open Go.ChangeShapes Go.WideShapes Go.ChangeAt Go.RowKit
set_option linter.unusedVariables false

theorem apartN {w : World} {b1 b2 : Nat} {e1 e2 : TypeId} {z1 z2 : Nat} {v1 v2 : Value} {n1 n2 : Nat} {x1 x2 : List Value} (h1 : w.ownsRow b1 e1 z1 v1 n1 x1) (h2 : w.ownsRow b2 e2 z2 v2 n2 x2) (hne : e1 ≠ e2) : ∀ j, v1.ownBlock = some j → v2.ownBlock = some j → False := by
  intro j h3 h4
  obtain ⟨c1, k1⟩ := row_block h1 h3
  obtain ⟨c2, k2⟩ := row_block h2 h4
  exact type_ne k1 k2 hne rfl
set_option maxHeartbeats 4000000 in
set_option maxRecDepth 100000 in
theorem lawNet (a : Option Addr) (zs : List Int) (n cap : Nat) (w : World) (hn : zs.length = n) (hz : Ints .u8 w a zs) (hv : ∀ x ∈ zs, 0 ≤ x ∧ x ≤ 255) (hm : n ≤ 9223372036854775807) :
    Calls Try.prog 3 #[.slice a n cap] w fun e w' => e = .returned (.bool true) ∧ Below w.heap.size w w' := by
  by_cases hl : n ≤ 1048576
  case neg =>
    have d1 : decide (1048576 < (n : Int)) = true := by rw [decide_eq_true_iff]; omega
    go_enter Try.func3, Try.ntmps3
    go_wp2_with fail
    go_ret
    exact ⟨rfl, Below.refl _ _⟩
  case pos =>
  have d1 : decide (1048576 < (n : Int)) = false := by rw [decide_eq_false_iff_not]; omega
  obtain ⟨P, hP⟩ : ∃ P, Hid (P = (runF zs).1) := ⟨_, rfl⟩
  obtain ⟨ES, hES⟩ : ∃ ES, Hid (ES = (runF zs).2) := ⟨_, rfl⟩
  obtain ⟨M, hM⟩ : ∃ M, Hid (M = ES.length) := ⟨_, rfl⟩
  have HH : Hid (∀ W, Below w.heap.size w W → Calls Try.prog 6 #[.slice a n cap] W fun e w' => ∃ (av : Option Addr) (cp : Nat) (G : Evs), e = .returned (.tuple #[.int .i64 P, .slice av M cp]) ∧ G.length = M ∧ G.map (·.1) = ES ∧ (0 ≤ P ∧ P ≤ 9) ∧ M ≤ 1000003 ∧ (∀ p ∈ G, EvOk p.1) ∧ EvLie w' w'.heap.size av G ∧ Below W.heap.size W w') := by
    intro W hW
    refine (drawRun_at a zs n cap W hn (hz.moved hW) hv hl).mono ?_
    rintro e w' ⟨P', m, av, cp, G, rfl, h1, h2, h3, h4, h5, h6, h7⟩
    have e1 : P' = P := by rw [hP.out, ← h2]
    have e2 : G.map (·.1) = ES := by rw [hES.out, ← h2]
    have e3 : m = M := by rw [hM.out, ← e2, List.length_map, h1]
    subst e1 e3
    exact ⟨av, cp, G, rfl, h1, e2, h3, h4, h5, h6, h7⟩
  have h1 := HH.out w (Below.refl _ _)
  clear hz hv hn
  go_enter Try.func3, Try.ntmps3
  go_wp2_with fail
  refine h1.mono ?_
  rintro e w1 ⟨ea, ec, G1, rfl, l1, m1, ⟨P0, P9⟩, mb, ok1, hE1, hb1⟩
  have h2 := HH.out w1 hb1
  clear h1
  go_wp2_with fail
  refine h2.mono ?_
  rintro e w2 ⟨ma, mc, G2, rfl, l2, m2, _, _, ok2, hE2, hb2⟩
  have hB2 := hb1.trans (hb2.mono hb1.size)
  have hE1 : EvLie w2 w2.heap.size ea G1 := by
    have h := hE1.stays (w' := w2) fun k hk => hb2.block k hk
    exact ⟨by
      rcases h.at_ with h0 | ⟨b, off, ha, hl, hc⟩
      · exact .inl h0
      · exact .inr ⟨b, off, ha, by have := hb2.size; omega, hc⟩, fun p hp => ⟨(h.dat p hp).1, fun b o e => by have := (h.dat p hp).2 b o e; have := hb2.size; omega⟩, h.nil⟩
  clear h2 HH hb1 hb2
  by_cases hok : 1 ≤ P ∧ P ≤ 8
  case neg =>
    have h3 := implNetRun_bad P hok ma M mc w2
    have HE1 : Hid _ := hE1
    have HE2 : Hid _ := hE2
    have HOK : Hid _ := hok
    clear hE1 hE2 l1 l2 m1 m2 ok1 ok2
    go_wp2_with fail
    refine h3.mono ?_
    rintro e w3 ⟨rfl, hb3⟩
    have hB3 := hB2.trans (hb3.mono hB2.size)
    have h4 := implFlight_bad P hok ma M mc w3
    clear h3 hb3
    go_wp2_with fail
    refine h4.mono ?_
    rintro e w4 ⟨rfl, hb4⟩
    have hB4 := hB3.trans (hb4.mono hB3.size)
    clear h4 hb4 hB3 hB2
    by_cases c1 : P < 1
    · have b1 : decide (P < 1) = true := decide_eq_true c1
      go_wp2_with fail
      go_ret
      exact ⟨rfl, hB4⟩
    · have b1 : decide (P < 1) = false := decide_eq_false c1
      have b2 : decide (8 < P) = true := decide_eq_true (by omega)
      go_wp2_with fail
      go_ret
      exact ⟨rfl, hB4⟩
  case pos =>
  obtain ⟨p, hp⟩ : ∃ p : Nat, P = (p : Int) := ⟨P.toNat, by omega⟩
  subst hp
  have h3 := implNetRun_any p hok ma G2 M mc w2 l2 hE2 ok2
  rw [m2] at h3
  have b1 : decide ((p : Int) < 1) = false := decide_eq_false (by omega)
  have b2 : decide (8 < (p : Int)) = false := decide_eq_false (by omega)
  have HE1 : Hid _ := hE1
  have HOK1 : Hid _ := ok1
  have HM1 : Hid _ := m1
  have HL1 : Hid _ := l1
  clear hE1 ok1 m1 l1
  go_wp2_with fail
  refine h3.mono ?_
  rintro e w3 ⟨hb3, hr3⟩
  have hB3 := hB2.trans (hb3.mono hB2.size)
  have HEL : Hid (∀ V, Below w2.heap.size w2 V → EvLie V w2.heap.size ea G1) := fun V hV => HE1.out.stays fun k hk => hV.block k hk
  have hE2 : EvLie w3 w3.heap.size ma G2 := by
    have h := hE2.stays (w' := w3) fun k hk => hb3.block k hk
    exact ⟨by
      rcases h.at_ with h0 | ⟨b, off, ha, hl, hc⟩
      · exact .inl h0
      · exact .inr ⟨b, off, ha, by have := hb3.size; omega, hc⟩, fun p hp => ⟨(h.dat p hp).1, fun b o e => by have := (h.dat p hp).2 b o e; have := hb3.size; omega⟩, h.nil⟩
  have h4 := implFlight_any p hok ma G2 M mc w3 l2 hE2 ok2
  rw [m2] at h4
  clear h3 HE1
  by_cases hM4 : 4000 < M
  case pos =>
    obtain rfl : e = .returned (.tuple #[.slice none 0 0, .int .i64 5]) := by
      rcases hr3 with ⟨_, h⟩ | ⟨h, _⟩
      · exact h
      · omega
    have b4 : decide (4000 < (M : Int)) = true := decide_eq_true (by omega)
    have HE2 : Hid _ := hE2
    clear hr3 hE2 ok2 m2 l2
    go_wp2_with fail
    refine h4.mono ?_
    rintro e w4 ⟨hb4, hr4⟩
    obtain rfl : e = .returned (.tuple #[.slice none 0 0, .int .i64 5]) := by
      rcases hr4 with ⟨_, h⟩ | ⟨h, _⟩
      · exact h
      · omega
    have hB4 := hB3.trans (hb4.mono hB3.size)
    clear hr4 h4
    go_wp2_with fail
    go_ret
    exact ⟨rfl, hB4⟩
  case neg =>
  have b4 : decide (4000 < (M : Int)) = false := decide_eq_false (by omega)
  obtain ⟨oa, oc, Go, rfl, hOo, hGo⟩ : ∃ av cp G, e = .returned (.tuple #[.slice av M cp, .int .i64 0]) ∧ OutsN w3 w2.heap.size (.slice av M cp) G ∧ G.map (·.1) = outsN p startN ES := by
    rcases hr3 with ⟨h, _⟩ | ⟨_, h⟩
    · omega
    · exact h
  have HE2 : Hid _ := hE2
  clear hr3 hE2 ok2 m2 l2
  go_wp2_with fail
  refine h4.mono ?_
  rintro e w4 ⟨hb4, hr4⟩
  obtain ⟨fa, fc, rfl, F, hFl, hOf, hFt⟩ : ∃ av cp, e = .returned (.tuple #[.slice av (2 * p) cp, .int .i64 0]) ∧ ∃ F, F.length = 2 * p ∧ OutsF w4 w3.heap.size (.slice av (2 * p) cp) F ∧ F.map FB.told = toldU (stateN p ES) (2 * p) := by
    rcases hr4 with ⟨h, _⟩ | ⟨_, h⟩
    · omega
    · exact h
  have hB4 := hB3.trans (hb4.mono hB3.size)
  have h24 : Below w2.heap.size w2 w4 := hb3.trans (hb4.mono hb3.size)
  have hOo := hOo.stays (w' := w4) fun k cs t _ _ hk => hb4.block k (Array.getElem?_eq_some_iff.1 hk).1
  have HEV : Hid (EvLie w4 w2.heap.size ea G1) := HEL.out w4 h24
  clear hr4 h4 HE2 HEL hB3 hB2 hb3 hb4
  have HOO : Hid _ := hOo
  have HGO : Hid _ := hGo
  have HFL : Hid _ := hFl
  have HOF : Hid _ := hOf
  have HFT : Hid _ := hFt
  have s24 : w2.heap.size ≤ w4.heap.size := h24.size
  clear hOo hGo hFl hOf hFt h24
  obtain ⟨N, hN⟩ : ∃ N, N = 2 * p := ⟨_, rfl⟩
  rw [← hN] at HFL HOF HFT ⊢
  have hNi : IntKind.i64.wrap (2 * (p : Int)) = (N : Int) := by rw [IntKind.wrap_i64]; omega
  have hN16 : N ≤ 16 := by omega
  have hN2 : 2 ≤ N := by omega
  have HN : Hid _ := hN
  clear hN
  have hmadeL : (w4.alloc (.cells #[] 38)).ownsRow w4.heap.size 38 1 (.slice (some ⟨w4.heap.size, 0, none⟩) 0 0) 0 [] := World.ownsRow_made w4 #[] 0 (Nat.le_refl _) (by unfold maxLen; omega) rfl
  have hmadeC : ((w4.alloc (.cells #[] 38)).alloc (.cells #[] 2)).ownsRow w4.heap.size 2 1 (.slice (some ⟨w4.heap.size + 1, 0, none⟩) 0 0) 0 [] := by
    have := World.ownsRow_made (size := 1) (e := 2) (w4.alloc (.cells #[] 38)) #[] 0 (Nat.le_refl _) (by unfold maxLen; omega) rfl
    simp at this
    exact owned_base this (by omega)
  have hb0 : Below w4.heap.size w4 ((w4.alloc (.cells #[] 38)).alloc (.cells #[] 2)) := ((Below.refl _ _).alloc (Nat.le_refl _) _).alloc (by simp) _
  have HML : Hid (((w4.alloc (.cells #[] 38)).alloc (.cells #[] 2)).ownsRow w4.heap.size 38 1 (.slice (some ⟨w4.heap.size, 0, none⟩) 0 0) 0 []) := own_alloc hmadeL _
  have HMC : Hid (((w4.alloc (.cells #[] 38)).alloc (.cells #[] 2)).ownsRow w4.heap.size 2 1 (.slice (some ⟨w4.heap.size + 1, 0, none⟩) 0 0) 0 []) := hmadeC
  have HB0 : Hid _ := hb0
  clear hmadeL hmadeC hb0
  go_wp2_with fail
  go_loopw [11, 12, 13] (fun lv cv iv wr => ∃ (k : Nat) (la ca : Option Addr) (lc cc : Nat), k ≤ N ∧ iv = .int .i64 (k : Int) ∧ lv = .slice la k lc ∧ cv = .slice ca k cc ∧ wr.ownsRow w4.heap.size 38 1 (.slice la k lc) k (List.replicate k (.slice none 0 0)) ∧ wr.ownsRow w4.heap.size 2 1 (.slice ca k cc) k ((List.replicate k (0 : Int)).map (.int .i64)) ∧ Below w4.heap.size w4 wr) (fun _ _ iv _ => N - (intOf iv).toNat)
  case atStart => exact ⟨0, _, _, _, _, Nat.zero_le _, rfl, rfl, rfl, HML.out, HMC.out, HB0.out⟩
  case round =>
  clear HML HMC HB0
  obtain ⟨k, la, ca, lc, cc, hk, rfl, rfl, rfl, hrl, hrc, hbr⟩ := hrel
  by_cases hlt : k < N
  case pos =>
    have hki : (k : Int) < (N : Int) := by omega
    have hsz := hbr.size
    go_wp2_with (at_builtin; (first
      | (refine wpList_appL _ (by rfl) _ _ (by rfl) w4.heap.size la k lc _ (by rfl) (own_alloc hrl _) wr.heap.size _ (by rfl) (heap_alloc_new wr _) (by rfl) (by omega) (by simp; omega) ?_; intro g5 cap5 w5 ho5 hg5; have hrc5 := row_stays (w' := w5) (own_alloc hrc (.cells #[.slice none 0 0] 38)) (fun j hj => hg5.block j ((own_alloc hrc (.cells #[.slice none 0 0] 38)).lt j hj).2 (fun e => apartN hrl hrc (by decide) j e.symm hj)); have hb5 := below_grown (hbr.alloc hsz _) (own_alloc hrl _) hg5 (Nat.le_refl _) (by simp; omega); have hsz5 := hb5.size)
      | (refine wpList_app1 _ (by rfl) _ _ 33 2 (by rfl) .i64 8 Try.underlying33 info_i64n (by decide) w4.heap.size ca k cc (List.replicate k 0) 0 (by rfl) (hrc5.alloc _) ⟨w5.heap.size, 0, none⟩ (by rfl) (by simp) (by omega) (by simp; omega) ?_; intro g6 cap6 w6 ho6 hg6; have hrl6 := row_stays (w' := w6) (own_alloc ho5 (.cells #[.int .i64 0] 2)) (fun j hj => hg6.block j ((own_alloc ho5 (.cells #[.int .i64 0] 2)).lt j hj).2 (fun e => apartN hrc5 ho5 (by decide) j e.symm hj)); have hb6 := below_grown (hb5.alloc hsz5 _) (hrc5.alloc _) hg6 (Nat.le_refl _) (by simp; omega))))
    go_roundw
    case rel => exact ⟨k + 1, some ⟨g5, 0, none⟩, some ⟨g6, 0, none⟩, cap5, cap6, by omega, by go_num, rfl, rfl, by rw [List.replicate_succ']; exact hrl6, by rw [List.replicate_succ']; exact ho6, hb6⟩
    case measure => simp [intOf]; omega
  case neg =>
  obtain rfl : N = k := by omega
  have hkk : ¬ (N : Int) < (N : Int) := by omega
  have hNi2 : ((2 * p : Nat) : Int) = (N : Int) := by rw [HN.out]
  obtain ⟨lb, rfl⟩ : ∃ lb, la = some ⟨lb, 0, none⟩ := by
    rcases hrl.2 with ⟨_, h0⟩ | ⟨g, c, cur, e, _⟩
    · omega
    · simp only [Value.slice.injEq] at e
      exact ⟨g, e.1⟩
  obtain ⟨cb, rfl⟩ : ∃ cb, ca = some ⟨cb, 0, none⟩ := by
    rcases hrc.2 with ⟨_, h0⟩ | ⟨g, c, cur, e, _⟩
    · omega
    · simp only [Value.slice.injEq] at e
      exact ⟨g, e.1⟩
  have HL0 : Hid (ListsAt w4 wr lb lc cb cc N (fun _ => .slice none 0 0) (fun _ => []) (fun _ => 0)) := by
    refine ⟨?_, ?_, fun j _ => ⟨rfl, .inl ⟨rfl, rfl⟩⟩, fun i j _ _ _ k hk => by simp [Value.ownBlock] at hk, fun j _ q hq => by simp at hq, hbr⟩
    · have e : (List.range N).map (fun _ => Value.slice none 0 0) = List.replicate N (.slice none 0 0) := by simp [List.map_const']
      rw [e]; exact hrl
    · have e : (List.range N).map (fun _ => Value.int .i64 0) = (List.replicate N (0 : Int)).map (.int .i64) := by simp [List.map_const']
      rw [e]; exact hrc
  have H04 : Hid (Below w.heap.size w w4) := hB4
  clear hrl hrc hbr
  go_upto_if 93 with fail
  go_step
  go_step
  go_step
  go_step
  go_step
  go_step
  exact net_loop w w2 w4 wr p N M ec oc fc lb lc cb cc _ ea oa fa ES G1 Go F _ _ _ _ _ _ _ _ _ _ _ _ _ _ _ _ _ _ _ _ _ _ _ _ _ _ _ _ _ _ _ _ _ _ _ _ _ _ _ _ _ _ _ _ _ _ _ _ _ _ _ _ _ _ _ _ _ _ _ _ _ _ _ _ _ _ _ _ _ _ _ _ _ _ _ _ _ _ _ _ _ _ _ _ _ _ _ _ _ _ _ _ _ _ _ _ _ _ _ _ _ _ _ _ _ _ _ _ _ _ _ _ _ _ _ _ _ _ _ _ _ _ _ _ _ _ _ _ _ _ _ _ _ _ _ _ _ _ _ _ _ _ _ _ _ _ _ _ _ _ _ _ _ _ _ _ _ _ _ _ _ _ _ _ _ _ _ _ _ _ _ _ _ _ _ _ _ _ _ _ _ _ _ _ _ _ _ _ _ _ _ _ _ _ _ _ _ _ _ _ _ _ _ _ _ _ _ _ _ _ _ _ _ _ _ _ _ _ _ _ _ _ _ _ _ _ _ _ _ _ _ _ _ _ _ _ _ _ _ _ _ _ _ _ _ _ _ _ _ _ _ _ _ _ _ _ _ _ _ _ _ _ _ _ _ _ _ _ _ _ _ _ _ _ _ _ _ _ _ _ _ _ _ _ _ _ _ _ _ _ _ _ _ _ _ _ _ _ _ _ _ _ _ _ _ _ _ _ _ _ _ _ _ _ _ _ _ _ _ _ _ _ _ _ _ _ _ _ _ _ _ _ _ _ _ _ _ _ _ _ _ _ _ _ _ _ _ _ _ hM HL1 HM1 HOK1 HEV s24 HOO HGO HFL HOF HFT HN hN16 hN2 mb H04 HL0
end Go.Proofs.Ytkamdaadgndmbaa
