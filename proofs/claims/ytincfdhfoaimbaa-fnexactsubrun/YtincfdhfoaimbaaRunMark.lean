import Derived.Test.YtincfdhfoaimbaaRunRows
namespace Go.Proofs.Ytincfdhfoaimbaa
open Go.ChangeShapes Go.WideShapes Go.ChangeAt Go.RowKit
set_option linter.unusedVariables false

theorem get_set_self {α : Type} {G : List α} {i : Nat} {p q : α} (h : G[i]? = some q) : (G.set i p)[i]? = some p := by
  obtain ⟨hi, _⟩ := List.getElem?_eq_some_iff.1 h
  simp [hi]

set_option maxHeartbeats 2000000 in
set_option maxRecDepth 100000 in
theorem markSubOutS_any (G : Got) (base : Nat) (a : Option Addr) (n cap : Nat) (w : World) (hn : G.length = n) (h : Outs w base nilV (.slice a n cap) G) (hsm : Small G) (hl : n ≤ 4000) :
    Calls Try.prog 31 #[.slice a n cap, .int .i64 1] w fun e w' => e = .returned (.int .i64 (sAt 1 G n)) ∧ Outs w' base nilV (.slice a n cap) (markG 1 G n) ∧ Below base w w' := by
  have HN : Hid (G.length = n) := hn
  have hstart : Outs w base nilV (.slice a n cap) (markG 1 G 0) := by rw [markG_zero]; exact h
  clear hn h
  go_enter Try.func31, Try.ntmps31
  go_wp2
  go_loopw [1, 5] (fun m i wr => ∃ k : Nat, k ≤ n ∧ i = .int .i64 k ∧ m = .int .i64 (sAt 1 G k) ∧ Outs wr base nilV (.slice a n cap) (markG 1 G k) ∧ Below base w wr) (fun _ i _ => n - (intOf i).toNat)
  case atStart => exact ⟨0, Nat.zero_le _, rfl, rfl, hstart, Below.refl _ _⟩
  case round =>
    clear hstart
    obtain ⟨k, hk, rfl, rfl, hO, hB⟩ := hrel
    by_cases hlt : k < n
    · have hkG : k < G.length := by have := HN.out; omega
      obtain ⟨⟨o, fv, av⟩, hp⟩ : ∃ p, G[k]? = some p := ⟨_, List.getElem?_eq_getElem hkG⟩
      obtain ⟨_, hpe⟩ := List.getElem?_eq_some_iff.1 hp
      have hmz := markG_length 1 G k (by omega)
      have hpm : (markG 1 G k)[k]? = some (o, fv, av) := by rw [List.getElem?_eq_getElem (by omega), markG_at 1 G k k (by omega) (by omega), if_neg (by omega), hpe]
      have hbd := sAt_bounds G hsm k (by omega)
      have hsc := sAt_succ 1 G k hkG
      rw [hpe] at hsc
      have hs := hsm _ (List.mem_of_getElem? hp)
      simp only at hs hsc
      have hmk := markG_succ 1 G k hkG
      rw [hpe] at hmk
      obtain ⟨s, hse⟩ : ∃ s, Hid (s = sAt 1 G k) := ⟨_, rfl⟩
      rw [← hse.out] at hbd hsc hmk ⊢
      obtain ⟨M, hM⟩ : ∃ M, Hid (M = markG 1 G k) := ⟨_, rfl⟩
      rw [← hM.out] at hO hpm hmk hmz
      obtain ⟨g, cc, e1, hbg, hlg, q0, q1, q2, q3, q4, hfz⟩ := at5 hO.row rfl hpm
      simp only [Value.slice.injEq] at e1
      obtain ⟨rfl, en, rfl⟩ := e1
      have HEN : Hid (M.length = n) := en.symm
      obtain ⟨nf, hnf⟩ : ∃ nf, Hid (nf = o.frames.length) := ⟨_, rfl⟩
      obtain ⟨na, hna⟩ : ∃ na, Hid (na = o.acked.length) := ⟨_, rfl⟩
      rw [← hnf.out, ← hna.out] at hs
      have HMK : Hid _ := hmk
      have HSC : Hid _ := hsc
      have hO1 := hO.code1 HEN.out hpm s
      have hp1 := get_set_self (p := ({ o with code := s }, fv, av)) hpm
      have hfr1 := hO1.fr _ (List.mem_of_getElem? hp1)
      have hB1 : Below base w (wr.setCell ⟨g, k * 5, none⟩ (.int .i64 s)) := hB.setCell (p := ⟨g, k * 5, none⟩) hbg _
      have hz1 : (wr.setCell ⟨g, k * 5, none⟩ (.int .i64 s)).heap.size = wr.heap.size := by simp
      simp only at hfr1
      rw [← hnf.out] at hfr1
      have hcl := markSubFrameS_from fv o.frames (s + 1) nf _ base hnf.out.symm hfr1 (by omega) (by omega) (by omega)
      have f0 := hfz (k * 5)
      clear hpe hmz en hkG hp hmk hsc
      have HB1 : Hid _ := hB1
      have HZ1 : Hid _ := hz1
      clear hB1 hz1
      go_wp2_with fail
      refine hcl.mono ?_
      rintro e w2 ⟨rfl, ho2, hg2⟩
      have hO2 := hO1.frames1 hp1 (marked3 (s + 1) nf) (by rw [marked3_length]; exact hnf.out) hg2 (by simp only; rw [← hnf.out]; exact ho2)
      have hp2 := get_set_self (p := ({ ({ o with code := s } : Ot) with frames := marked3 (s + 1) nf }, fv, av)) hp1
      rw [List.set_set] at hO2 hp2
      have hB2 : Below base w w2 := HB1.out.grown hg2 (by rw [HZ1.out]; omega) (fun j hj => (hfr1.lt j hj).1)
      obtain ⟨g2, c2, e2, _, hlg2, t0, t1, t2, t3, t4, _⟩ := at5 hO2.row rfl hp2
      simp only [Value.slice.injEq, Option.some.injEq, Addr.mk.injEq, and_true] at e2
      obtain ⟨rfl, en2, rfl⟩ := e2
      have hak2 := hO2.ak _ (List.mem_of_getElem? hp2)
      simp only at hak2
      rw [← hna.out] at hak2
      have hcl2 := markInt64S_from av o.acked (s + 1 + 3 * (nf : Int)) w2 base na hna.out.symm hak2 (by omega) (by omega) (by omega)
      clear en2 hcl hO1 hfr1 hg2 ho2 q0 q1 q2 q3 q4 f0 hfz hO hB
      go_wp2_with fail
      refine hcl2.mono ?_
      rintro e w3 ⟨rfl, ho3, hg3⟩
      have hO3 := hO2.acked1 hp2 (markedW (s + 1 + 3 * (nf : Int)) na) (by rw [markedW_length]; exact hna.out) hg3 (by simp only; rw [← hna.out]; exact ho3)
      have hp3 := get_set_self (p := ({ ({ ({ o with code := s } : Ot) with frames := marked3 (s + 1) nf } : Ot) with acked := markedW (s + 1 + 3 * (nf : Int)) na }, fv, av)) hp2
      rw [List.set_set] at hO3 hp3
      have hB3 : Below base w w3 := hB2.grown hg3 (by omega) (fun j hj => (hak2.lt j hj).1)
      obtain ⟨g3, c3, e3, _, hlg3, y0, y1, y2, y3, y4, hfz3⟩ := at5 hO3.row rfl hp3
      simp only [Value.slice.injEq, Option.some.injEq, Addr.mk.injEq, and_true] at e3
      obtain ⟨rfl, en3, rfl⟩ := e3
      have hl3 : (M.set k ({ code := s, frames := marked3 (s + 1) nf, acked := markedW (s + 1 + 3 * (nf : Int)) na, died := o.died, revived := o.revived }, fv, av)).length = n := by rw [List.length_set]; exact HEN.out
      have hO4 := hO3.died1 hl3 hp3 (s + 1 + 3 * (nf : Int) + (na : Int))
      have hp4 := get_set_self (p := (({ code := s, frames := marked3 (s + 1) nf, acked := markedW (s + 1 + 3 * (nf : Int)) na, died := s + 1 + 3 * (nf : Int) + (na : Int), revived := o.revived } : Ot), fv, av)) hp3
      rw [List.set_set] at hO4 hp4
      have hO5 := hO4.revd1 (by rw [List.length_set]; exact HEN.out) hp4 (s + 1 + 3 * (nf : Int) + (na : Int) + 1)
      rw [List.set_set] at hO5
      have hB5 : Below base w ((w3.setCell ⟨g, k * 5 + 3, none⟩ (.int .i64 (s + 1 + 3 * (nf : Int) + (na : Int)))).setCell ⟨g, k * 5 + 4, none⟩ (.int .i64 (s + 1 + 3 * (nf : Int) + (na : Int) + 1))) := (hB3.setCell (p := ⟨g, k * 5 + 3, none⟩) hbg _).setCell (p := ⟨g, k * 5 + 4, none⟩) hbg _
      have f3 := hfz3 (k * 5 + 3)
      have f4 := hfz3 (k * 5 + 4)
      have hfin : Outs ((w3.setCell ⟨g, k * 5 + 3, none⟩ (.int .i64 (s + 1 + 3 * (nf : Int) + (na : Int)))).setCell ⟨g, k * 5 + 4, none⟩ (.int .i64 (s + 1 + 3 * (nf : Int) + (na : Int) + 1))) base nilV (.slice (some ⟨g, 0, none⟩) n cap) (markG 1 G (k + 1)) := by
        rw [← HMK.out]
        unfold markO
        rw [← hnf.out, ← hna.out]
        exact hO5
      have hnx : sAt 1 G (k + 1) = s + 1 + 3 * (nf : Int) + (na : Int) + 1 + 1 := by rw [HSC.out]; unfold nextS; rw [← hnf.out, ← hna.out]
      have HNX : Hid _ := hnx
      clear en3 hcl2 hO2 hak2 hg3 ho3 t0 t1 t2 t3 t4 hO3 hO4 hO5 hB2 hB3 hp1 hp2 hp3 hp4 hl3 hfz3 hnx
      go_wp2
      go_roundw
      case rel => exact ⟨k + 1, by omega, by go_num, by rw [HNX.out], hfin, hB5⟩
      case measure => simp [intOf]; omega
    · obtain rfl : k = n := by omega
      go_wp2
      go_ret
      exact ⟨rfl, hO, hB⟩

set_option maxHeartbeats 2000000 in
set_option maxRecDepth 100000 in
theorem heldSubOutS_any (G : Got) (base : Nat) (a : Option Addr) (n cap : Nat) (w : World) (hn : G.length = n) (h : Outs w base nilV (.slice a n cap) (markG 1 G n)) (hsm : Small G) (hl : n ≤ 4000) :
    Calls Try.prog 32 #[.slice a n cap, .int .i64 1] w fun e w' => e = .returned (.int .i64 (sAt 1 G n)) ∧ w' = w := by
  have HN : Hid (G.length = n) := hn
  clear hn
  go_enter Try.func32, Try.ntmps32
  go_wp2
  go_loop [1, 5] (fun m i => ∃ k : Nat, k ≤ n ∧ i = .int .i64 k ∧ m = .int .i64 (sAt 1 G k)) (fun _ i => n - (intOf i).toNat)
  case atStart => exact ⟨0, Nat.zero_le _, rfl, rfl⟩
  case round =>
    obtain ⟨k, hk, rfl, rfl⟩ := hrel
    by_cases hlt : k < n
    · have hkG : k < G.length := by have := HN.out; omega
      obtain ⟨⟨o, fv, av⟩, hp⟩ : ∃ p, G[k]? = some p := ⟨_, List.getElem?_eq_getElem hkG⟩
      obtain ⟨_, hpe⟩ := List.getElem?_eq_some_iff.1 hp
      have hmz := markG_length 1 G n (by have := HN.out; omega)
      have hpm : (markG 1 G n)[k]? = some (markO (sAt 1 G k) o, fv, av) := by rw [List.getElem?_eq_getElem (by omega), markG_at 1 G n k (by have := HN.out; omega) (by omega), if_pos hlt, hpe]
      have hbd := sAt_bounds G hsm k (by omega)
      have hsc := sAt_succ 1 G k hkG
      rw [hpe] at hsc
      have hs := hsm _ (List.mem_of_getElem? hp)
      simp only at hs hsc
      obtain ⟨s, hse⟩ : ∃ s, Hid (s = sAt 1 G k) := ⟨_, rfl⟩
      rw [← hse.out] at hbd hsc hpm ⊢
      obtain ⟨g, cc, e1, hbg, hlg, q0, q1, q2, q3, q4, hfz⟩ := at5 h.row rfl hpm
      simp only [Value.slice.injEq] at e1
      obtain ⟨rfl, en, rfl⟩ := e1
      obtain ⟨nf, hnf⟩ : ∃ nf, Hid (nf = o.frames.length) := ⟨_, rfl⟩
      obtain ⟨na, hna⟩ : ∃ na, Hid (na = o.acked.length) := ⟨_, rfl⟩
      have hfr := h.fr _ (List.mem_of_getElem? hpm)
      have hak := h.ak _ (List.mem_of_getElem? hpm)
      simp only [markO, marked3_length, markedW_length] at hfr hak q0 q3 q4
      rw [← hnf.out, ← hna.out] at hs hak q3 q4
      rw [← hnf.out] at hfr
      obtain ⟨fa, fc, rfl⟩ := own_shape hfr
      obtain ⟨aa, ac, rfl⟩ := own_shape hak
      have hnx : sAt 1 G (k + 1) = s + 1 + 3 * (nf : Int) + (na : Int) + 1 + 1 := by rw [hsc]; unfold nextS; rw [← hnf.out, ← hna.out]
      have HNX : Hid _ := hnx
      have hcl := heldSubFrameS_from fa (s + 1) nf fc w (Lie3.ofRow (marked3_length _ _) hfr) (by omega) (by omega) (by omega)
      have hcl2 := heldInt64S_from aa (s + 1 + 3 * (nf : Int)) na ac w (Ints.ofRow hak) (by omega) (by omega) (by omega)
      clear hpe hmz en hkG hp hsc hfz hfr hak hnx hpm h
      go_wp2_with fail
      refine hcl.mono ?_
      rintro e w2 ⟨rfl, rfl⟩
      go_wp2_with fail
      refine hcl2.mono ?_
      rintro e w3 ⟨rfl, rfl⟩
      go_wp2
      go_round
      case rel => exact ⟨k + 1, by omega, by go_num, by rw [HNX.out]⟩
      case measure => simp [intOf]; omega
    · obtain rfl : k = n := by omega
      go_wp2
      go_ret
      exact ⟨rfl, rfl⟩

theorem step_small {c : Cf} (hc : c.Ok) {s : St} {k : Nat} (hg : Good c s k) (hk : k ≤ 4000) (e : Int × Int × Int) : (stepF c s e).1.frames.length ≤ 5000 ∧ (stepF c s e).1.acked.length ≤ 5000 := by
  have ha := hg.all
  unfold stepF sendF hearF tickF
  have h2 : ∀ d, (againF c d s.tags).length ≤ 5000 := fun d => by rw [againF_length]; omega
  have h3 : ∀ d j, (againF c d (s.tags.drop j)).length ≤ 5000 := fun d j => by rw [againF_length, List.length_drop]; omega
  have h4 : ∀ j, (s.tags.take j).length ≤ 5000 := fun j => by rw [List.length_take]; omega
  repeat' split
  all_goals first | exact ⟨h2 _, by simp⟩ | exact ⟨h3 _ _, h4 _⟩ | exact ⟨by simp, h4 _⟩ | exact ⟨by simp, by simp⟩
theorem outs_small {c : Cf} (hc : c.Ok) (es : Triples) (hl : es.length ≤ 4000) : ∀ k, k ≤ es.length → ∀ o ∈ outsF c (startF c) (es.take k), o.frames.length ≤ 5000 ∧ o.acked.length ≤ 5000 := by
  intro k
  induction k with
  | zero => intro _ o ho; simp [outsF] at ho
  | succ k ih =>
    intro hk o ho
    rw [outsF_take c es k (by omega)] at ho
    rcases List.mem_append.1 ho with h | h
    · exact ih (by omega) o h
    · simp only [List.mem_singleton] at h
      subst h
      refine step_small hc (good_at hc (es.take k)) ?_ _
      rw [List.length_take]; omega
theorem small_of {c : Cf} (hc : c.Ok) {es : Triples} (hl : es.length ≤ 4000) {G : Got} (hG : G.map (·.1) = outsF c (startF c) es) : Small G := by
  intro p hp
  have := outs_small hc es hl es.length (Nat.le_refl _) p.1
  rw [List.take_length, ← hG] at this
  exact this (List.mem_map.2 ⟨p, hp, rfl⟩)

/-- What both SubRuns give, all cases in one. -/
def RunsI (c : Cf) (es : Triples) (code : Int) (os : List Ot) : Prop := ∀ (a : Option Addr) (cap : Nat) (w : World), Lie3 .i64 .i64 .u32 w a es →
  Calls Try.prog 18 #[cfV c, .slice a es.length cap] w fun e w' => ∃ av cp G, e = .returned (.tuple #[.slice av os.length cp, .int .i64 code]) ∧ Outs w' w.heap.size nilV (.slice av os.length cp) G ∧ G.map (·.1) = os ∧ Small G ∧ Below w.heap.size w w'
def RunsS (c : Cf) (es : Triples) (code : Int) (os : List Ot) : Prop := ∀ (a : Option Addr) (cap : Nat) (w : World), Lie3 .i64 .i64 .u32 w a es →
  Calls Try.prog 17 #[cfV c, .slice a es.length cap] w fun e w' => ∃ av cp G, e = .returned (.tuple #[.slice av os.length cp, .int .i64 code]) ∧ OutsS w' w.heap.size nilV (.slice av os.length cp) G ∧ G.map (·.1) = os ∧ Below w.heap.size w w'
theorem bothRun (c : Cf) (es : Triples) (hi : 0 ≤ c.isn ∧ c.isn ≤ 4294967295) (hx : ∀ e ∈ es, 0 ≤ e.2.2 ∧ e.2.2 ≤ 4294967295) : ∃ code os, os.length ≤ 4000 ∧ RunsI c es code os ∧ RunsS c es code os := by
  by_cases hc : c.Ok
  · by_cases hl : es.length ≤ 4000
    · have hlen := outsF_length c es (startF c)
      refine ⟨0, outsF c (startF c) es, by omega, fun a cap w hz => ?_, fun a cap w hz => ?_⟩
      · refine (implRun_ok c hc hi a es _ cap w rfl hl hx hz).mono ?_
        rintro e w' ⟨av, cp, G, rfl, hO, hG, hb⟩
        rw [hlen]
        exact ⟨av, cp, G, rfl, hO, hG, small_of hc hl hG, hb⟩
      · refine (specRun_ok c hc hi a es _ cap w rfl hl hx hz).mono ?_
        rintro e w' ⟨av, cp, G, rfl, hO, hG, hb⟩
        rw [hlen]
        exact ⟨av, cp, G, rfl, hO, hG, hb⟩
    · refine ⟨5, [], by simp, fun a cap w hz => ?_, fun a cap w hz => ?_⟩
      · refine (implRun_limit c hc hi a _ cap w (by omega)).mono ?_
        rintro e w' ⟨rfl, hb⟩
        exact ⟨none, 0, [], rfl, Outs.start (World.ownsRow_nil _ _ _ _), rfl, (fun p hp => by cases hp), hb⟩
      · refine (specRun_limit c hc hi a _ cap w (by omega)).mono ?_
        rintro e w' ⟨rfl, hb⟩
        exact ⟨none, 0, [], rfl, OutsS.start (World.ownsRow_nil _ _ _ _), rfl, hb⟩
  · refine ⟨17, [], by simp, fun a cap w hz => ?_, fun a cap w hz => ?_⟩
    · refine (implRun_bad c hc a _ cap w).mono ?_
      rintro e w' ⟨rfl, hb⟩
      exact ⟨none, 0, [], rfl, Outs.start (World.ownsRow_nil _ _ _ _), rfl, (fun p hp => by cases hp), hb⟩
    · refine (specRun_bad c hc a _ cap w).mono ?_
      rintro e w' ⟨rfl, hb⟩
      exact ⟨none, 0, [], rfl, OutsS.start (World.ownsRow_nil _ _ _ _), rfl, hb⟩
end Go.Proofs.Ytincfdhfoaimbaa
