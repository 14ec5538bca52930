import Derived.Test.YtkamdaadgndmbaaNFl4
namespace Go.Proofs.Ytkamdaadgndmbaa
open Go.ChangeShapes Go.WideShapes Go.ChangeAt Go.RowKit
set_option linter.unusedVariables false

/-- What the bags that are told keep to. -/
structure SmallF (F : List FB) : Prop where
  len : F.length ≤ 16
  bag : ∀ b ∈ F, b.g.length ≤ 64 ∧ ∀ q ∈ b.g, q.1.length ≤ 64
theorem SmallF.lenG {F : List FB} (h : SmallF F) {b : FB} (hb : b ∈ F) : lenG b.g ≤ 4096 := by
  obtain ⟨h1, h2⟩ := h.bag b hb
  have := lenG_le b.g 64 h2
  have := Nat.mul_le_mul_right 64 h1
  omega
theorem SmallF.sum {F : List FB} (h : SmallF F) (k : Nat) : lenF (F.take k) ≤ 65584 := by
  have h1 := lenF_le (F.take k) fun b hb => h.lenG (List.mem_of_mem_take hb)
  have h2 : (F.take k).length ≤ 16 := by rw [List.length_take]; have := h.len; omega
  have h3 := Nat.mul_le_mul_right 4099 h2
  omega
theorem OutsF.apart {w : World} {base : Nat} {ov : Value} {F : List FB} (h : OutsF w base ov F) {b : FB} (hb : b ∈ F) : (b.g.filterMap fun q => q.2.ownBlock).Nodup := by
  obtain ⟨i, hi, rfl⟩ := List.getElem_of_mem hb
  have eF : F = F.take i ++ F[i] :: F.drop (i + 1) := by rw [← List.drop_eq_getElem_cons hi, List.take_append_drop]
  have e0 : bgs F = bgs (F.take i) ++ ((F[i]).v, (F[i]).g) :: bgs (F.drop (i + 1)) := (congrArg bgs eF).trans (by unfold bgs; rw [List.map_append, List.map_cons])
  have := h.bags.apD
  rw [e0, List.flatMap_append, List.flatMap_cons, List.filterMap_append, List.filterMap_append] at this
  exact (List.nodup_append.1 (List.nodup_append.1 this).2.1).1
set_option maxHeartbeats 1000000 in
set_option maxRecDepth 100000 in
theorem markBagS_any (F : List FB) (base : Nat) (a : Option Addr) (n cap : Nat) (w : World) (hn : F.length = n) (h : OutsF w base (.slice a n cap) F) (hsm : SmallF F) :
    Calls Try.prog 20 #[.slice a n cap, .int .i64 1] w fun e w' => e = .returned (.int .i64 (1 + (lenF F : Nat))) ∧ OutsF w' base (.slice a n cap) (markF 1 F) ∧ Below base w w' := by
  have HN : Hid (F.length = n) := hn
  have hD0 : OutsF w base (.slice a n cap) (markF 1 (F.take 0) ++ F.drop 0) := by simpa [markF] using h
  have hn16 : n ≤ 16 := by have := hsm.len; omega
  have HSM : Hid _ := hsm
  clear hn hsm
  go_enter Try.func20, Try.ntmps20
  go_wp2_with fail
  go_loopw [1, 5] (fun sv i wr => ∃ (k : Nat) (q : Int), k ≤ n ∧ i = .int .i64 (k : Int) ∧ sv = .int .i64 q ∧ Hid (q = 1 + (lenF (F.take k) : Nat)) ∧ OutsF wr base (.slice a n cap) (markF 1 (F.take k) ++ F.drop k) ∧ Below base w wr) (fun _ i _ => n - (intOf i).toNat)
  case atStart => exact ⟨0, 1, Nat.zero_le _, rfl, rfl, by unfold Hid; simp [lenF], hD0, Below.refl _ _⟩
  case round =>
  clear hD0
  obtain ⟨k, q, hk, rfl, rfl, hq, hR, hO⟩ := hrel
  by_cases hlt : k < n
  · have hkl : k < F.length := by have := HN.out; omega
    have hq1 := HSM.out.sum k
    have hqe := hq.out
    have q0 : 0 ≤ q := by omega
    have q1 : q ≤ 1000000 := by omega
    have hat := markFTo_at 1 hkl
    have hset := markFTo_set 1 hkl
    have hln : (markF 1 (F.take k) ++ F.drop k).length = n := by rw [List.length_append, markF_length, List.length_take, List.length_drop]; have := HN.out; omega
    obtain ⟨M, hM⟩ : ∃ M, M = markF 1 (F.take k) ++ F.drop k := ⟨_, rfl⟩
    rw [← hM] at hR hat hset hln
    have hkM : k < M.length := by omega
    have hMk : M[k] = F[k] := by rw [List.getElem?_eq_getElem hkM] at hat; exact Option.some.inj hat
    obtain ⟨gb, rfl, hgb, hgl, c0, c1, c2, c3, cf⟩ := hR.at hln hkM
    have hmem : F[k] ∈ F := List.getElem_mem hkl
    have hsb := HSM.out.bag _ hmem
    have hsl := HSM.out.lenG hmem
    have hsucc : lenF (F.take (k + 1)) = lenF (F.take k) + (3 + lenG (F[k]).g) := by rw [List.take_succ_eq_append_getElem hkl, lenF_snoc]
    rw [← hqe] at hset
    have hnum := hR.nums hln hkM q (q + 1) (q + 1 + 1)
    rw [hMk] at c0 c1 c2 c3 hnum
    obtain ⟨⟨p, d, c, v, g⟩, hb⟩ : ∃ b, F[k] = b := ⟨_, rfl⟩
    rw [hb] at c0 c1 c2 c3 hnum hset hsb hsl hsucc
    simp only at c0 c1 c2 c3 hnum hsb hsl hsucc
    have hkS : k < (M.set k ⟨q, q + 1, q + 1 + 1, v, g⟩).length := by rw [List.length_set]; exact hkM
    have hSk : (M.set k ⟨q, q + 1, q + 1 + 1, v, g⟩)[k] = ⟨q, q + 1, q + 1 + 1, v, g⟩ := List.getElem_set_self ..
    have hrowB := hnum.rowB (List.getElem_mem hkS)
    have hapB := hnum.apart (List.getElem_mem hkS)
    rw [hSk] at hrowB hapB
    simp only at hrowB hapB
    obtain ⟨va, vc, rfl⟩ := own_shape hrowB.row
    obtain ⟨gl, hgle⟩ : ∃ gl, g.length = gl := ⟨_, rfl⟩
    rw [hgle] at c3 hrowB
    have hf0 := cf (k * 4)
    have hf1 := cf (k * 4 + 1)
    have hf2 := cf (k * 4 + 2)
    have hw1 : IntKind.i64.wrap (q + 1) = q + 1 := by rw [IntKind.wrap_i64]; omega
    have hw2 : IntKind.i64.wrap (q + 1 + 1) = q + 1 + 1 := by rw [IntKind.wrap_i64]; omega
    have hw3 : IntKind.i64.wrap (q + 1 + 1 + 1) = q + 1 + 1 + 1 := by rw [IntKind.wrap_i64]; omega
    have HQ : Hid _ := hq
    have HSET : Hid _ := hset
    have HSU : Hid _ := hsucc
    have HNUM : Hid _ := hnum
    have HRB : Hid _ := hrowB
    clear hq hqe hset hsucc hnum hrowB hR hat hMk cf
    go_upto_region 10 with fail
    obtain ⟨V, hV⟩ : ∃ V, V = ((wr.setCell ⟨gb, k * 4, none⟩ (.int .i64 q)).setCell ⟨gb, k * 4 + 1, none⟩ (.int .i64 (q + 1))).setCell ⟨gb, k * 4 + 2, none⟩ (.int .i64 (q + 1 + 1)) := ⟨_, rfl⟩
    have hNV : OutsF V base (.slice (some ⟨gb, 0, none⟩) n cap) (M.set k ⟨q, q + 1, q + 1 + 1, .slice va g.length vc, g⟩) := by rw [hV]; exact HNUM.out
    have hRV : RowB V base (.slice va gl vc) g := by rw [hV]; exact HRB.out
    have hOV : Below base w V := by rw [hV]; exact ((hO.setCell (p := ⟨gb, k * 4, none⟩) hgb _).setCell (p := ⟨gb, k * 4 + 1, none⟩) hgb _).setCell (p := ⟨gb, k * 4 + 2, none⟩) hgb _
    rw [← hV]
    clear hV c0 c1 c2 c3 hf0 hf1 hf2 HNUM HRB hO
    have c3 : V.cell? ⟨gb, k * 4 + 3, none⟩ = some (.slice va gl vc) := by
      obtain ⟨g9, e9, _, _, _, _, _, x3, _⟩ := hNV.at (by rw [List.length_set]; exact hln) hkS
      simp only [Option.some.injEq, Addr.mk.injEq, and_true] at e9
      subst e9
      rw [hSk] at x3
      rw [x3]
      simp only [hgle]
    have hmk := markByteSS_any g base va gl vc (q + 1 + 1 + 1) V hgle hRV hapB (by omega) hsb.2 (by omega) (by omega)
    have HLG : Hid (lenG g ≤ 4096) := hsl
    obtain ⟨L, hL⟩ : ∃ L, L = lenG g := ⟨_, rfl⟩
    rw [← hL] at hmk hsl
    have HL : Hid _ := hL
    have HNV : Hid _ := hNV
    have HHL : Hid _ := hgle
    clear hL hNV hRV hgle hapB
    go_wp2_with fail
    refine hmk.mono ?_
    rintro e w2 ⟨rfl, ho2, hg2⟩
    have hO2 : OutsF w2 base (.slice (some ⟨gb, 0, none⟩) n cap) (markF 1 (F.take (k + 1)) ++ F.drop (k + 1)) := by
      have h9 := HNV.out.bag hkS (g' := markGs (q + 1 + 1 + 1) g) (by rw [hSk, markGs_val]) (by rw [hSk]; exact hg2) (by rw [hSk]; simp only; rw [HHL.out]; exact ho2)
      rw [hSk, List.set_set] at h9
      rw [← HSET.out]
      exact h9
    have hB2 : Below base w w2 := ⟨hg2.os.trans hOV.os, hg2.tape.trans hOV.tape, hg2.output.trans hOV.output, Nat.le_trans hOV.size hg2.size, fun j hj => by
      refine (hg2.block j ?_ fun q2 hq2 e => ?_).trans (hOV.block j hj)
      · obtain ⟨cj, hcj⟩ := row_block HNV.out.row (k := gb) rfl
        have := (Array.getElem?_eq_some_iff.1 hcj).1
        omega
      · have hd2 := (HNV.out.rowB (List.getElem_mem hkS)).dat q2 (by rw [hSk]; exact hq2)
        have := (hd2.lt j e).1
        omega⟩
    have hwr : IntKind.i64.wrap (q + 1 + 1 + 1 + (L : Int)) = q + 1 + 1 + 1 + (L : Int) := by rw [IntKind.wrap_i64]; omega
    clear hmk hOV
    go_wp2_with fail
    go_roundw
    case rel => exact ⟨k + 1, q + 1 + 1 + 1 + (L : Int), by omega, by go_num, rfl, by unfold Hid; rw [HSU.out, ← HL.out, HQ.out]; omega, hO2, hB2⟩
    case measure => simp [intOf]; omega
  · obtain rfl : k = n := by omega
    have hkk : ¬ (k : Int) < (k : Int) := by omega
    rw [List.take_of_length_le (by have := HN.out; omega), List.drop_of_length_le (by have := HN.out; omega), List.append_nil] at hR
    have hqe : Hid (q = 1 + (lenF F : Nat)) := by
      have := hq.out
      rw [List.take_of_length_le (by have := HN.out; omega)] at this
      exact this
    clear hq
    go_wp2_with fail
    go_ret
    exact ⟨by have e9 := hqe.out; first | exact e9 | (rw [e9]; done) | simp [e9], hR, hO⟩
set_option maxHeartbeats 1000000 in
set_option maxRecDepth 100000 in
theorem heldBagS_any (F : List FB) (base : Nat) (a : Option Addr) (n cap : Nat) (w : World) (hn : F.length = n) (h : OutsF w base (.slice a n cap) (markF 1 F)) (hsm : SmallF F) :
    Calls Try.prog 21 #[.slice a n cap, .int .i64 1] w fun e w' => e = .returned (.int .i64 (1 + (lenF F : Nat))) ∧ w' = w := by
  have HN : Hid (F.length = n) := hn
  have hn16 : n ≤ 16 := by have := hsm.len; omega
  have HSM : Hid _ := hsm
  have HH : Hid _ := h
  clear hn hsm h
  go_enter Try.func21, Try.ntmps21
  go_wp2_with fail
  go_loopw [1, 5] (fun sv i wr => ∃ (k : Nat) (q : Int), k ≤ n ∧ i = .int .i64 (k : Int) ∧ sv = .int .i64 q ∧ Hid (q = 1 + (lenF (F.take k) : Nat)) ∧ wr = w) (fun _ i _ => n - (intOf i).toNat)
  case atStart => exact ⟨0, 1, Nat.zero_le _, rfl, rfl, by unfold Hid; simp [lenF], rfl⟩
  case round =>
  obtain ⟨k, q, hk, rfl, rfl, hq, rfl⟩ := hrel
  by_cases hlt : k < n
  · have hkl : k < F.length := by have := HN.out; omega
    have hq1 := HSM.out.sum k
    have hqe := hq.out
    have q0 : 0 ≤ q := by omega
    have q1 : q ≤ 1000000 := by omega
    have hlm : (markF 1 F).length = n := by rw [markF_length]; exact HN.out
    have hkM : k < (markF 1 F).length := by omega
    have hat : (markF 1 F)[k]? = some (markFB q F[k]) := by
      have e : F = F.take k ++ F[k] :: F.drop (k + 1) := by rw [← List.drop_eq_getElem_cons hkl, List.take_append_drop]
      have e1 : markF 1 F = markF 1 (F.take k) ++ markF (1 + (lenF (F.take k) : Nat)) (F[k] :: F.drop (k + 1)) := (congrArg (markF 1) e).trans (markF_append _ _ _)
      rw [e1, List.getElem?_append_right (by rw [markF_length, List.length_take]; omega)]
      have e2 : k - (markF 1 (F.take k)).length = 0 := by rw [markF_length, List.length_take]; omega
      rw [e2, ← hqe]
      rfl
    have hMk : (markF 1 F)[k] = markFB q F[k] := by rw [List.getElem?_eq_getElem hkM] at hat; exact Option.some.inj hat
    obtain ⟨gb, rfl, hgb, hgl, c0, c1, c2, c3, cf⟩ := HH.out.at hlm hkM
    have hmem : F[k] ∈ F := List.getElem_mem hkl
    have hsb := HSM.out.bag _ hmem
    have hsl := HSM.out.lenG hmem
    have hrowB := HH.out.rowB (List.getElem_mem hkM)
    have hsucc : lenF (F.take (k + 1)) = lenF (F.take k) + (3 + lenG (F[k]).g) := by rw [List.take_succ_eq_append_getElem hkl, lenF_snoc]
    rw [hMk] at c0 c1 c2 c3 hrowB
    obtain ⟨⟨p, d, c, v, g⟩, hb⟩ : ∃ b, F[k] = b := ⟨_, rfl⟩
    rw [hb] at c0 c1 c2 c3 hrowB hsb hsl hsucc
    simp only [markFB] at c0 c1 c2 c3 hrowB hsb hsl hsucc
    obtain ⟨va, vc, hv⟩ := own_shape hrowB.row
    rw [markGs_length] at hv
    subst hv
    obtain ⟨gl, hgle⟩ : ∃ gl, g.length = gl := ⟨_, rfl⟩
    rw [hgle] at c3 hrowB
    have hw1 : IntKind.i64.wrap (q + 1) = q + 1 := by rw [IntKind.wrap_i64]; omega
    have hw2 : IntKind.i64.wrap (q + 1 + 1) = q + 1 + 1 := by rw [IntKind.wrap_i64]; omega
    have hw3 : IntKind.i64.wrap (q + 1 + 1 + 1) = q + 1 + 1 + 1 := by rw [IntKind.wrap_i64]; omega
    have hhe := heldByteSS_any g base va gl vc (q + 1 + 1 + 1) wr hgle hrowB (by omega) hsb.2 (by omega) (by omega)
    obtain ⟨L, hL⟩ : ∃ L, L = lenG g := ⟨_, rfl⟩
    rw [← hL] at hhe hsl
    have d9 : decide (q + 1 + 1 + 1 + (L : Int) < 0) = false := by rw [decide_eq_false_iff_not]; omega
    have HQ : Hid _ := hq
    have HSU : Hid _ := hsucc
    have HL : Hid _ := hL
    clear hq hqe hsucc hrowB hat hMk cf hL hgle hlm hkM
    go_wp2_with fail
    refine hhe.mono ?_
    rintro e w2 ⟨rfl, rfl⟩
    clear hhe
    go_wp2_with fail
    go_roundw
    case rel => exact ⟨k + 1, q + 1 + 1 + 1 + (L : Int), by omega, by go_num, rfl, by unfold Hid; rw [HSU.out, ← HL.out, HQ.out]; omega, by first | rfl | trivial⟩
    case measure => simp [intOf]; omega
  · obtain rfl : k = n := by omega
    have hkk : ¬ (k : Int) < (k : Int) := by omega
    have hqe : Hid (q = 1 + (lenF F : Nat)) := by
      have := hq.out
      rw [List.take_of_length_le (by have := HN.out; omega)] at this
      exact this
    clear hq
    go_wp2_with fail
    go_ret
    exact ⟨by have e9 := hqe.out; first | exact e9 | (rw [e9]; done) | simp [e9], by first | rfl | trivial⟩
end Go.Proofs.Ytkamdaadgndmbaa
