import Derived.Test.YtkamdaadgndmbaaNLaw6
namespace Go.Proofs.Ytkamdaadgndmbaa
open Go.ChangeShapes Go.WideShapes Go.ChangeAt Go.RowKit
set_option linter.unusedVariables false

def markO (s : Int) (o : NOut) : NOut := ⟨s, markedB (s + 1) o.dat.length⟩
def nextS (s : Int) (o : NOut) : Int := s + 1 + (o.dat.length : Int)
def sAt (s : Int) (G : GotO) (i : Nat) : Int := (G.take i).foldl (fun s p => nextS s p.1) s
theorem sAt_succ (s : Int) (G : GotO) (i : Nat) (h : i < G.length) : sAt s G (i + 1) = nextS (sAt s G i) (G[i]).1 := by
  unfold sAt
  rw [List.take_succ_eq_append_getElem h, List.foldl_append]
  rfl
def markG (s : Int) (G : GotO) (i : Nat) : GotO := (G.take i).mapIdx (fun j p => (markO (sAt s G j) p.1, p.2)) ++ G.drop i
theorem markG_zero (s : Int) (G : GotO) : markG s G 0 = G := by simp [markG]
theorem markG_length (s : Int) (G : GotO) (i : Nat) (h : i ≤ G.length) : (markG s G i).length = G.length := by simp [markG]; omega
theorem markG_at (s : Int) (G : GotO) (i j : Nat) (hi : i ≤ G.length) (hj : j < (markG s G i).length) : (markG s G i)[j] = if j < i then (markO (sAt s G j) (G[j]'(by rw [markG_length s G i hi] at hj; exact hj)).1, (G[j]'(by rw [markG_length s G i hi] at hj; exact hj)).2) else G[j]'(by rw [markG_length s G i hi] at hj; exact hj) := by
  have hj2 := hj
  rw [markG_length s G i hi] at hj2
  by_cases h : j < i
  · rw [if_pos h]
    simp only [markG]
    rw [List.getElem_append_left (by simp; omega)]
    simp
  · rw [if_neg h]
    simp only [markG]
    rw [List.getElem_append_right (by simp; omega)]
    simp only [List.length_mapIdx, List.length_take, List.getElem_drop]
    congr 1
    omega
theorem markG_succ (s : Int) (G : GotO) (i : Nat) (h : i < G.length) : (markG s G i).set i (markO (sAt s G i) (G[i]).1, (G[i]).2) = markG s G (i + 1) := by
  refine List.ext_getElem (by rw [List.length_set, markG_length s G i (by omega), markG_length s G (i + 1) (by omega)]) fun j h1 h2 => ?_
  rw [List.length_set] at h1
  by_cases hij : i = j
  · subst hij
    rw [List.getElem_set_self, markG_at s G (i + 1) i (by omega) h2, if_pos (by omega)]
  · rw [List.getElem_set_ne hij, markG_at s G i j (by omega) h1, markG_at s G (i + 1) j (by omega) h2]
    by_cases hj : j < i
    · rw [if_pos hj, if_pos (by omega)]
    · rw [if_neg hj, if_neg (by omega)]

/-- Answers that are not too long. -/
def Small (G : GotO) : Prop := ∀ p ∈ G, p.1.dat.length ≤ 4096
theorem sAt_bounds (G : GotO) (hG : Small G) (i : Nat) (hi : i ≤ G.length) : 1 ≤ sAt 1 G i ∧ sAt 1 G i ≤ 1 + 4098 * (i : Int) := by
  induction i with
  | zero => simp [sAt]
  | succ i ih =>
    have := ih (by omega)
    rw [sAt_succ 1 G i (by omega), nextS]
    have := hG _ (List.getElem_mem (show i < G.length by omega))
    omega

set_option maxHeartbeats 2000000 in
set_option maxRecDepth 100000 in
theorem markNetOutS_any (G : GotO) (base : Nat) (a : Option Addr) (n cap : Nat) (w : World) (hn : G.length = n) (h : OutsN w base (.slice a n cap) G) (hsm : Small G) (hl : n ≤ 4000) :
    Calls Try.prog 16 #[.slice a n cap, .int .i64 1] w fun e w' => e = .returned (.int .i64 (sAt 1 G n)) ∧ OutsN w' base (.slice a n cap) (markG 1 G n) ∧ Below base w w' := by
  have HN : Hid (G.length = n) := hn
  have HST : Hid (OutsN w base (.slice a n cap) (markG 1 G 0)) := by unfold Hid; rw [markG_zero]; exact h
  clear hn h
  go_enter Try.func16, Try.ntmps16
  go_wp2_with fail
  go_loopw [1, 5] (fun m i wr => ∃ k : Nat, k ≤ n ∧ i = .int .i64 (k : Int) ∧ m = .int .i64 (sAt 1 G k) ∧ Hid (OutsN wr base (.slice a n cap) (markG 1 G k)) ∧ Hid (Below base w wr)) (fun _ i _ => n - (intOf i).toNat)
  case atStart => exact ⟨0, Nat.zero_le _, rfl, rfl, HST, Below.refl _ _⟩
  case round =>
  clear HST
  obtain ⟨k, hk, rfl, rfl, HO, HB⟩ := hrel
  by_cases hlt : k < n
  · have hkG : k < G.length := by have := HN.out; omega
    obtain ⟨⟨o, dv⟩, hp⟩ : ∃ p, G[k]? = some p := ⟨_, List.getElem?_eq_getElem hkG⟩
    obtain ⟨_, hpe⟩ := List.getElem?_eq_some_iff.1 hp
    have hmz := markG_length 1 G k (by omega)
    have hpm : (markG 1 G k)[k]? = some (o, dv) := by rw [List.getElem?_eq_getElem (by omega), markG_at 1 G k k (by omega) (by omega), if_neg (by omega), hpe]
    have hbd := sAt_bounds G hsm k (by omega)
    have hsc := sAt_succ 1 G k hkG
    rw [hpe] at hsc
    have hs := hsm _ (List.mem_of_getElem? hp)
    simp only at hs hsc
    have hmk := markG_succ 1 G k hkG
    rw [hpe] at hmk
    obtain ⟨s, hse⟩ : ∃ s, Hid (s = sAt 1 G k) := ⟨_, rfl⟩
    rw [← hse.out] at hbd hsc hmk ⊢
    obtain ⟨M, hM⟩ : ∃ M, Hid (M = markG 1 G k) := ⟨_, rfl⟩
    have hO := HO.out
    rw [← hM.out] at hO hpm hmk hmz
    have HEN : Hid (M.length = n) := by unfold Hid; have := HN.out; omega
    obtain ⟨g, rfl, hbg, hlg, q0, q1, hfz⟩ := hO.at1 HEN.out hpm
    obtain ⟨dl, hdl⟩ : ∃ dl, Hid (dl = o.dat.length) := ⟨_, rfl⟩
    rw [← hdl.out] at hs
    have HMK : Hid _ := hmk
    have HSC : Hid _ := hsc
    have hO1 := hO.cd1 HEN.out hpm s
    have hp1 := get_set_self (p := ({ o with code := s }, dv)) hpm
    have hO2 := hO1
    have hp2 := hp1
    have hdat := hO2.dat _ (List.mem_of_getElem? hp2)
    simp only at hdat
    rw [← hdl.out] at hdat
    have hB2 : Below base w (wr.setCell ⟨g, k * 2, none⟩ (.int .i64 s)) := HB.out.setCell (p := ⟨g, k * 2, none⟩) hbg _
    have hz2 : (wr.setCell ⟨g, k * 2, none⟩ (.int .i64 s)).heap.size = wr.heap.size := by simp
    obtain ⟨da, dc, hdv⟩ := own_shape hdat
    subst hdv
    have hcl := markByteS_any (.slice da dl dc) o.dat (s + 1) _ base dl hdl.out.symm hdat (by omega) (by omega) (by omega)
    have f0 := hfz (k * 2)
    have HO2 : Hid _ := hO2
    have HB2 : Hid _ := hB2
    have HP2 : Hid _ := hp2
    have HZ2 : Hid _ := hz2
    clear hpe hmz hkG hp hmk hsc hO1 hO2 hO hp1 hp2 hpm hB2 hz2 hdat hfz HO HB
    go_wp2_with fail
    refine hcl.mono ?_
    rintro e w2 ⟨rfl, ho2, hg2⟩
    have hO3 := HO2.out.bytes1 HP2.out (markedB (s + 1) dl) (by rw [markedB_length]; exact hdl.out) hg2 (by simp only; rw [← hdl.out]; exact ho2)
    rw [List.set_set] at hO3
    have hB3 : Below base w w2 := HB2.out.grown hg2 (by rw [HZ2.out]; omega) (fun j hj => (ho2.lt j hj).1)
    have hfin : OutsN w2 base (.slice (some ⟨g, 0, none⟩) n cap) (markG 1 G (k + 1)) := by
      rw [← HMK.out]
      unfold markO
      rw [← hdl.out]
      exact hO3
    have hnx : sAt 1 G (k + 1) = s + 1 + (dl : Int) := by rw [HSC.out]; unfold nextS; rw [← hdl.out]
    have HNX : Hid _ := hnx
    have HF : Hid _ := hfin
    clear hcl ho2 hg2 hO3 hfin hnx HO2 HP2 HB2 f0 q0 q1
    go_wp2_with fail
    go_roundw
    case rel => exact ⟨k + 1, by omega, by go_num, by rw [HNX.out], HF, hB3⟩
    case measure => simp [intOf]; omega
  · obtain rfl : k = n := by omega
    have hkk : ¬ (k : Int) < (k : Int) := by omega
    go_wp2_with fail
    go_ret
    exact ⟨rfl, HO.out, HB.out⟩

set_option maxHeartbeats 2000000 in
set_option maxRecDepth 100000 in
theorem heldNetOutS_any (G : GotO) (base : Nat) (a : Option Addr) (n cap : Nat) (w : World) (hn : G.length = n) (h : OutsN w base (.slice a n cap) (markG 1 G n)) (hsm : Small G) (hl : n ≤ 4000) :
    Calls Try.prog 17 #[.slice a n cap, .int .i64 1] w fun e w' => e = .returned (.int .i64 (sAt 1 G n)) ∧ w' = w := by
  have HN : Hid (G.length = n) := hn
  have H : Hid _ := h
  clear hn h
  go_enter Try.func17, Try.ntmps17
  go_wp2_with fail
  go_loop [1, 5] (fun m i => ∃ k : Nat, k ≤ n ∧ i = .int .i64 (k : Int) ∧ m = .int .i64 (sAt 1 G k)) (fun _ i => n - (intOf i).toNat)
  case atStart => exact ⟨0, Nat.zero_le _, rfl, rfl⟩
  case round =>
  obtain ⟨k, hk, rfl, rfl⟩ := hrel
  by_cases hlt : k < n
  · have hkG : k < G.length := by have := HN.out; omega
    obtain ⟨⟨o, dv⟩, hp⟩ : ∃ p, G[k]? = some p := ⟨_, List.getElem?_eq_getElem hkG⟩
    obtain ⟨_, hpe⟩ := List.getElem?_eq_some_iff.1 hp
    have hmz := markG_length 1 G n (by have := HN.out; omega)
    have hpm : (markG 1 G n)[k]? = some (markO (sAt 1 G k) o, dv) := by rw [List.getElem?_eq_getElem (by omega), markG_at 1 G n k (by have := HN.out; omega) (by omega), if_pos hlt, hpe]
    have hbd := sAt_bounds G hsm k (by omega)
    have hsc := sAt_succ 1 G k hkG
    rw [hpe] at hsc
    have hs := hsm _ (List.mem_of_getElem? hp)
    simp only at hs hsc
    obtain ⟨s, hse⟩ : ∃ s, Hid (s = sAt 1 G k) := ⟨_, rfl⟩
    rw [← hse.out] at hbd hsc hpm ⊢
    obtain ⟨g, rfl, hbg, hlg, q0, q1, hfz⟩ := H.out.at1 (by rw [hmz]; exact HN.out) hpm
    obtain ⟨dl, hdl⟩ : ∃ dl, Hid (dl = o.dat.length) := ⟨_, rfl⟩
    have hdat := H.out.dat _ (List.mem_of_getElem? hpm)
    simp only [markO, markedB_length] at hdat q0
    rw [← hdl.out] at hs hdat
    obtain ⟨da, dc, rfl⟩ := own_shape hdat
    have hnx : sAt 1 G (k + 1) = s + 1 + (dl : Int) := by rw [hsc]; unfold nextS; rw [← hdl.out]
    have HNX : Hid _ := hnx
    have hcl := heldByteS_any da dl dc (s + 1) w (Ints.ofRow hdat) (by omega) (by omega) (by omega)
    have d5 : decide (s + 1 + (dl : Int) < 0) = false := by rw [decide_eq_false_iff_not]; omega
    clear hpe hmz hkG hp hsc hfz hdat hnx hpm
    go_wp2_with fail
    refine hcl.mono ?_
    rintro e w2 ⟨rfl, rfl⟩
    go_wp2_with fail
    go_round
    case rel => exact ⟨k + 1, by omega, by go_num, by rw [HNX.out]⟩
    case measure => simp [intOf]; omega
  · obtain rfl : k = n := by omega
    have hkk : ¬ (k : Int) < (k : Int) := by omega
    go_wp2_with fail
    go_ret
    exact ⟨rfl, rfl⟩
end Go.Proofs.Ytkamdaadgndmbaa
