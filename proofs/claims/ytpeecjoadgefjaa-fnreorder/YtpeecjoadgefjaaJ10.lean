import Derived.Test.YtpeecjoadgefjaaRLaw5
namespace Go.Proofs.Ytpeecjoadgefjaa
open Go.ChangeShapes Go.WideShapes Go.ChangeAt Go.RowKit
set_option linter.unusedVariables false

theorem get_set_self {α : Type} {G : List α} {i : Nat} {p q : α} (h : G[i]? = some q) : (G.set i p)[i]? = some p := by
  obtain ⟨hi, _⟩ := List.getElem?_eq_some_iff.1 h
  rw [List.getElem?_set_self hi]
section
variable {w w' : World} {base g cap n i : Nat}
theorem EvsR.kd1 {G : Evs} {e : REv} {d : Option Addr × Nat} (h : EvsR w base (.slice (some ⟨g, 0, none⟩) n cap) G) (hn : G.length = n) (hp : G[i]? = some (e, d)) (x : Int) : EvsR (w.setCell ⟨g, i * 4, none⟩ (.int .i64 x)) base (.slice (some ⟨g, 0, none⟩) n cap) (G.set i ({ e with kd := x }, d)) := by
  obtain ⟨hi, he⟩ := List.getElem?_eq_some_iff.1 hp
  have h1 := h.store hn i hi (i * 4) (.int .i64 x) { (G[i]).1 with kd := x } rfl (flatE_kd G i hi x)
  rw [he] at h1
  exact h1
theorem EvsR.off1 {G : Evs} {e : REv} {d : Option Addr × Nat} (h : EvsR w base (.slice (some ⟨g, 0, none⟩) n cap) G) (hn : G.length = n) (hp : G[i]? = some (e, d)) (x : Int) : EvsR (w.setCell ⟨g, i * 4 + 1, none⟩ (.int .u64 x)) base (.slice (some ⟨g, 0, none⟩) n cap) (G.set i ({ e with off := x }, d)) := by
  obtain ⟨hi, he⟩ := List.getElem?_eq_some_iff.1 hp
  have h1 := h.store hn i hi (i * 4 + 1) (.int .u64 x) { (G[i]).1 with off := x } rfl (flatE_off G i hi x)
  rw [he] at h1
  exact h1
theorem EvsR.n1 {G : Evs} {e : REv} {d : Option Addr × Nat} (h : EvsR w base (.slice (some ⟨g, 0, none⟩) n cap) G) (hn : G.length = n) (hp : G[i]? = some (e, d)) (x : Int) : EvsR (w.setCell ⟨g, i * 4 + 3, none⟩ (.int .i64 x)) base (.slice (some ⟨g, 0, none⟩) n cap) (G.set i ({ e with n := x }, d)) := by
  obtain ⟨hi, he⟩ := List.getElem?_eq_some_iff.1 hp
  have h1 := h.store hn i hi (i * 4 + 3) (.int .i64 x) { (G[i]).1 with n := x } rfl (flatE_n G i hi x)
  rw [he] at h1
  exact h1
theorem OutsR.cd1 {G : GotO} {e : ROut} {d : Value} (h : OutsR w base (.slice (some ⟨g, 0, none⟩) n cap) G) (hn : G.length = n) (hp : G[i]? = some (e, d)) (x : Int) : OutsR (w.setCell ⟨g, i * 3, none⟩ (.int .i64 x)) base (.slice (some ⟨g, 0, none⟩) n cap) (G.set i ({ e with code := x }, d)) := by
  obtain ⟨hi, he⟩ := List.getElem?_eq_some_iff.1 hp
  have h1 := h.store hn i hi (i * 3) (.int .i64 x) { (G[i]).1 with code := x } rfl (flatO_cd G i hi x)
  rw [he] at h1
  exact h1
theorem OutsR.n1 {G : GotO} {e : ROut} {d : Value} (h : OutsR w base (.slice (some ⟨g, 0, none⟩) n cap) G) (hn : G.length = n) (hp : G[i]? = some (e, d)) (x : Int) : OutsR (w.setCell ⟨g, i * 3 + 1, none⟩ (.int .i64 x)) base (.slice (some ⟨g, 0, none⟩) n cap) (G.set i ({ e with n := x }, d)) := by
  obtain ⟨hi, he⟩ := List.getElem?_eq_some_iff.1 hp
  have h1 := h.store hn i hi (i * 3 + 1) (.int .i64 x) { (G[i]).1 with n := x } rfl (flatO_n G i hi x)
  rw [he] at h1
  exact h1
theorem EvsR.bytes1 {ov : Value} {G : Evs} {e : REv} {d : Option Addr × Nat} (h : EvsR w base ov G) (hp : G[i]? = some (e, d)) (F : List Int) (hF : F.length = e.dat.length) (hg : w.grownBy w' (evP (e, d)).ownBlock) (hnew : w'.ownsRow base 5 1 (evP (e, d)) e.dat.length (F.map (.int .u8))) : EvsR w' base ov (G.set i ({ e with dat := F }, d)) := by
  obtain ⟨hi, he⟩ := List.getElem?_eq_some_iff.1 hp
  have h1 := h.bytes (w' := w') i hi F (by rw [he]; exact hF) (by rw [he]; exact hg) (by rw [he]; exact hnew)
  rw [he] at h1
  exact h1
theorem OutsR.bytes1 {ov : Value} {G : GotO} {e : ROut} {d : Value} (h : OutsR w base ov G) (hp : G[i]? = some (e, d)) (F : List Int) (hF : F.length = e.dat.length) (hg : w.grownBy w' (d).ownBlock) (hnew : w'.ownsRow base 5 1 (d) e.dat.length (F.map (.int .u8))) : OutsR w' base ov (G.set i ({ e with dat := F }, d)) := by
  obtain ⟨hi, he⟩ := List.getElem?_eq_some_iff.1 hp
  have h1 := h.bytes (w' := w') i hi F (by rw [he]; exact hF) (by rw [he]; exact hg) (by rw [he]; exact hnew)
  rw [he] at h1
  exact h1
theorem EvsR.at {a : Option Addr} {G : Evs} {e : REv} {d : Option Addr × Nat} (h : EvsR w base (.slice a n cap) G) (hn : G.length = n) (hp : G[i]? = some (e, d)) : ∃ g, a = some ⟨g, 0, none⟩ ∧ base ≤ g ∧ g < w.heap.size ∧ w.cell? ⟨g, i * 4, none⟩ = some (.int .i64 e.kd) ∧ w.cell? ⟨g, i * 4 + 1, none⟩ = some (.int .u64 e.off) ∧ w.cell? ⟨g, i * 4 + 2, none⟩ = some (.slice d.1 e.dat.length d.2) ∧ w.cell? ⟨g, i * 4 + 3, none⟩ = some (.int .i64 e.n) ∧ (∀ j, w.frozen? ⟨g, j, none⟩ = false) := by
  obtain ⟨hi, he⟩ := List.getElem?_eq_some_iff.1 hp
  subst hn
  rcases h.row.2 with ⟨e0, h0⟩ | ⟨g, cp', cur, e0, hb, hg, _⟩
  · omega
  · simp only [Value.slice.injEq] at e0
    obtain ⟨rfl, _, rfl⟩ := e0
    obtain ⟨f0, f1, f2, f3⟩ := flatE_at hi
    rw [he] at f0 f1 f2 f3
    exact ⟨g, rfl, hb, (h.row.lt g rfl).2, by rw [h.row.cellAt _ (by omega)]; exact f0, by rw [h.row.cellAt _ (by omega)]; exact f1, by rw [h.row.cellAt _ (by omega)]; exact f2, by rw [h.row.cellAt _ (by omega)]; exact f3, fun j => h.row.frozenAt j⟩
theorem OutsR.at1 {a : Option Addr} {G : GotO} {e : ROut} {d : Value} (h : OutsR w base (.slice a n cap) G) (hn : G.length = n) (hp : G[i]? = some (e, d)) : ∃ g, a = some ⟨g, 0, none⟩ ∧ base ≤ g ∧ g < w.heap.size ∧ w.cell? ⟨g, i * 3, none⟩ = some (.int .i64 e.code) ∧ w.cell? ⟨g, i * 3 + 1, none⟩ = some (.int .i64 e.n) ∧ w.cell? ⟨g, i * 3 + 2, none⟩ = some d ∧ (∀ j, w.frozen? ⟨g, j, none⟩ = false) := by
  obtain ⟨hi, he⟩ := List.getElem?_eq_some_iff.1 hp
  have h1 := h.at hn hi
  rw [he] at h1
  exact h1
end
def shapeE (G : Evs) : List (Nat × Option Addr × Nat) := G.map fun p => (p.1.dat.length, p.2)
theorem shapeE_set {G : Evs} {i : Nat} {e e' : REv} {d : Option Addr × Nat} (hp : G[i]? = some (e, d)) (hl : e'.dat.length = e.dat.length) : shapeE (G.set i (e', d)) = shapeE G := by
  obtain ⟨hi, he⟩ := List.getElem?_eq_some_iff.1 hp
  unfold shapeE
  rw [List.map_set]
  refine List.ext_getElem? fun j => ?_
  by_cases hj : j = i
  · subst hj
    rw [List.getElem?_set_self (by simpa using hi), List.getElem?_map, hp]
    simp [hl]
  · rw [List.getElem?_set_ne (by omega)]

set_option maxHeartbeats 2000000 in
set_option maxRecDepth 100000 in
theorem markReorderEventS_any (G : Evs) (base lim : Nat) (a : Option Addr) (n cap : Nat) (w : World) (hn : G.length = n) (h : EvsR w base (.slice a n cap) G) (hl : n + sumD G ≤ 1048576) (hr : ∀ k, (Value.slice a n cap).ownBlock = some k → k < lim) (hd : ∀ p ∈ G, ∀ k, (evP p).ownBlock = some k → k < lim) :
    Calls Try.prog 32 #[.slice a n cap, .int .i64 1] w fun e w' => ∃ k' : Int, 0 ≤ k' ∧ e = .returned (.int .i64 k') ∧ Only w w' base lim := by
  have HN : Hid (G.length = n) := hn
  have HS : Hid (EvsR w base (.slice a n cap) G) := h
  clear hn h
  go_enter Try.func32, Try.ntmps32
  go_wp2_with fail
  go_loopw [1, 5] (fun sv iv wr => ∃ (k : Nat) (s : Int) (G' : Evs), k ≤ n ∧ iv = .int .i64 (k : Int) ∧ sv = .int .i64 s ∧ 1 ≤ s ∧ Hid (s ≤ 1 + 3 * (k : Int) + (sumD (G.take k) : Int)) ∧ Hid (shapeE G' = shapeE G) ∧ Hid (EvsR wr base (.slice a n cap) G') ∧ Hid (Only w wr base lim)) (fun _ iv _ => n - (intOf iv).toNat)
  case atStart => exact ⟨0, 1, G, Nat.zero_le _, rfl, rfl, Int.le_refl _, by unfold Hid; simp [sumD], rfl, HS, Only.refl _ _ _⟩
  case round =>
  clear HS
  obtain ⟨k, s, G', hk, rfl, rfl, hs1, HSB, HSH, HE, HO⟩ := hrel
  by_cases hlt : k < n
  · have hkG : k < G.length := by have := HN.out; omega
    have hlen : G'.length = n := by
      have e := congrArg List.length HSH.out
      simp only [shapeE, List.length_map] at e
      have := HN.out
      omega
    have HLEN : Hid _ := hlen
    obtain ⟨⟨e, d⟩, hp⟩ : ∃ p, G'[k]? = some p := ⟨_, List.getElem?_eq_getElem (by omega)⟩
    have hshp : (e.dat.length, d) = ((G[k]).1.dat.length, (G[k]).2) := by
      have e1 : (shapeE G')[k]? = some (e.dat.length, d) := by simp only [shapeE, List.getElem?_map, hp]; rfl
      rw [HSH.out] at e1
      simp only [shapeE, List.getElem?_map, List.getElem?_eq_getElem hkG] at e1
      exact (Option.some.inj e1).symm
    have hmem := List.getElem_mem hkG
    have hdk := hd _ hmem
    have hst := sumD_take G k hkG
    have hle := sumD_le G (k + 1)
    have hdlim : ∀ j, (evP (e, d)).ownBlock = some j → j < lim := by
      intro j hj
      refine hdk j ?_
      simp only [evP] at hj ⊢
      rw [← (Prod.mk.inj hshp).2, ← (Prod.mk.inj hshp).1]
      exact hj
    rw [← (Prod.mk.inj hshp).1] at hst
    have HP0 : Hid (G'[k]? = some (e, d)) := hp
    have HDL : Hid _ := hdlim
    have hsb := HSB.out
    have hs2 : s ≤ 10000000 := by omega
    obtain ⟨dl, hdl⟩ : ∃ dl, Hid (dl = e.dat.length) := ⟨_, rfl⟩
    have HST : Hid _ := hst
    have hdl3 : dl ≤ 1048576 := by have := hdl.out; omega
    obtain ⟨g, rfl, hbg, hlg, q0, q1, q2, q3, hfz⟩ := HE.out.at HLEN.out hp
    have hgl := hr g rfl
    have hE1 := HE.out.kd1 HLEN.out hp s
    have hp1 := get_set_self (p := ({ e with kd := s }, d)) hp
    have hE2 := hE1.off1 (by rw [List.length_set]; exact HLEN.out) hp1 (s + 1)
    have hp2 := get_set_self (p := ({ ({ e with kd := s } : REv) with off := s + 1 }, d)) hp1
    rw [List.set_set] at hE2 hp2
    have hdat := hE2.dat _ (List.mem_of_getElem? hp2)
    obtain ⟨d1, d2⟩ := d
    simp only [evP] at hdat q2
    rw [← hdl.out] at hdat q2
    have hO2 := (HO.out.set g (k * 4) hbg hgl (.int .i64 s)).set g (k * 4 + 1) hbg hgl (.int .u64 (s + 1))
    have hcl := markByteS_any (.slice d1 dl d2) e.dat (s + 2) _ base dl hdl.out.symm hdat hdl3 (by omega) (by omega)
    have f0 := hfz (k * 4)
    have f1 := hfz (k * 4 + 1)
    have hw1 : IntKind.u64.wrap (s + 1) = s + 1 := by rw [IntKind.wrap_u64]; omega
    have e12 : s + 1 + 1 = s + 2 := by omega
    have HE2 : Hid _ := hE2
    have HO2 : Hid _ := hO2
    have HP2 : Hid _ := hp2
    clear hE1 hE2 hp1 hp hp2 hshp hmem hdk hst hle hsb hdlim hfz hdat hO2 hlen HE HO hd hr
    go_wp2_with fail
    try rw [e12]
    refine hcl.mono ?_
    rintro e9 w2 ⟨rfl, ho2, hg2⟩
    have hE3 := HE2.out.bytes1 HP2.out (markedB (s + 2) dl) (by rw [markedB_length]; exact hdl.out) (by simp only [evP]; rw [← hdl.out]; exact hg2) (by simp only [evP]; rw [← hdl.out]; exact ho2)
    have hp3 := get_set_self (p := (({ kd := s, off := s + 1, dat := markedB (s + 2) dl, n := e.n } : REv), d1, d2)) HP2.out
    rw [List.set_set] at hE3 hp3
    obtain ⟨g', e4, _, _, t0, t1, t2, t3, hfz3⟩ := hE3.at (by rw [List.length_set]; exact HLEN.out) hp3
    simp only [Option.some.injEq, Addr.mk.injEq, and_true] at e4
    subst e4
    have hE4 := hE3.n1 (by rw [List.length_set]; exact HLEN.out) hp3 (s + 2 + (dl : Int))
    rw [List.set_set] at hE4
    have hO3 := (HO2.out.grown hg2 (fun j hj => ⟨(ho2.lt j hj).1, HDL.out j (by simp only [evP]; rw [← hdl.out]; exact hj)⟩)).set g (k * 4 + 3) hbg hgl (.int .i64 (s + 2 + (dl : Int)))
    have f3 := hfz3 (k * 4 + 3)
    have HE4 : Hid _ := hE4
    have HO3 : Hid _ := hO3
    clear hE3 hE4 hp3 hO3 hfz3 hcl ho2 hg2 HE2 HO2 HP2 t0 t1 t2 q0 q1 q2 q3 f0 f1
    go_wp2_with fail
    go_roundw
    case rel =>
      refine ⟨k + 1, s + 2 + (dl : Int) + 1, _, by omega, by go_num, by go_num, by omega, ?_, ?_, HE4, HO3⟩
      · unfold Hid
        rw [HST.out]
        have := HSB.out
        have := hdl.out
        omega
      · unfold Hid
        rw [← HSH.out]
        exact shapeE_set HP0.out (by simp only; rw [markedB_length]; exact hdl.out)
    case measure => simp [intOf]; omega
  · obtain rfl : k = n := by omega
    have hkk : ¬ (k : Int) < (k : Int) := by omega
    go_wp2_with fail
    go_ret
    exact ⟨s, by omega, rfl, HO.out⟩
end Go.Proofs.Ytpeecjoadgefjaa

namespace Go.Proofs.Ytpeecjoadgefjaa
open Go.ChangeShapes Go.WideShapes Go.ChangeAt Go.RowKit
set_option linter.unusedVariables false

def markO (s : Int) (o : ROut) : ROut := ⟨s, s + 1, markedB (s + 2) o.dat.length⟩
def nextS (s : Int) (o : ROut) : Int := s + 2 + (o.dat.length : Int)
def sAt (s : Int) (G : GotO) (i : Nat) : Int := (G.take i).foldl (fun s p => nextS s p.1) s
theorem sAt_succ (s : Int) (G : GotO) (i : Nat) (h : i < G.length) : sAt s G (i + 1) = nextS (sAt s G i) (G[i]).1 := by
  unfold sAt
  rw [List.take_succ_eq_append_getElem h, List.foldl_append]
  rfl
def markG (s : Int) (G : GotO) (i : Nat) : GotO := (G.take i).mapIdx (fun j p => (markO (sAt s G j) p.1, p.2)) ++ G.drop i
theorem markG_zero (s : Int) (G : GotO) : markG s G 0 = G := by simp [markG]
theorem markG_length (s : Int) (G : GotO) (i : Nat) (h : i ≤ G.length) : (markG s G i).length = G.length := by simp [markG]; omega
theorem markG_at (s : Int) (G : GotO) (i j : Nat) (hi : i ≤ G.length) (hj : j < (markG s G i).length) : (markG s G i)[j] = if j < i then (markO (sAt s G j) (G[j]'(by rw [markG_length s G i hi] at hj; exact hj)).1, (G[j]'(by rw [markG_length s G i hi] at hj; exact hj)).2) else G[j]'(by rw [markG_length s G i hi] at hj; exact hj) := by
  have hj2 := hj
  rw [markG_length s G i hi] at hj2
  by_cases h : j < i
  · rw [if_pos h]
    simp only [markG]
    rw [List.getElem_append_left (by simp; omega)]
    simp
  · rw [if_neg h]
    simp only [markG]
    rw [List.getElem_append_right (by simp; omega)]
    simp only [List.length_mapIdx, List.length_take, List.getElem_drop]
    congr 1
    omega
theorem markG_succ (s : Int) (G : GotO) (i : Nat) (h : i < G.length) : (markG s G i).set i (markO (sAt s G i) (G[i]).1, (G[i]).2) = markG s G (i + 1) := by
  refine List.ext_getElem (by rw [List.length_set, markG_length s G i (by omega), markG_length s G (i + 1) (by omega)]) fun j h1 h2 => ?_
  rw [List.length_set] at h1
  by_cases hij : i = j
  · subst hij
    rw [List.getElem_set_self, markG_at s G (i + 1) i (by omega) h2, if_pos (by omega)]
  · rw [List.getElem_set_ne hij, markG_at s G i j (by omega) h1, markG_at s G (i + 1) j (by omega) h2]
    by_cases hj : j < i
    · rw [if_pos hj, if_pos (by omega)]
    · rw [if_neg hj, if_neg (by omega)]

/-- Answers that are not too long. -/
def Small (G : GotO) : Prop := ∀ p ∈ G, p.1.dat.length ≤ 4096
theorem sAt_bounds (G : GotO) (hG : Small G) (i : Nat) (hi : i ≤ G.length) : 1 ≤ sAt 1 G i ∧ sAt 1 G i ≤ 1 + 4098 * (i : Int) := by
  induction i with
  | zero => simp [sAt]
  | succ i ih =>
    have := ih (by omega)
    rw [sAt_succ 1 G i (by omega), nextS]
    have := hG _ (List.getElem_mem (show i < G.length by omega))
    omega

set_option maxHeartbeats 2000000 in
set_option maxRecDepth 100000 in
theorem markReorderOutS_any (G : GotO) (base : Nat) (a : Option Addr) (n cap : Nat) (w : World) (hn : G.length = n) (h : OutsR w base (.slice a n cap) G) (hsm : Small G) (hl : n ≤ 4000) :
    Calls Try.prog 33 #[.slice a n cap, .int .i64 1] w fun e w' => e = .returned (.int .i64 (sAt 1 G n)) ∧ OutsR w' base (.slice a n cap) (markG 1 G n) ∧ Below base w w' := by
  have HN : Hid (G.length = n) := hn
  have HST : Hid (OutsR w base (.slice a n cap) (markG 1 G 0)) := by unfold Hid; rw [markG_zero]; exact h
  clear hn h
  go_enter Try.func33, Try.ntmps33
  go_wp2_with fail
  go_loopw [1, 5] (fun m i wr => ∃ k : Nat, k ≤ n ∧ i = .int .i64 (k : Int) ∧ m = .int .i64 (sAt 1 G k) ∧ Hid (OutsR wr base (.slice a n cap) (markG 1 G k)) ∧ Hid (Below base w wr)) (fun _ i _ => n - (intOf i).toNat)
  case atStart => exact ⟨0, Nat.zero_le _, rfl, rfl, HST, Below.refl _ _⟩
  case round =>
  clear HST
  obtain ⟨k, hk, rfl, rfl, HO, HB⟩ := hrel
  by_cases hlt : k < n
  · have hkG : k < G.length := by have := HN.out; omega
    obtain ⟨⟨o, dv⟩, hp⟩ : ∃ p, G[k]? = some p := ⟨_, List.getElem?_eq_getElem hkG⟩
    obtain ⟨_, hpe⟩ := List.getElem?_eq_some_iff.1 hp
    have hmz := markG_length 1 G k (by omega)
    have hpm : (markG 1 G k)[k]? = some (o, dv) := by rw [List.getElem?_eq_getElem (by omega), markG_at 1 G k k (by omega) (by omega), if_neg (by omega), hpe]
    have hbd := sAt_bounds G hsm k (by omega)
    have hsc := sAt_succ 1 G k hkG
    rw [hpe] at hsc
    have hs := hsm _ (List.mem_of_getElem? hp)
    simp only at hs hsc
    have hmk := markG_succ 1 G k hkG
    rw [hpe] at hmk
    obtain ⟨s, hse⟩ : ∃ s, Hid (s = sAt 1 G k) := ⟨_, rfl⟩
    rw [← hse.out] at hbd hsc hmk ⊢
    obtain ⟨M, hM⟩ : ∃ M, Hid (M = markG 1 G k) := ⟨_, rfl⟩
    have hO := HO.out
    rw [← hM.out] at hO hpm hmk hmz
    have HEN : Hid (M.length = n) := by unfold Hid; have := HN.out; omega
    obtain ⟨g, rfl, hbg, hlg, q0, q1, q2, hfz⟩ := hO.at1 HEN.out hpm
    obtain ⟨dl, hdl⟩ : ∃ dl, Hid (dl = o.dat.length) := ⟨_, rfl⟩
    rw [← hdl.out] at hs
    have HMK : Hid _ := hmk
    have HSC : Hid _ := hsc
    have hO1 := hO.cd1 HEN.out hpm s
    have hp1 := get_set_self (p := ({ o with code := s }, dv)) hpm
    have hO2 := hO1.n1 (by rw [List.length_set]; exact HEN.out) hp1 (s + 1)
    have hp2 := get_set_self (p := ({ ({ o with code := s } : ROut) with n := s + 1 }, dv)) hp1
    rw [List.set_set] at hO2 hp2
    have hdat := hO2.dat _ (List.mem_of_getElem? hp2)
    simp only at hdat
    rw [← hdl.out] at hdat
    have hB2 : Below base w ((wr.setCell ⟨g, k * 3, none⟩ (.int .i64 s)).setCell ⟨g, k * 3 + 1, none⟩ (.int .i64 (s + 1))) := (HB.out.setCell (p := ⟨g, k * 3, none⟩) hbg _).setCell (p := ⟨g, k * 3 + 1, none⟩) hbg _
    have hz2 : ((wr.setCell ⟨g, k * 3, none⟩ (.int .i64 s)).setCell ⟨g, k * 3 + 1, none⟩ (.int .i64 (s + 1))).heap.size = wr.heap.size := by simp
    obtain ⟨da, dc, hdv⟩ := own_shape hdat
    subst hdv
    have hcl := markByteS_any (.slice da dl dc) o.dat (s + 2) _ base dl hdl.out.symm hdat (by omega) (by omega) (by omega)
    have f0 := hfz (k * 3)
    have f1 := hfz (k * 3 + 1)
    have e12 : s + 1 + 1 = s + 2 := by omega
    have HO2 : Hid _ := hO2
    have HB2 : Hid _ := hB2
    have HP2 : Hid _ := hp2
    have HZ2 : Hid _ := hz2
    clear hpe hmz hkG hp hmk hsc hO1 hO2 hO hp1 hp2 hpm hB2 hz2 hdat hfz HO HB
    go_wp2_with fail
    try rw [e12]
    refine hcl.mono ?_
    rintro e w2 ⟨rfl, ho2, hg2⟩
    have hO3 := HO2.out.bytes1 HP2.out (markedB (s + 2) dl) (by rw [markedB_length]; exact hdl.out) hg2 (by simp only; rw [← hdl.out]; exact ho2)
    rw [List.set_set] at hO3
    have hB3 : Below base w w2 := HB2.out.grown hg2 (by rw [HZ2.out]; omega) (fun j hj => (ho2.lt j hj).1)
    have hfin : OutsR w2 base (.slice (some ⟨g, 0, none⟩) n cap) (markG 1 G (k + 1)) := by
      rw [← HMK.out]
      unfold markO
      rw [← hdl.out]
      exact hO3
    have hnx : sAt 1 G (k + 1) = s + 2 + (dl : Int) := by rw [HSC.out]; unfold nextS; rw [← hdl.out]
    have HNX : Hid _ := hnx
    have HF : Hid _ := hfin
    clear hcl ho2 hg2 hO3 hfin hnx HO2 HP2 HB2 f0 f1 q0 q1 q2
    go_wp2_with fail
    go_roundw
    case rel => exact ⟨k + 1, by omega, by go_num, by rw [HNX.out], HF, hB3⟩
    case measure => simp [intOf]; omega
  · obtain rfl : k = n := by omega
    have hkk : ¬ (k : Int) < (k : Int) := by omega
    go_wp2_with fail
    go_ret
    exact ⟨rfl, HO.out, HB.out⟩

set_option maxHeartbeats 2000000 in
set_option maxRecDepth 100000 in
theorem heldReorderOutS_any (G : GotO) (base : Nat) (a : Option Addr) (n cap : Nat) (w : World) (hn : G.length = n) (h : OutsR w base (.slice a n cap) (markG 1 G n)) (hsm : Small G) (hl : n ≤ 4000) :
    Calls Try.prog 34 #[.slice a n cap, .int .i64 1] w fun e w' => e = .returned (.int .i64 (sAt 1 G n)) ∧ w' = w := by
  have HN : Hid (G.length = n) := hn
  have H : Hid _ := h
  clear hn h
  go_enter Try.func34, Try.ntmps34
  go_wp2_with fail
  go_loop [1, 5] (fun m i => ∃ k : Nat, k ≤ n ∧ i = .int .i64 (k : Int) ∧ m = .int .i64 (sAt 1 G k)) (fun _ i => n - (intOf i).toNat)
  case atStart => exact ⟨0, Nat.zero_le _, rfl, rfl⟩
  case round =>
  obtain ⟨k, hk, rfl, rfl⟩ := hrel
  by_cases hlt : k < n
  · have hkG : k < G.length := by have := HN.out; omega
    obtain ⟨⟨o, dv⟩, hp⟩ : ∃ p, G[k]? = some p := ⟨_, List.getElem?_eq_getElem hkG⟩
    obtain ⟨_, hpe⟩ := List.getElem?_eq_some_iff.1 hp
    have hmz := markG_length 1 G n (by have := HN.out; omega)
    have hpm : (markG 1 G n)[k]? = some (markO (sAt 1 G k) o, dv) := by rw [List.getElem?_eq_getElem (by omega), markG_at 1 G n k (by have := HN.out; omega) (by omega), if_pos hlt, hpe]
    have hbd := sAt_bounds G hsm k (by omega)
    have hsc := sAt_succ 1 G k hkG
    rw [hpe] at hsc
    have hs := hsm _ (List.mem_of_getElem? hp)
    simp only at hs hsc
    obtain ⟨s, hse⟩ : ∃ s, Hid (s = sAt 1 G k) := ⟨_, rfl⟩
    rw [← hse.out] at hbd hsc hpm ⊢
    obtain ⟨g, rfl, hbg, hlg, q0, q1, q2, hfz⟩ := H.out.at1 (by rw [hmz]; exact HN.out) hpm
    obtain ⟨dl, hdl⟩ : ∃ dl, Hid (dl = o.dat.length) := ⟨_, rfl⟩
    have hdat := H.out.dat _ (List.mem_of_getElem? hpm)
    simp only [markO, markedB_length] at hdat q0 q1
    rw [← hdl.out] at hs hdat
    obtain ⟨da, dc, rfl⟩ := own_shape hdat
    have hnx : sAt 1 G (k + 1) = s + 2 + (dl : Int) := by rw [hsc]; unfold nextS; rw [← hdl.out]
    have HNX : Hid _ := hnx
    have hcl := heldByteS_any da dl dc (s + 2) w (Ints.ofRow hdat) (by omega) (by omega) (by omega)
    have e12 : s + 1 + 1 = s + 2 := by omega
    have d5 : decide (s + 2 + (dl : Int) < 0) = false := by rw [decide_eq_false_iff_not]; omega
    clear hpe hmz hkG hp hsc hfz hdat hnx hpm
    go_wp2_with fail
    try rw [e12]
    refine hcl.mono ?_
    rintro e w2 ⟨rfl, rfl⟩
    go_wp2_with fail
    go_round
    case rel => exact ⟨k + 1, by omega, by go_num, by rw [HNX.out]⟩
    case measure => simp [intOf]; omega
  · obtain rfl : k = n := by omega
    have hkk : ¬ (k : Int) < (k : Int) := by omega
    go_wp2_with fail
    go_ret
    exact ⟨rfl, rfl⟩
end Go.Proofs.Ytpeecjoadgefjaa
