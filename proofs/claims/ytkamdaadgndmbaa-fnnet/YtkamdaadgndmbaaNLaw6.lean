import Derived.Test.YtkamdaadgndmbaaNLaw5
namespace Go.Proofs.Ytkamdaadgndmbaa
open Go.ChangeShapes Go.WideShapes Go.ChangeAt Go.RowKit
set_option linter.unusedVariables false

theorem get_set_self {α : Type} {G : List α} {i : Nat} {p q : α} (h : G[i]? = some q) : (G.set i p)[i]? = some p := by
  obtain ⟨hi, _⟩ := List.getElem?_eq_some_iff.1 h
  rw [List.getElem?_set_self hi]
section
variable {w w' : World} {base g cap n i : Nat}
theorem EvsN.kd1 {G : Evs} {e : NEv} {d : Option Addr × Nat} (h : EvsN w base (.slice (some ⟨g, 0, none⟩) n cap) G) (hn : G.length = n) (hp : G[i]? = some (e, d)) (x : Int) : EvsN (w.setCell ⟨g, i * 5, none⟩ (.int .i64 x)) base (.slice (some ⟨g, 0, none⟩) n cap) (G.set i ({ e with kd := x }, d)) := by
  obtain ⟨hi, he⟩ := List.getElem?_eq_some_iff.1 hp
  have h1 := h.store hn i hi (i * 5) (.int .i64 x) { (G[i]).1 with kd := x } rfl (flatE_kd G i hi x)
  rw [he] at h1
  exact h1
theorem EvsN.pa1 {G : Evs} {e : NEv} {d : Option Addr × Nat} (h : EvsN w base (.slice (some ⟨g, 0, none⟩) n cap) G) (hn : G.length = n) (hp : G[i]? = some (e, d)) (x : Int) : EvsN (w.setCell ⟨g, i * 5 + 1, none⟩ (.int .i64 x)) base (.slice (some ⟨g, 0, none⟩) n cap) (G.set i ({ e with pa := x }, d)) := by
  obtain ⟨hi, he⟩ := List.getElem?_eq_some_iff.1 hp
  have h1 := h.store hn i hi (i * 5 + 1) (.int .i64 x) { (G[i]).1 with pa := x } rfl (flatE_pa G i hi x)
  rw [he] at h1
  exact h1
theorem EvsN.di1 {G : Evs} {e : NEv} {d : Option Addr × Nat} (h : EvsN w base (.slice (some ⟨g, 0, none⟩) n cap) G) (hn : G.length = n) (hp : G[i]? = some (e, d)) (x : Int) : EvsN (w.setCell ⟨g, i * 5 + 2, none⟩ (.int .i64 x)) base (.slice (some ⟨g, 0, none⟩) n cap) (G.set i ({ e with di := x }, d)) := by
  obtain ⟨hi, he⟩ := List.getElem?_eq_some_iff.1 hp
  have h1 := h.store hn i hi (i * 5 + 2) (.int .i64 x) { (G[i]).1 with di := x } rfl (flatE_di G i hi x)
  rw [he] at h1
  exact h1
theorem EvsN.ix1 {G : Evs} {e : NEv} {d : Option Addr × Nat} (h : EvsN w base (.slice (some ⟨g, 0, none⟩) n cap) G) (hn : G.length = n) (hp : G[i]? = some (e, d)) (x : Int) : EvsN (w.setCell ⟨g, i * 5 + 3, none⟩ (.int .i64 x)) base (.slice (some ⟨g, 0, none⟩) n cap) (G.set i ({ e with ix := x }, d)) := by
  obtain ⟨hi, he⟩ := List.getElem?_eq_some_iff.1 hp
  have h1 := h.store hn i hi (i * 5 + 3) (.int .i64 x) { (G[i]).1 with ix := x } rfl (flatE_ix G i hi x)
  rw [he] at h1
  exact h1
theorem OutsN.cd1 {G : GotO} {e : NOut} {d : Value} (h : OutsN w base (.slice (some ⟨g, 0, none⟩) n cap) G) (hn : G.length = n) (hp : G[i]? = some (e, d)) (x : Int) : OutsN (w.setCell ⟨g, i * 2, none⟩ (.int .i64 x)) base (.slice (some ⟨g, 0, none⟩) n cap) (G.set i ({ e with code := x }, d)) := by
  obtain ⟨hi, he⟩ := List.getElem?_eq_some_iff.1 hp
  have h1 := h.store hn i hi (i * 2) (.int .i64 x) { (G[i]).1 with code := x } rfl (flatO_cd G i hi x)
  rw [he] at h1
  exact h1
theorem EvsN.bytes1 {ov : Value} {G : Evs} {e : NEv} {d : Option Addr × Nat} (h : EvsN w base ov G) (hp : G[i]? = some (e, d)) (F : List Int) (hF : F.length = e.dat.length) (hg : w.grownBy w' (evP (e, d)).ownBlock) (hnew : w'.ownsRow base 5 1 (evP (e, d)) e.dat.length (F.map (.int .u8))) : EvsN w' base ov (G.set i ({ e with dat := F }, d)) := by
  obtain ⟨hi, he⟩ := List.getElem?_eq_some_iff.1 hp
  have h1 := h.bytes (w' := w') i hi F (by rw [he]; exact hF) (by rw [he]; exact hg) (by rw [he]; exact hnew)
  rw [he] at h1
  exact h1
theorem OutsN.bytes1 {ov : Value} {G : GotO} {e : NOut} {d : Value} (h : OutsN w base ov G) (hp : G[i]? = some (e, d)) (F : List Int) (hF : F.length = e.dat.length) (hg : w.grownBy w' (d).ownBlock) (hnew : w'.ownsRow base 5 1 (d) e.dat.length (F.map (.int .u8))) : OutsN w' base ov (G.set i ({ e with dat := F }, d)) := by
  obtain ⟨hi, he⟩ := List.getElem?_eq_some_iff.1 hp
  have h1 := h.bytes (w' := w') i hi F (by rw [he]; exact hF) (by rw [he]; exact hg) (by rw [he]; exact hnew)
  rw [he] at h1
  exact h1
theorem EvsN.at {a : Option Addr} {G : Evs} {e : NEv} {d : Option Addr × Nat} (h : EvsN w base (.slice a n cap) G) (hn : G.length = n) (hp : G[i]? = some (e, d)) : ∃ g, a = some ⟨g, 0, none⟩ ∧ base ≤ g ∧ g < w.heap.size ∧ w.cell? ⟨g, i * 5, none⟩ = some (.int .i64 e.kd) ∧ w.cell? ⟨g, i * 5 + 1, none⟩ = some (.int .i64 e.pa) ∧ w.cell? ⟨g, i * 5 + 2, none⟩ = some (.int .i64 e.di) ∧ w.cell? ⟨g, i * 5 + 3, none⟩ = some (.int .i64 e.ix) ∧ w.cell? ⟨g, i * 5 + 4, none⟩ = some (.slice d.1 e.dat.length d.2) ∧ (∀ j, w.frozen? ⟨g, j, none⟩ = false) := by
  obtain ⟨hi, he⟩ := List.getElem?_eq_some_iff.1 hp
  subst hn
  rcases h.row.2 with ⟨e0, h0⟩ | ⟨g, cp', cur, e0, hb, hg, _⟩
  · omega
  · simp only [Value.slice.injEq] at e0
    obtain ⟨rfl, _, rfl⟩ := e0
    obtain ⟨f0, f1, f2, f3, f4⟩ := flatE_at hi
    rw [he] at f0 f1 f2 f3 f4
    exact ⟨g, rfl, hb, (h.row.lt g rfl).2, by rw [h.row.cellAt _ (by omega)]; exact f0, by rw [h.row.cellAt _ (by omega)]; exact f1, by rw [h.row.cellAt _ (by omega)]; exact f2, by rw [h.row.cellAt _ (by omega)]; exact f3, by rw [h.row.cellAt _ (by omega)]; exact f4, fun j => h.row.frozenAt j⟩
theorem OutsN.at1 {a : Option Addr} {G : GotO} {e : NOut} {d : Value} (h : OutsN w base (.slice a n cap) G) (hn : G.length = n) (hp : G[i]? = some (e, d)) : ∃ g, a = some ⟨g, 0, none⟩ ∧ base ≤ g ∧ g < w.heap.size ∧ w.cell? ⟨g, i * 2, none⟩ = some (.int .i64 e.code) ∧ w.cell? ⟨g, i * 2 + 1, none⟩ = some d ∧ (∀ j, w.frozen? ⟨g, j, none⟩ = false) := by
  obtain ⟨hi, he⟩ := List.getElem?_eq_some_iff.1 hp
  have h1 := h.at hn hi
  rw [he] at h1
  exact h1
end
def shapeE (G : Evs) : List (Nat × Option Addr × Nat) := G.map fun p => (p.1.dat.length, p.2)
theorem shapeE_set {G : Evs} {i : Nat} {e e' : NEv} {d : Option Addr × Nat} (hp : G[i]? = some (e, d)) (hl : e'.dat.length = e.dat.length) : shapeE (G.set i (e', d)) = shapeE G := by
  obtain ⟨hi, he⟩ := List.getElem?_eq_some_iff.1 hp
  unfold shapeE
  rw [List.map_set]
  refine List.ext_getElem? fun j => ?_
  by_cases hj : j = i
  · subst hj
    rw [List.getElem?_set_self (by simpa using hi), List.getElem?_map, hp]
    simp [hl]
  · rw [List.getElem?_set_ne (by omega)]

set_option maxHeartbeats 2000000 in
set_option maxRecDepth 100000 in
theorem markNetEventS_any (G : Evs) (base lim : Nat) (a : Option Addr) (n cap : Nat) (w : World) (hn : G.length = n) (h : EvsN w base (.slice a n cap) G) (hl : n + sumD G ≤ 1048576) (hr : ∀ k, (Value.slice a n cap).ownBlock = some k → k < lim) (hd : ∀ p ∈ G, ∀ k, (evP p).ownBlock = some k → k < lim) :
    Calls Try.prog 15 #[.slice a n cap, .int .i64 1] w fun e w' => ∃ k' : Int, 0 ≤ k' ∧ e = .returned (.int .i64 k') ∧ Only w w' base lim := by
  have HN : Hid (G.length = n) := hn
  have HS : Hid (EvsN w base (.slice a n cap) G) := h
  clear hn h
  go_enter Try.func15, Try.ntmps15
  go_wp2_with fail
  go_loopw [1, 5] (fun sv iv wr => ∃ (k : Nat) (s : Int) (G' : Evs), k ≤ n ∧ iv = .int .i64 (k : Int) ∧ sv = .int .i64 s ∧ 1 ≤ s ∧ Hid (s ≤ 1 + 4 * (k : Int) + (sumD (G.take k) : Int)) ∧ Hid (shapeE G' = shapeE G) ∧ Hid (EvsN wr base (.slice a n cap) G') ∧ Hid (Only w wr base lim)) (fun _ iv _ => n - (intOf iv).toNat)
  case atStart => exact ⟨0, 1, G, Nat.zero_le _, rfl, rfl, Int.le_refl _, by unfold Hid; simp [sumD], rfl, HS, Only.refl _ _ _⟩
  case round =>
  clear HS
  obtain ⟨k, s, G', hk, rfl, rfl, hs1, HSB, HSH, HE, HO⟩ := hrel
  by_cases hlt : k < n
  · have hkG : k < G.length := by have := HN.out; omega
    have hlen : G'.length = n := by
      have e := congrArg List.length HSH.out
      simp only [shapeE, List.length_map] at e
      have := HN.out
      omega
    have HLEN : Hid _ := hlen
    obtain ⟨⟨e, d⟩, hp⟩ : ∃ p, G'[k]? = some p := ⟨_, List.getElem?_eq_getElem (by omega)⟩
    have hshp : (e.dat.length, d) = ((G[k]).1.dat.length, (G[k]).2) := by
      have e1 : (shapeE G')[k]? = some (e.dat.length, d) := by simp only [shapeE, List.getElem?_map, hp]; rfl
      rw [HSH.out] at e1
      simp only [shapeE, List.getElem?_map, List.getElem?_eq_getElem hkG] at e1
      exact (Option.some.inj e1).symm
    have hmem := List.getElem_mem hkG
    have hdk := hd _ hmem
    have hst := sumD_take G k hkG
    have hle := sumD_le G (k + 1)
    have hdlim : ∀ j, (evP (e, d)).ownBlock = some j → j < lim := by
      intro j hj
      refine hdk j ?_
      simp only [evP] at hj ⊢
      rw [← (Prod.mk.inj hshp).2, ← (Prod.mk.inj hshp).1]
      exact hj
    rw [← (Prod.mk.inj hshp).1] at hst
    have HP0 : Hid (G'[k]? = some (e, d)) := hp
    have HDL : Hid _ := hdlim
    have hsb := HSB.out
    have hs2 : s ≤ 10000000 := by omega
    obtain ⟨dl, hdl⟩ : ∃ dl, Hid (dl = e.dat.length) := ⟨_, rfl⟩
    have HST : Hid _ := hst
    have hdl3 : dl ≤ 1048576 := by have := hdl.out; omega
    obtain ⟨g, rfl, hbg, hlg, q0, q1, q2, q3, q4, hfz⟩ := HE.out.at HLEN.out hp
    have hgl := hr g rfl
    have hE1 := HE.out.kd1 HLEN.out hp s
    have hp1 := get_set_self (p := ({ e with kd := s }, d)) hp
    have hE2 := hE1.pa1 (by rw [List.length_set]; exact HLEN.out) hp1 (s + 1)
    have hp2 := get_set_self (p := ({ ({ e with kd := s } : NEv) with pa := s + 1 }, d)) hp1
    rw [List.set_set] at hE2 hp2
    have hE3 := hE2.di1 (by rw [List.length_set]; exact HLEN.out) hp2 (s + 2)
    have hp3 := get_set_self (p := ({ ({ ({ e with kd := s } : NEv) with pa := s + 1 } : NEv) with di := s + 2 }, d)) hp2
    rw [List.set_set] at hE3 hp3
    have hE4 := hE3.ix1 (by rw [List.length_set]; exact HLEN.out) hp3 (s + 3)
    have hp4 := get_set_self (p := ({ ({ ({ ({ e with kd := s } : NEv) with pa := s + 1 } : NEv) with di := s + 2 } : NEv) with ix := s + 3 }, d)) hp3
    rw [List.set_set] at hE4 hp4
    have hdat := hE4.dat _ (List.mem_of_getElem? hp4)
    obtain ⟨d1, d2⟩ := d
    simp only [evP] at hdat q4
    rw [← hdl.out] at hdat q4
    have hO2 := (((HO.out.set g (k * 5) hbg hgl (.int .i64 s)).set g (k * 5 + 1) hbg hgl (.int .i64 (s + 1))).set g (k * 5 + 2) hbg hgl (.int .i64 (s + 2))).set g (k * 5 + 3) hbg hgl (.int .i64 (s + 3))
    have hcl := markByteS_any (.slice d1 dl d2) e.dat (s + 4) _ base dl hdl.out.symm hdat hdl3 (by omega) (by omega)
    have f0 := hfz (k * 5)
    have f1 := hfz (k * 5 + 1)
    have f2 := hfz (k * 5 + 2)
    have f3 := hfz (k * 5 + 3)
    have e12 : s + 1 + 1 = s + 2 := by omega
    have e13 : s + 2 + 1 = s + 3 := by omega
    have e14 : s + 3 + 1 = s + 4 := by omega
    have HE2 : Hid _ := hE4
    have HO2 : Hid _ := hO2
    have HP2 : Hid _ := hp4
    clear hE1 hE2 hE3 hE4 hp1 hp hp2 hp3 hp4 hshp hmem hdk hst hle hsb hdlim hfz hdat hO2 hlen HE HO hd hr
    go_wp2_with fail
    refine hcl.mono ?_
    rintro e9 w2 ⟨rfl, ho2, hg2⟩
    have hE3 := HE2.out.bytes1 HP2.out (markedB (s + 4) dl) (by rw [markedB_length]; exact hdl.out) (by simp only [evP]; rw [← hdl.out]; exact hg2) (by simp only [evP]; rw [← hdl.out]; exact ho2)
    rw [List.set_set] at hE3
    have hO3 := HO2.out.grown hg2 (fun j hj => ⟨(ho2.lt j hj).1, HDL.out j (by simp only [evP]; rw [← hdl.out]; exact hj)⟩)
    have HE4 : Hid _ := hE3
    have HO3 : Hid _ := hO3
    clear hE3 hO3 hcl ho2 hg2 HE2 HO2 HP2 q0 q1 q2 q3 q4 f0 f1 f2 f3
    go_wp2_with fail
    go_roundw
    case rel =>
      refine ⟨k + 1, s + 4 + (dl : Int), _, by omega, by go_num, by go_num, by omega, ?_, ?_, HE4, HO3⟩
      · unfold Hid
        rw [HST.out]
        have := HSB.out
        have := hdl.out
        omega
      · unfold Hid
        rw [← HSH.out]
        exact shapeE_set HP0.out (by simp only; rw [markedB_length]; exact hdl.out)
    case measure => simp [intOf]; omega
  · obtain rfl : k = n := by omega
    have hkk : ¬ (k : Int) < (k : Int) := by omega
    go_wp2_with fail
    go_ret
    exact ⟨s, by omega, rfl, HO.out⟩
end Go.Proofs.Ytkamdaadgndmbaa
