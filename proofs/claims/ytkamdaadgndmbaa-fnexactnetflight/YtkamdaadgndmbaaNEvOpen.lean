import Derived.Test.YtkamdaadgndmbaaOpens
import Derived.Test.YtkamdaadgndmbaaNLaw1
namespace Go.Proofs.Ytkamdaadgndmbaa
open Go.ChangeShapes Go.WideShapes Go.ChangeAt Go.RowKit Go.Deep Go.Joins
set_option linter.unusedVariables false

set_option maxHeartbeats 1000000 in
/-- Events that came in: a row of structs, each with a row of bytes. -/
theorem cameN {H : Type} {enc : TypeId × Value → H} {P : Program} {w : World} {base : Nat} {spare : Nat → Bool} {held : Bool} {t e eb : TypeId} {f0 f1 f2 f3 f4 : Field} {fuel : Nat} {v : Value} {y : DataW H × List MemPlace}
    (ht : P.underlying t = some (.slice e)) (he : P.underlying e = some (.struct #[f0, f1, f2, f3, f4])) (ce : P.cellsOf e = 5) (o0 : f0.offset = 0) (o1 : f1.offset = 1) (o2 : f2.offset = 2) (o3 : f3.offset = 3) (o4 : f4.offset = 4) (c0 : P.cellsOf f0.type = 1) (c1 : P.cellsOf f1.type = 1) (c2 : P.cellsOf f2.type = 1) (c3 : P.cellsOf f3.type = 1) (c4 : P.cellsOf f4.type = 1) (k0 : P.underlying f0.type = some (.int .i64)) (k1 : P.underlying f1.type = some (.int .i64)) (k2 : P.underlying f2.type = some (.int .i64)) (k3 : P.underlying f3.type = some (.int .i64)) (k4 : P.underlying f4.type = some (.slice eb)) (kb : P.underlying eb = some (.int .u8)) (cb : P.cellsOf eb = 1)
    (hfu : DataW.trod enc P w base spare held fuel t [v] = some y) :
    ∃ (a : Option Addr) (S : Evs) (cap : Nat), v = .slice a S.length cap ∧ EvIn w a S ∧ (∀ p ∈ S, p.1.dat.length ≤ 1048576 → EvOk p.1) ∧ S.length ≤ 9223372036854775807 ∧ (∀ p ∈ S, p.1.dat.length ≤ 9223372036854775807) := by
  rcases open_slice ht hfu with ⟨hcs, _⟩ | ⟨a, len, cap, m, n, D, Pl, hcs, hb, hl, hm, hmm, rfl, hx⟩
  · simp at hcs
    exact ⟨none, [], 0, by simp [hcs], ⟨.inl rfl, by simp⟩, by simp, by simp, by simp⟩
  simp at hcs
  have hlm : len ≤ m := by rw [hmm]; split <;> omega
  have each : ∀ i, i < m → ∃ q : NEv × Option Addr × Nat, (q.1.dat.length ≤ 1048576 → EvOk q.1) ∧ q.1.dat.length ≤ 9223372036854775807 ∧ Ints .u8 w q.2.1 q.1.dat ∧ w.cell? (a.add (i * 5)) = some (.int .i64 q.1.kd) ∧ w.cell? (a.add (i * 5 + 1)) = some (.int .i64 q.1.pa) ∧ w.cell? (a.add (i * 5 + 2)) = some (.int .i64 q.1.di) ∧ w.cell? (a.add (i * 5 + 3)) = some (.int .i64 q.1.ix) ∧ w.cell? (a.add (i * 5 + 4)) = some (.slice q.2.1 q.1.dat.length q.2.2) := by
    intro i hi
    obtain ⟨cs', h1, h2⟩ := hx i hi
    rw [ce] at h1
    obtain ⟨_, hlen, hcell⟩ := World.cells?_some h1
    obtain ⟨xs, k, hk, hxy, _, hxl, hf⟩ := DataW.trod_struct he h2
    match xs, hxl, cs', hlen with
    | [y0, y1, y2, y3, y4], _, [v0, v1, v2, v3, v4], _ =>
      have g0 := hf 0 f0 rfl
      have g1 := hf 1 f1 rfl
      have g2 := hf 2 f2 rfl
      have g3 := hf 3 f3 rfl
      have g4 := hf 4 f4 rfl
      simp [o0, o1, o2, o3, o4, c0, c1, c2, c3, c4] at g0 g1 g2 g3 g4
      obtain ⟨n0, e0, _, w0⟩ := DataW.trod_int k0 g0
      simp at e0
      have b0 := bounds_i64 w0
      have r0 := hcell 0 (by omega)
      rw [add_add] at r0
      obtain ⟨n1, e1, _, w1⟩ := DataW.trod_int k1 g1
      simp at e1
      have b1 := bounds_i64 w1
      have r1 := hcell 1 (by omega)
      rw [add_add] at r1
      obtain ⟨n2, e2, _, w2⟩ := DataW.trod_int k2 g2
      simp at e2
      have b2 := bounds_i64 w2
      have r2 := hcell 2 (by omega)
      rw [add_add] at r2
      obtain ⟨n3, e3, _, w3⟩ := DataW.trod_int k3 g3
      simp at e3
      have b3 := bounds_i64 w3
      have r3 := hcell 3 (by omega)
      rw [add_add] at r3
      obtain ⟨da, ys, dc, e4, hy, hyw, hym, _⟩ := intsCame k4 kb cb g4
      have r4 := hcell 4 (by omega)
      rw [add_add] at r4
      exact ⟨(⟨n0, n1, n2, n3, ys⟩, da, dc), fun hs => ⟨b0.1, b0.2, b1.1, b1.2, b2.1, b2.2, b3.1, b3.2, fun x hx => bounds_u8 (hyw x hx), hs⟩, hym, hy, by simpa [e0] using r0, by simpa [e1] using r1, by simpa [e2] using r2, by simpa [e3] using r3, by simpa [e4] using r4⟩
  haveI : Inhabited (NEv × Option Addr × Nat) := ⟨(⟨0, 0, 0, 0, []⟩, none, 0)⟩
  obtain ⟨q, hq⟩ := choose_lt each
  unfold maxLen at hm
  refine ⟨some a, (List.range len).map q, cap, by simp [hcs], ⟨?_, ?_⟩, ?_, by simp; omega, ?_⟩
  · by_cases hz : len = 0
    · exact .inl (by simp [hz])
    · obtain ⟨b, off, spot⟩ := a
      have hspot : spot = none := by
        have := World.cell?_spot (hq 0 (by omega)).2.2.2.1
        simpa [Addr.add] using this
      subst hspot
      refine .inr ⟨b, off, rfl, fun i hi => ?_⟩
      simp only [List.length_map, List.length_range] at hi
      obtain ⟨_, _, _, g0, g1, g2, g3, g4⟩ := hq i (by omega)
      rw [addrAdd] at g0 g1 g2 g3 g4
      simp only [List.getElem_map, List.getElem_range]
      exact ⟨g0, g1, g2, g3, g4⟩
  · intro p hp
    simp only [List.mem_map, List.mem_range] at hp
    obtain ⟨i, hi, rfl⟩ := hp
    exact (hq i (by omega)).2.2.1
  · intro p hp
    simp only [List.mem_map, List.mem_range] at hp
    obtain ⟨i, hi, rfl⟩ := hp
    exact (hq i (by omega)).1
  · intro p hp
    simp only [List.mem_map, List.mem_range] at hp
    obtain ⟨i, hi, rfl⟩ := hp
    exact (hq i (by omega)).2.1
end Go.Proofs.Ytkamdaadgndmbaa
