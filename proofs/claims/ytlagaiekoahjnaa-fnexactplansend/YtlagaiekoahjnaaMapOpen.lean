import Derived.Test.YtlagaiekoahjnaaMapBase
import Derived.ChangeOld
import Derived.Deep.SlicePairs
import Derived.Lib.SmallJoins
namespace Go.Proofs.Ytlagaiekoahjnaa
open Go.ChangeShapes Go.WideShapes Go.ChangeAt Go.RowKit Go.Deep Go.Joins
set_option linter.unusedVariables false

theorem addrAddM (b off j : Nat) : (⟨b, off, none⟩ : Addr).add j = ⟨b, off + j, none⟩ := by
  unfold Addr.add
  split <;> simp_all

set_option maxHeartbeats 1000000 in
theorem cameM {H : Type} {enc : TypeId × Value → H} {P : Program} {w : World} {base : Nat} {spare : Nat → Bool} {held : Bool} {t e : TypeId} {f0 f1 f2 f3 f4 : Field} {fuel : Nat} {v : Value} {y : DataW H × List MemPlace}
    (ht : P.underlying t = some (.slice e)) (he : P.underlying e = some (.struct #[f0, f1, f2, f3, f4])) (ce : P.cellsOf e = 5) (o0 : f0.offset = 0) (o1 : f1.offset = 1) (o2 : f2.offset = 2) (o3 : f3.offset = 3) (o4 : f4.offset = 4) (c0 : P.cellsOf f0.type = 1) (c1 : P.cellsOf f1.type = 1) (c2 : P.cellsOf f2.type = 1) (c3 : P.cellsOf f3.type = 1) (c4 : P.cellsOf f4.type = 1) (k0 : P.underlying f0.type = some (.int .u64)) (k1 : P.underlying f1.type = some (.int .i64)) (k2 : P.underlying f2.type = some (.int .i64)) (k3 : P.underlying f3.type = some (.int .i64)) (k4 : P.underlying f4.type = some (.int .i64))
    (hfu : DataW.trod enc P w base spare held fuel t [v] = some y) :
    ∃ (a : Option Addr) (S : Mps) (cap : Nat), v = .slice a S.length cap ∧ LieM w a S ∧ FitsM S ∧ S.length ≤ 9223372036854775807 ∧ (a = none → cap = 0) := by
  rcases open_slice ht hfu with ⟨hcs, _⟩ | ⟨a, len, cap, m, n, D, Pl, hcs, hb, hl, hm, hmm, rfl, hx⟩
  · simp at hcs
    exact ⟨none, [], 0, by simp [hcs], .inl rfl, by simp [FitsM], by simp, fun _ => rfl⟩
  simp at hcs
  have hlm : len ≤ m := by rw [hmm]; split <;> omega
  have each : ∀ i, i < m → ∃ q : Mp, q.ok ∧ w.cell? (a.add (i * 5)) = some (.int .u64 q.off) ∧ w.cell? (a.add (i * 5 + 1)) = some (.int .i64 q.len) ∧ w.cell? (a.add (i * 5 + 2)) = some (.int .i64 q.fin) ∧ w.cell? (a.add (i * 5 + 3)) = some (.int .i64 q.car) ∧ w.cell? (a.add (i * 5 + 4)) = some (.int .i64 q.que) := by
    intro i hi
    obtain ⟨cs', h1, h2⟩ := hx i hi
    rw [ce] at h1
    obtain ⟨_, hlen, hcell⟩ := World.cells?_some h1
    obtain ⟨xs, k, hk, hxy, _, hxl, hf⟩ := DataW.trod_struct he h2
    match xs, hxl, cs', hlen with
    | [y0, y1, y2, y3, y4], _, [v0, v1, v2, v3, v4], _ =>
      have g0 := hf 0 f0 rfl
      have g1 := hf 1 f1 rfl
      have g2 := hf 2 f2 rfl
      have g3 := hf 3 f3 rfl
      have g4 := hf 4 f4 rfl
      simp [o0, o1, o2, o3, o4, c0, c1, c2, c3, c4] at g0 g1 g2 g3 g4
      obtain ⟨n0, e0, _, w0⟩ := DataW.trod_int k0 g0
      simp at e0
      have b0 := bounds_u64 w0
      have r0 := hcell 0 (by omega)
      rw [add_add] at r0
      obtain ⟨n1, e1, _, w1⟩ := DataW.trod_int k1 g1
      simp at e1
      have b1 := bounds_i64 w1
      have r1 := hcell 1 (by omega)
      rw [add_add] at r1
      obtain ⟨n2, e2, _, w2⟩ := DataW.trod_int k2 g2
      simp at e2
      have b2 := bounds_i64 w2
      have r2 := hcell 2 (by omega)
      rw [add_add] at r2
      obtain ⟨n3, e3, _, w3⟩ := DataW.trod_int k3 g3
      simp at e3
      have b3 := bounds_i64 w3
      have r3 := hcell 3 (by omega)
      rw [add_add] at r3
      obtain ⟨n4, e4, _, w4⟩ := DataW.trod_int k4 g4
      simp at e4
      have b4 := bounds_i64 w4
      have r4 := hcell 4 (by omega)
      rw [add_add] at r4
      exact ⟨⟨n0, n1, n2, n3, n4⟩, ⟨⟨b0.1, b0.2⟩, ⟨b1.1, b1.2⟩, ⟨b2.1, b2.2⟩, ⟨b3.1, b3.2⟩, ⟨b4.1, b4.2⟩⟩, by simpa [e0] using r0, by simpa [e1] using r1, by simpa [e2] using r2, by simpa [e3] using r3, by simpa [e4] using r4⟩
  haveI : Inhabited Mp := ⟨zeroM⟩
  obtain ⟨q, hq⟩ := choose_lt each
  unfold maxLen at hm
  refine ⟨some a, (List.range len).map q, cap, by simp [hcs], ?_, ?_, by simp; omega, fun h => by cases h⟩
  · by_cases hz : len = 0
    · exact .inl (by simp [hz])
    · obtain ⟨b, off, spot⟩ := a
      have hspot : spot = none := by
        have := World.cell?_spot (hq 0 (by omega)).2.1
        simpa [Addr.add] using this
      subst hspot
      refine .inr ⟨b, off, rfl, fun i hi => ?_⟩
      simp only [List.length_map, List.length_range] at hi
      obtain ⟨_, g0, g1, g2, g3, g4⟩ := hq i (by omega)
      rw [addrAddM] at g0 g1 g2 g3 g4
      simp only [List.getElem_map, List.getElem_range]
      exact ⟨g0, g1, g2, g3, g4⟩
  · intro r hr
    simp only [List.mem_map, List.mem_range] at hr
    obtain ⟨i, hi, rfl⟩ := hr
    exact (hq i (by omega)).1
end Go.Proofs.Ytlagaiekoahjnaa
