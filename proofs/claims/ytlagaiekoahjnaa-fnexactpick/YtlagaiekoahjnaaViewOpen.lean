import Derived.Test.YtlagaiekoahjnaaViewBase
import Derived.ChangeOld
import Derived.Deep.SlicePairs
import Derived.Lib.SmallJoins
namespace Go.Proofs.Ytlagaiekoahjnaa
open Go.ChangeShapes Go.WideShapes Go.ChangeAt Go.RowKit Go.Deep Go.Joins
set_option linter.unusedVariables false

theorem addrAddV (b off j : Nat) : (⟨b, off, none⟩ : Addr).add j = ⟨b, off + j, none⟩ := by
  unfold Addr.add
  split <;> simp_all

set_option maxHeartbeats 1000000 in
theorem cameV {H : Type} {enc : TypeId × Value → H} {P : Program} {w : World} {base : Nat} {spare : Nat → Bool} {held : Bool} {t e : TypeId} {f0 f1 f2 : Field} {fuel : Nat} {v : Value} {y : DataW H × List MemPlace}
    (ht : P.underlying t = some (.slice e)) (he : P.underlying e = some (.struct #[f0, f1, f2])) (ce : P.cellsOf e = 3) (o0 : f0.offset = 0) (o1 : f1.offset = 1) (o2 : f2.offset = 2) (c0 : P.cellsOf f0.type = 1) (c1 : P.cellsOf f1.type = 1) (c2 : P.cellsOf f2.type = 1) (k0 : P.underlying f0.type = some (.int .i64)) (k1 : P.underlying f1.type = some (.int .i64)) (k2 : P.underlying f2.type = some (.int .i64))
    (hfu : DataW.trod enc P w base spare held fuel t [v] = some y) :
    ∃ (a : Option Addr) (S : Vws) (cap : Nat), v = .slice a S.length cap ∧ LieV w a S ∧ FitsV S ∧ S.length ≤ 9223372036854775807 ∧ (a = none → cap = 0) := by
  rcases open_slice ht hfu with ⟨hcs, _⟩ | ⟨a, len, cap, m, n, D, Pl, hcs, hb, hl, hm, hmm, rfl, hx⟩
  · simp at hcs
    exact ⟨none, [], 0, by simp [hcs], .inl rfl, by simp [FitsV], by simp, fun _ => rfl⟩
  simp at hcs
  have hlm : len ≤ m := by rw [hmm]; split <;> omega
  have each : ∀ i, i < m → ∃ q : Vw, q.ok ∧ w.cell? (a.add (i * 3)) = some (.int .i64 q.ali) ∧ w.cell? (a.add (i * 3 + 1)) = some (.int .i64 q.bck) ∧ w.cell? (a.add (i * 3 + 2)) = some (.int .i64 q.rom) := by
    intro i hi
    obtain ⟨cs', h1, h2⟩ := hx i hi
    rw [ce] at h1
    obtain ⟨_, hlen, hcell⟩ := World.cells?_some h1
    obtain ⟨xs, k, hk, hxy, _, hxl, hf⟩ := DataW.trod_struct he h2
    match xs, hxl, cs', hlen with
    | [y0, y1, y2], _, [v0, v1, v2], _ =>
      have g0 := hf 0 f0 rfl
      have g1 := hf 1 f1 rfl
      have g2 := hf 2 f2 rfl
      simp [o0, o1, o2, c0, c1, c2] at g0 g1 g2
      obtain ⟨n0, e0, _, w0⟩ := DataW.trod_int k0 g0
      simp at e0
      have b0 := bounds_i64 w0
      have r0 := hcell 0 (by omega)
      rw [add_add] at r0
      obtain ⟨n1, e1, _, w1⟩ := DataW.trod_int k1 g1
      simp at e1
      have b1 := bounds_i64 w1
      have r1 := hcell 1 (by omega)
      rw [add_add] at r1
      obtain ⟨n2, e2, _, w2⟩ := DataW.trod_int k2 g2
      simp at e2
      have b2 := bounds_i64 w2
      have r2 := hcell 2 (by omega)
      rw [add_add] at r2
      exact ⟨⟨n0, n1, n2⟩, ⟨⟨b0.1, b0.2⟩, ⟨b1.1, b1.2⟩, ⟨b2.1, b2.2⟩⟩, by simpa [e0] using r0, by simpa [e1] using r1, by simpa [e2] using r2⟩
  haveI : Inhabited Vw := ⟨zeroV⟩
  obtain ⟨q, hq⟩ := choose_lt each
  unfold maxLen at hm
  refine ⟨some a, (List.range len).map q, cap, by simp [hcs], ?_, ?_, by simp; omega, fun h => by cases h⟩
  · by_cases hz : len = 0
    · exact .inl (by simp [hz])
    · obtain ⟨b, off, spot⟩ := a
      have hspot : spot = none := by
        have := World.cell?_spot (hq 0 (by omega)).2.1
        simpa [Addr.add] using this
      subst hspot
      refine .inr ⟨b, off, rfl, fun i hi => ?_⟩
      simp only [List.length_map, List.length_range] at hi
      obtain ⟨_, g0, g1, g2⟩ := hq i (by omega)
      rw [addrAddV] at g0 g1 g2
      simp only [List.getElem_map, List.getElem_range]
      exact ⟨g0, g1, g2⟩
  · intro r hr
    simp only [List.mem_map, List.mem_range] at hr
    obtain ⟨i, hi, rfl⟩ := hr
    exact (hq i (by omega)).1
end Go.Proofs.Ytlagaiekoahjnaa
