import Derived.Test.YtgjcdejiolenkaaRows
import Derived.Test.YtgjcdejiolenkaaSpanLaw1
import Derived.ChangeOld
import Derived.Deep.SlicePairs
import Derived.Lib.SmallJoins
namespace Go.Proofs.Ytgjcdejiolenkaa.fnExactSpanSize
open Go.ChangeShapes Go.WideShapes Go.ChangeAt Go.RowKit Go.Deep Go.Joins
set_option linter.unusedVariables false

theorem own : ownKnob Try.prog.godebug = none := by kernel_rfl
theorem laidOut : laidOutB Try.prog = true := by kernel_rfl
theorem cellsSpan : Try.prog.cellsOf 25 = 2 := by kernel_rfl
theorem cellsWord : Try.prog.cellsOf 23 = 1 := by kernel_rfl

theorem addrAdd (b off j : Nat) : (⟨b, off, none⟩ : Addr).add j = ⟨b, off + j, none⟩ := by
  unfold Addr.add
  split <;> simp_all

set_option maxRecDepth 100000 in
theorem lifted (os : Os) (started : os.Started) (H : Type) (enc : TypeId × Value → H) :
    ReturnsInHanded {} Try.checked os 4 .any (Rows.fnExactSpanSizeSpec.pre6 enc Try.prog Try.f4 Rows.fnExactSpanSizeRow.domain false) (Rows.fnExactSpanSizeSpec.post enc Try.prog Try.f4 false true false false) := by
  refine returnsInHanded_of_change (C := Try.checked) own started (by kernel_rfl) Try.func4
    (ChangeSpec.witness6 (enc := enc) (C := Try.checked) false ⟨#[], #[.slice none 0 0, .agg #[.int .u64 0, .int .u64 0]], []⟩ 8 (by kernel_rfl) (by kernel_rfl) (by kernel_rfl) (by kernel_rfl)) ?_
  intro W base args ds gs before hval0 hW hcnd _
  have hval : ∀ (j : Nat) t v, Try.f4.params[j]? = some t → args[j]? = some v → Value.okWide Try.prog W .any base t v := hval0
  have hW' := hW
  obtain ⟨p, q, hA0, hV, rfl, hfz, hnd⟩ := hW
  have hA : DataW.TrodAll enc Try.prog W 0 (fun _ => true) true Try.f4.params.toList args.toList ds p := hA0
  rw [Try.params4] at hA hval
  obtain ⟨v0, vs0, d0, ds0, p0, q0, hargs, rfl, rfl, h0, r0⟩ := trodAll_cons hA
  obtain ⟨v1, vs1, d1, ds1, p1, q1, rfl, rfl, rfl, h1, r1⟩ := trodAll_cons r0
  obtain ⟨rfl, rfl, rfl⟩ := trodAll_nil r1
  obtain rfl : args = #[v0, v1] := by cases args; simp_all
  obtain ⟨rfl, rfl⟩ := trodVars_none hV
  obtain ⟨a0, len0, cap0, rfl⟩ := okWide_slice Try.underlying22 (hval 0 22 v0 rfl rfl)
  have k0 := h0
  have lt0 : ∀ x ∈ p0, x.block < W.heap.size := by obtain ⟨m, hm⟩ := k0; exact DataW.trod_lt m _ _ _ hm
  have k1 := h1
  have lt1 : ∀ x ∈ p1, x.block < W.heap.size := by obtain ⟨m, hm⟩ := k1; exact DataW.trod_lt m _ _ _ hm
  obtain ⟨S, rfl, hS, hf, hmx⟩ : ∃ S : Sp, S.length = len0 ∧ Spans W a0 S ∧ Fits S ∧ S.length ≤ 9223372036854775807 := by
    obtain ⟨fuel, hfu⟩ := h0
    rcases open_slice_pairs Try.underlying22 Try.underlying25 cellsSpan rfl rfl cellsWord cellsWord hfu with ⟨hcs, _⟩ | ⟨a, len, cap, m, n, V0, V1, D0, D1, P0, P1, hcs, _, hl, hm, hmm, _, hcell⟩
    · simp [Value.cells] at hcs
      obtain ⟨rfl, rfl, rfl⟩ := hcs
      exact ⟨[], rfl, .inl rfl, by simp [Fits], by simp⟩
    · simp [Value.cells] at hcs
      obtain ⟨rfl, rfl, rfl⟩ := hcs
      have hlm : len0 ≤ m := by rw [hmm]; split <;> omega
      have key : ∀ i, i < len0 → V0 i = .int .u64 (intOf (V0 i)) ∧ V1 i = .int .u64 (intOf (V1 i)) ∧ (Lit.int .u64 (intOf (V0 i))).wf = true ∧ (Lit.int .u64 (intOf (V1 i))).wf = true := by
        intro i hi
        obtain ⟨_, _, g0, g1⟩ := hcell i (by omega)
        obtain ⟨n0, e0, _, w0⟩ := DataW.trod_int Try.underlying23 g0
        obtain ⟨n1, e1, _, w1⟩ := DataW.trod_int Try.underlying23 g1
        simp at e0 e1
        rw [e0, e1]
        exact ⟨rfl, rfl, w0, w1⟩
      unfold maxLen at hm
      refine ⟨(List.range len0).map fun i => (intOf (V0 i), intOf (V1 i)), by simp, ?_, ?_, by simp; omega⟩
      · by_cases hz : len0 = 0
        · exact .inl (by simp [hz])
        · obtain ⟨b, off, spot⟩ := a
          have hspot : spot = none := by
            have := World.cell?_spot (hcell 0 (by omega)).1
            simpa [Addr.add] using this
          subst hspot
          refine .inr ⟨b, off, rfl, fun i hi => ?_⟩
          simp only [List.length_map, List.length_range] at hi
          obtain ⟨g0, g1, _, _⟩ := hcell i (by omega)
          obtain ⟨e0, e1, _, _⟩ := key i hi
          rw [addrAdd] at g0 g1
          simp only [List.getElem_map, List.getElem_range]
          rw [← e0, ← e1]
          exact ⟨g0, by rw [← g1]; congr 1⟩
      · intro r hr
        simp only [List.mem_map, List.mem_range] at hr
        obtain ⟨i, hi, rfl⟩ := hr
        obtain ⟨_, _, w0, w1⟩ := key i hi
        have b0 := bounds_u64 w0
        have b1 := bounds_u64 w1
        exact ⟨b0.1, b0.2, b1.1, b1.2⟩
  obtain ⟨c0, c1, y0, y1, m, rfl, rfl, rfl, hy0, hy1⟩ := open_agg2 Try.underlying25 (by kernel_rfl) cellsSpan (hval 1 25 v1 rfl rfl) h1
  obtain ⟨pp, e0, rfl, wp⟩ := DataW.trod_int Try.underlying23 hy0
  obtain ⟨qq, e1, rfl, wq⟩ := DataW.trod_int Try.underlying23 hy1
  simp at e0 e1
  subst e0 e1
  have bp := bounds_u64 wp
  have bq := bounds_u64 wq
  clear hA0 hval0
  refine (lawSize a0 S cap0 pp qq W hS hf hmx bp.1 bp.2 bq.1 bq.2).mono fun e W' ⟨he, bel⟩ => ?_
  subst he
  exact ⟨_, rfl, _, _, _, [], _, [], hW', trodAll_mk1 (shut_bool Try.underlying4 _), (trodAll_cons_mk (Below.trod laidOut (by kernel_rfl) (of_decide_eq_true (by kernel_rfl)) k0 bel lt0) (trodAll_cons_mk (Below.trod laidOut (by kernel_rfl) (of_decide_eq_true (by kernel_rfl)) k1 bel lt1) trodAll_mk0)), rfl, bel.frame _, fun h => by cases h⟩

theorem over : Rows.fnExactSpanSizeRow.holds Try.pinned (OpenSpec.ofChange Rows.fnExactSpanSizeSpec) :=
  OpenClaim.holds_of_wide 4 Try.f4 rfl rfl rfl rfl rfl rfl rfl ⟨rfl, rfl, rfl, rfl, rfl⟩ rfl rfl rfl rfl rfl (by kernel_rfl) Try.func4 (by kernel_rfl)
    (of_decide_eq_true (by kernel_rfl)) (by unfold Func.isWrapper; first | (rw [if_pos (by decide +kernel)]; kernel_rfl) | (rw [if_neg (by decide +kernel)]; exact ⟨rfl, rfl⟩))
    (fun os started H enc _ => lifted os started H enc)

theorem proved : Rows.FnExactSpanSizeSaid := over
end Go.Proofs.Ytgjcdejiolenkaa.fnExactSpanSize
namespace Go.Proofs.Ytgjcdejiolenkaa
theorem fnExactSpanSize_holds : Rows.FnExactSpanSizeSaid := fnExactSpanSize.proved
end Go.Proofs.Ytgjcdejiolenkaa
#print axioms Go.Proofs.Ytgjcdejiolenkaa.fnExactSpanSize_holds
