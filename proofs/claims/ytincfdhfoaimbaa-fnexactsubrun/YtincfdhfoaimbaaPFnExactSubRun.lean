import Derived.Test.YtincfdhfoaimbaaRows
import Derived.Test.YtincfdhfoaimbaaRunLaw
import Derived.Test.YtincfdhfoaimbaaOpen6
import Derived.Test.YtincfdhfoaimbaaSubOpen
namespace Go.Proofs.Ytincfdhfoaimbaa.fnExactSubRun
open Go.ChangeShapes Go.WideShapes Go.ChangeAt Go.RowKit Go.Deep Go.Joins
set_option linter.unusedVariables false

theorem own : ownKnob Try.prog.godebug = none := by kernel_rfl
theorem laidOut : laidOutB Try.prog = true := by kernel_rfl
theorem cellsConfig : Try.prog.cellsOf 59 = 6 := by kernel_rfl
theorem cellsEvent : Try.prog.cellsOf 96 = 3 := by kernel_rfl
theorem cellsInt : Try.prog.cellsOf 2 = 1 := by kernel_rfl
theorem cellsWord : Try.prog.cellsOf 22 = 1 := by kernel_rfl

set_option maxRecDepth 100000 in
theorem lifted (os : Os) (started : os.Started) (H : Type) (enc : TypeId × Value → H) :
    ReturnsInHanded {} Try.checked os 7 .any (Rows.fnExactSubRunSpec.pre6 enc Try.prog Try.f7 Rows.fnExactSubRunRow.domain false) (Rows.fnExactSubRunSpec.post enc Try.prog Try.f7 false true false false) := by
  refine returnsInHanded_of_change (C := Try.checked) own started (by kernel_rfl) Try.func7
    (ChangeSpec.witness6 (enc := enc) (C := Try.checked) false ⟨#[], #[.agg #[.int .u32 0, .int .i64 0, .int .i64 0, .int .i64 0, .int .i64 0, .int .i64 0], .slice none 0 0], []⟩ 8 (by kernel_rfl) (by kernel_rfl) (by kernel_rfl) (by kernel_rfl)) ?_
  intro W base args ds gs before hval0 hW hcnd _
  have hval : ∀ (j : Nat) t v, Try.f7.params[j]? = some t → args[j]? = some v → Value.okWide Try.prog W .any base t v := hval0
  have hW' := hW
  obtain ⟨p, q, hA0, hV, rfl, hfz, hnd⟩ := hW
  have hA : DataW.TrodAll enc Try.prog W 0 (fun _ => true) true Try.f7.params.toList args.toList ds p := hA0
  rw [Try.params7] at hA hval
  obtain ⟨v0, vs0, d0, ds0, p0, q0, hargs, rfl, rfl, h0, r0⟩ := trodAll_cons hA
  obtain ⟨v1, vs1, d1, ds1, p1, q1, rfl, rfl, rfl, h1, r1⟩ := trodAll_cons r0
  obtain ⟨rfl, rfl, rfl⟩ := trodAll_nil r1
  obtain rfl : args = #[v0, v1] := by cases args; simp_all
  obtain ⟨rfl, rfl⟩ := trodVars_none hV
  have k0 := h0
  have lt0 : ∀ x ∈ p0, x.block < W.heap.size := by obtain ⟨m, hm⟩ := k0; exact DataW.trod_lt m _ _ _ hm
  have k1 := h1
  have lt1 : ∀ x ∈ p1, x.block < W.heap.size := by obtain ⟨m, hm⟩ := k1; exact DataW.trod_lt m _ _ _ hm
  obtain ⟨c0, c1, c2, c3, c4, c5, y0, y1, y2, y3, y4, y5, m, rfl, g0, g1, g2, g3, g4, g5⟩ := openAgg6 Try.underlying59 (by kernel_rfl) cellsConfig (hval 0 59 v0 rfl rfl) h0
  obtain ⟨n0, e0, _, w0⟩ := DataW.trod_int Try.underlying22 g0
  obtain ⟨n1, e1, _, w1⟩ := DataW.trod_int Try.underlying2 g1
  obtain ⟨n2, e2, _, w2⟩ := DataW.trod_int Try.underlying2 g2
  obtain ⟨n3, e3, _, w3⟩ := DataW.trod_int Try.underlying2 g3
  obtain ⟨n4, e4, _, w4⟩ := DataW.trod_int Try.underlying2 g4
  obtain ⟨n5, e5, _, w5⟩ := DataW.trod_int Try.underlying2 g5
  simp at e0 e1 e2 e3 e4 e5
  subst e0 e1 e2 e3 e4 e5
  obtain ⟨a', len', cap', rfl⟩ := okWide_slice Try.underlying60 (hval 1 60 v1 rfl rfl)
  obtain ⟨fuel, hfu⟩ := h1
  obtain ⟨a, S, cap, hv, hz, hfit, hm⟩ := came3 Try.underlying60 Try.underlying96 cellsEvent rfl rfl rfl cellsInt cellsInt cellsWord Try.underlying2 Try.underlying2 Try.underlying22 (v := .slice a' len' cap') (by simpa [Value.cells] using hfu)
  rw [hv] at k1 hval hW' ⊢
  clear hA0 hval0
  refine (lawRun ⟨n0, n1, n2, n3, n4, n5⟩ a S S.length cap W rfl (bounds_u32 w0) hfit hz hm).mono fun e W' ⟨he, bel⟩ => ?_
  subst he
  exact ⟨_, rfl, _, _, _, [], _, [], hW', trodAll_mk1 (shut_bool Try.underlying4 _), (trodAll_cons_mk (Below.trod laidOut (by kernel_rfl) (of_decide_eq_true (by kernel_rfl)) k0 bel lt0) (trodAll_cons_mk (Below.trod laidOut (by kernel_rfl) (of_decide_eq_true (by kernel_rfl)) k1 bel lt1) trodAll_mk0)), rfl, bel.frame _, fun h => by cases h⟩

theorem over : Rows.fnExactSubRunRow.holds Try.pinned (OpenSpec.ofChange Rows.fnExactSubRunSpec) :=
  OpenClaim.holds_of_wide 7 Try.f7 rfl rfl rfl rfl rfl rfl rfl ⟨rfl, rfl, rfl, rfl, rfl⟩ rfl rfl rfl rfl rfl (by kernel_rfl) Try.func7 (by kernel_rfl)
    (of_decide_eq_true (by kernel_rfl)) (by unfold Func.isWrapper; first | (rw [if_pos (by decide +kernel)]; kernel_rfl) | (rw [if_neg (by decide +kernel)]; exact ⟨rfl, rfl⟩))
    (fun os started H enc _ => lifted os started H enc)

theorem proved : Rows.FnExactSubRunSaid := over
end Go.Proofs.Ytincfdhfoaimbaa.fnExactSubRun
namespace Go.Proofs.Ytincfdhfoaimbaa
theorem fnExactSubRun_holds : Rows.FnExactSubRunSaid := fnExactSubRun.proved
end Go.Proofs.Ytincfdhfoaimbaa
#print axioms Go.Proofs.Ytincfdhfoaimbaa.fnExactSubRun_holds
