import Derived.Test.YtlagaiekoahjnaaRows
import Derived.Test.YtlagaiekoahjnaaPlanLaw
import Derived.Test.YtlagaiekoahjnaaOpens
import Derived.Test.YtlagaiekoahjnaaOpen12
import Derived.Test.YtlagaiekoahjnaaViewOpen
import Derived.Test.YtlagaiekoahjnaaMapOpen
namespace Go.Proofs.Ytlagaiekoahjnaa.fnExactPlanSend
open Go.ChangeShapes Go.WideShapes Go.ChangeAt Go.RowKit Go.Deep Go.Joins
set_option linter.unusedVariables false

theorem own : ownKnob Try.prog.godebug = none := by kernel_rfl
theorem laidOut : laidOutB Try.prog = true := by kernel_rfl
theorem cellsIn : Try.prog.cellsOf 61 = 12 := by kernel_rfl
theorem cellsView : Try.prog.cellsOf 83 = 3 := by kernel_rfl
theorem cellsMap : Try.prog.cellsOf 71 = 5 := by kernel_rfl
theorem cellsWord : Try.prog.cellsOf 23 = 1 := by kernel_rfl
theorem cellsInt : Try.prog.cellsOf 2 = 1 := by kernel_rfl

set_option maxRecDepth 100000 in
theorem lifted (os : Os) (started : os.Started) (H : Type) (enc : TypeId × Value → H) :
    ReturnsInHanded {} Try.checked os 7 .any (Rows.fnExactPlanSendSpec.pre6 enc Try.prog Try.f7 Rows.fnExactPlanSendRow.domain false) (Rows.fnExactPlanSendSpec.post enc Try.prog Try.f7 false true false false) := by
  refine returnsInHanded_of_change (C := Try.checked) own started (by kernel_rfl) Try.func7
    (ChangeSpec.witness6 (enc := enc) (C := Try.checked) false ⟨#[], #[.agg #[.int .i64 0, .int .i64 0, .slice none 0 0, .slice none 0 0, .slice none 0 0, .int .i64 0, .int .u64 0, .int .u64 0, .int .u64 0, .int .i64 0, .int .i64 0, .int .i64 0]], []⟩ 8 (by kernel_rfl) (by kernel_rfl) (by kernel_rfl) (by kernel_rfl)) ?_
  intro W base args ds gs before hval0 hW hcnd _
  have hval : ∀ (j : Nat) t v, Try.f7.params[j]? = some t → args[j]? = some v → Value.okWide Try.prog W .any base t v := hval0
  have hW' := hW
  obtain ⟨p, q, hA0, hV, rfl, hfz, hnd⟩ := hW
  have hA : DataW.TrodAll enc Try.prog W 0 (fun _ => true) true Try.f7.params.toList args.toList ds p := hA0
  rw [Try.params7] at hA hval
  obtain ⟨v0, vs0, d0, ds0, p0, q0, hargs, rfl, rfl, h0, r0⟩ := trodAll_cons hA
  obtain ⟨rfl, rfl, rfl⟩ := trodAll_nil r0
  obtain rfl : args = #[v0] := by cases args; simp_all
  obtain ⟨rfl, rfl⟩ := trodVars_none hV
  have k0 := h0
  have lt0 : ∀ x ∈ p0, x.block < W.heap.size := by obtain ⟨m, hm⟩ := k0; exact DataW.trod_lt m _ _ _ hm
  obtain ⟨c0, c1, c2, c3, c4, c5, c6, c7, c8, c9, c10, c11, y0, y1, y2, y3, y4, y5, y6, y7, y8, y9, y10, y11, m, rfl, g0, g1, g2, g3, g4, g5, g6, g7, g8, g9, g10, g11⟩ := openAgg12 Try.underlying61 (by kernel_rfl) cellsIn (hval 0 61 v0 rfl rfl) h0
  obtain ⟨n0, e0, _, w0⟩ := DataW.trod_int Try.underlying2 g0
  obtain ⟨n1, e1, _, w1⟩ := DataW.trod_int Try.underlying2 g1
  obtain ⟨n5, e5, _, w5⟩ := DataW.trod_int Try.underlying2 g5
  obtain ⟨n6, e6, _, w6⟩ := DataW.trod_int Try.underlying23 g6
  obtain ⟨n7, e7, _, w7⟩ := DataW.trod_int Try.underlying23 g7
  obtain ⟨n8, e8, _, w8⟩ := DataW.trod_int Try.underlying23 g8
  obtain ⟨n9, e9, _, w9⟩ := DataW.trod_int Try.underlying2 g9
  obtain ⟨n10, e10, _, w10⟩ := DataW.trod_int Try.underlying2 g10
  obtain ⟨n11, e11, _, w11⟩ := DataW.trod_int Try.underlying2 g11
  obtain ⟨pa, pk, pc, rfl, hpk, _, hpm, _⟩ := intsCame Try.underlying36 Try.underlying2 cellsInt g2
  obtain ⟨va, V, vc, rfl, hv, hfV, hvm, _⟩ := cameV Try.underlying34 Try.underlying83 cellsView rfl rfl rfl cellsInt cellsInt cellsInt Try.underlying2 Try.underlying2 Try.underlying2 g3
  obtain ⟨ma, S, mc, rfl, hs, hfS, hms, _⟩ := cameM Try.underlying22 Try.underlying71 cellsMap rfl rfl rfl rfl rfl cellsWord cellsInt cellsInt cellsInt cellsInt Try.underlying23 Try.underlying2 Try.underlying2 Try.underlying2 Try.underlying2 g4
  simp at e0 e1 e5 e6 e7 e8 e9 e10 e11
  subst e0 e1 e5 e6 e7 e8 e9 e10 e11
  clear hA0 hval0
  refine (lawPlan n0 n1 pa pk pc va V vc ma S mc n5 n6 n7 n8 n9 n10 n11 W hpk hv hs hfV hfS hpm hvm hms (bounds_u64 w6).1 (bounds_u64 w7).1 (bounds_u64 w8).1).mono fun e W' ⟨he, bel⟩ => ?_
  subst he
  exact ⟨_, rfl, _, _, _, [], _, [], hW', trodAll_mk1 (shut_bool Try.underlying4 _), (trodAll_cons_mk (Below.trod laidOut (by kernel_rfl) (of_decide_eq_true (by kernel_rfl)) k0 bel lt0) trodAll_mk0), rfl, bel.frame _, fun h => by cases h⟩

theorem over : Rows.fnExactPlanSendRow.holds Try.pinned (OpenSpec.ofChange Rows.fnExactPlanSendSpec) :=
  OpenClaim.holds_of_wide 7 Try.f7 rfl rfl rfl rfl rfl rfl rfl ⟨rfl, rfl, rfl, rfl, rfl⟩ rfl rfl rfl rfl rfl (by kernel_rfl) Try.func7 (by kernel_rfl)
    (of_decide_eq_true (by kernel_rfl)) (by unfold Func.isWrapper; first | (rw [if_pos (by decide +kernel)]; kernel_rfl) | (rw [if_neg (by decide +kernel)]; exact ⟨rfl, rfl⟩))
    (fun os started H enc _ => lifted os started H enc)

theorem proved : Rows.FnExactPlanSendSaid := over
end Go.Proofs.Ytlagaiekoahjnaa.fnExactPlanSend
namespace Go.Proofs.Ytlagaiekoahjnaa
theorem fnExactPlanSend_holds : Rows.FnExactPlanSendSaid := fnExactPlanSend.proved
end Go.Proofs.Ytlagaiekoahjnaa
#print axioms Go.Proofs.Ytlagaiekoahjnaa.fnExactPlanSend_holds
