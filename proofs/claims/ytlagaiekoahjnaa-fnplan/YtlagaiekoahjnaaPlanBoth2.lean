import Derived.Test.YtlagaiekoahjnaaPlanBoth
import Derived.Test.YtlagaiekoahjnaaPlanChoice2
namespace Go.Proofs.Ytlagaiekoahjnaa
open Go.ChangeShapes Go.WideShapes Go.ChangeAt Go.RowKit
set_option linter.unusedVariables false

/-- What is known of a plan. -/
def PlanOk (pol tur : Int) (pk : List Int) (V : Vws) (S : Mps) (mx mp wt ed cl fm pl : Int) (kd pcx of ln : Int) (T : List Int) (tn c : Int) : Prop :=
  (c ≠ 0 ∧ kd = 0 ∧ T = []) ∨ (c = 0 ∧ (1 ≤ pol ∧ pol ≤ 4) ∧ ((1 ≤ V.length ∧ V.length ≤ 8) ∧ ValidV V) ∧ (0 ≤ tur ∧ tur < V.length) ∧ OkR tur V.length pk.length mx mp wt ed cl fm pl ∧ ((S.length ≤ 256 ∧ Valid S) ∧ (S.length : Int) ≤ mx) ∧
    ∃ br : Nat, br < 256 ∧ NextIs S V mx mp wt ed cl fm pl kd pcx of ln br ∧ ((kd = 0 ∧ T = []) ∨ (kd ≠ 0 ∧ ∃ l : List Nat, T = nums l ∧ Chosen pol V br l ∧ elig V br V.length ≠ [] ∧ GivesP 20 pol tur (pk.getD 0 0) V (br : Int) (nums l) tn 0)))

set_option maxHeartbeats 1000000 in
theorem bothPlan2 (pol tur : Int) (pk : List Int) (V : Vws) (S : Mps) (mx mp wt ed cl fm pl : Int) (hfV : FitsV V) (hfS : FitsM S) (hvm : V.length ≤ 9223372036854775807) (hpm : pk.length ≤ 9223372036854775807) (hms : S.length ≤ 9223372036854775807) (m0 : 0 ≤ mp) (w0 : 0 ≤ wt) (e0 : 0 ≤ ed) :
    ∃ (kd pcx of ln : Int) (T : List Int) (tn us c : Int), T.length ≤ 8 ∧ PlanOk pol tur pk V S mx mp wt ed cl fm pl kd pcx of ln T tn c ∧ GivesB 27 pol tur pk V S mx mp wt ed cl fm pl kd pcx of ln T tn us c ∧ GivesB 28 pol tur pk V S mx mp wt ed cl fm pl kd pcx of ln T tn us c := by
  by_cases hp : 1 ≤ pol ∧ pol ≤ 4
  · by_cases hv : (1 ≤ V.length ∧ V.length ≤ 8) ∧ ValidV V
    · by_cases ht : 0 ≤ tur ∧ tur < V.length
      · obtain ⟨l0, tn0, _, _, _, hG0⟩ := bothChoice2 pol tur (pk.getD 0 0) V 0 hfV hp hv ht (by omega)
        by_cases hr : OkR tur V.length pk.length mx mp wt ed cl fm pl
        · by_cases hM : (S.length ≤ 256 ∧ Valid S) ∧ (S.length : Int) ≤ mx
          · have hr' := hr
            obtain ⟨_, _, ⟨l1, l2⟩, _, _, w1, e1, _⟩ := hr'
            have code := fun pa pc va vc ma mc => (codeM pol tur pa pk pc va V vc ma S mc mx mp wt ed cl fm pl hfV hfS hms hp hv hr).2 hM
            obtain ⟨kd, pcx, of, ln, br, hN⟩ := next_exists hM.1.2 V mx mp wt ed cl fm pl
            have hN' := hN
            rcases hN.is with ⟨i, hi, c2, c4, hn, hC, hq, hno, rfl, rfl⟩ | ⟨hno, hx, he, h1, h2, rfl, rfl, rfl, rfl, rfl⟩ | ⟨hno, hx, he, h, h1, h2, h3, rfl, rfl, rfl, rfl, rfl⟩ | ⟨hno, h, rfl, rfl, rfl, rfl, rfl⟩
            · obtain ⟨l, tn, hch, h8, hC1, hG2⟩ := bothChoice2 pol tur (pk.getD 0 0) V br hfV hp hv ht hC
              refine ⟨1, (i : Int), of, ln, nums l, tn, (if pol = 4 ∧ pk ≠ [] then 1 else 0), 0, by rw [nums_length]; exact h8, .inr ⟨rfl, hp, hv, ht, hr, hM, _, hC, hN', .inr ⟨by omega, l, rfl, hch, by rw [qual_at hi hn] at hq; simp at hq; exact hq.2, hG2⟩⟩, ?_, ?_⟩
              · intro pa pc va vc ma mc a b c
                exact specSend_ok pol tur pa pk pc va V vc ma S mc mx mp wt ed cl fm pl _ _ _ _ _ _ _ (code _ _ _ _ _ _) (spec_again pol tur pa pk pc va V vc ma S mc mx mp wt ed cl fm pl a b c hfV hv.1.2 hfS hM.1.2 hM.1.1 i hi of ln c2 c4 br hn hC hq hno l tn _ hC1 rfl)
              · intro pa pc va vc ma mc a b c
                exact top_some pol tur pa pk pc va V vc ma S mc mx mp wt ed cl fm pl a b c hpm _ tn0 hG0 hfV hv.1.2 hfS hms m0 w0 e0 hr hM _ _ _ _ _ (by omega) hN' _ tn _ hG2 rfl
            · obtain ⟨l, tn, hch, h8, hC1, hG2⟩ := bothChoice2 pol tur (pk.getD 0 0) V 0 hfV hp hv ht (by omega)
              refine ⟨2, 0, mp, min pl (min (wt - mp) (ed - mp)), nums l, tn, (if pol = 4 ∧ pk ≠ [] then 1 else 0), 0, by rw [nums_length]; exact h8, .inr ⟨rfl, hp, hv, ht, hr, hM, _, by omega, hN', .inr ⟨by omega, l, rfl, hch, he, hG2⟩⟩, ?_, ?_⟩
              · intro pa pc va vc ma mc a b c
                exact specSend_ok pol tur pa pk pc va V vc ma S mc mx mp wt ed cl fm pl _ _ _ _ _ _ _ (code _ _ _ _ _ _) (spec_data pol tur pa pk pc va V vc ma S mc mx mp wt ed cl fm pl a b c hfV hv.1.2 hfS hM.1.2 hM.1.1 hno hx he h1 h2 m0 w1 e1 l1 l2 _ rfl l tn _ hC1 rfl)
              · intro pa pc va vc ma mc a b c
                exact top_some pol tur pa pk pc va V vc ma S mc mx mp wt ed cl fm pl a b c hpm _ tn0 hG0 hfV hv.1.2 hfS hms m0 w0 e0 hr hM _ _ _ _ _ (by omega) hN' _ tn _ hG2 rfl
            · obtain ⟨l, tn, hch, h8, hC1, hG2⟩ := bothChoice2 pol tur (pk.getD 0 0) V 0 hfV hp hv ht (by omega)
              refine ⟨3, 0, wt, 0, nums l, tn, (if pol = 4 ∧ pk ≠ [] then 1 else 0), 0, by rw [nums_length]; exact h8, .inr ⟨rfl, hp, hv, ht, hr, hM, _, by omega, hN', .inr ⟨by omega, l, rfl, hch, he, hG2⟩⟩, ?_, ?_⟩
              · intro pa pc va vc ma mc a b c
                exact specSend_ok pol tur pa pk pc va V vc ma S mc mx mp wt ed cl fm pl _ _ _ _ _ _ _ (code _ _ _ _ _ _) (spec_fin pol tur pa pk pc va V vc ma S mc mx mp wt ed cl fm pl a b c hfV hv.1.2 hfS hM.1.2 hM.1.1 hno hx he h h1 h2 h3 l tn _ hC1 rfl)
              · intro pa pc va vc ma mc a b c
                exact top_some pol tur pa pk pc va V vc ma S mc mx mp wt ed cl fm pl a b c hpm _ tn0 hG0 hfV hv.1.2 hfS hms m0 w0 e0 hr hM _ _ _ _ _ (by omega) hN' _ tn _ hG2 rfl
            · refine ⟨0, 0, 0, 0, [], tur, 0, 0, by simp, .inr ⟨rfl, hp, hv, ht, hr, hM, _, by omega, hN', .inl ⟨rfl, rfl⟩⟩, ?_, ?_⟩
              · intro pa pc va vc ma mc a b c
                exact specSend_ok pol tur pa pk pc va V vc ma S mc mx mp wt ed cl fm pl _ _ _ _ _ _ _ (code _ _ _ _ _ _) (spec_none pol tur pa pk pc va V vc ma S mc mx mp wt ed cl fm pl a b c hfV hv.1.2 hfS hM.1.2 hM.1.1 hno h)
              · intro pa pc va vc ma mc a b c
                exact top_none pol tur pa pk pc va V vc ma S mc mx mp wt ed cl fm pl a b c hpm _ tn0 hG0 hfV hv.1.2 hfS hms m0 w0 e0 hr hM hN'
          · exact ⟨0, 0, 0, 0, [], 0, 0, 1, by simp, .inl ⟨by omega, rfl, rfl⟩, fun pa pc va vc ma mc a b c => specSend_code pol tur pa pk pc va V vc ma S mc mx mp wt ed cl fm pl 1 (by omega) ((codeM pol tur pa pk pc va V vc ma S mc mx mp wt ed cl fm pl hfV hfS hms hp hv hr).1 hM), fun pa pc va vc ma mc a b c => top_maps pol tur pa pk pc va V vc ma S mc mx mp wt ed cl fm pl a b c hpm _ tn0 hG0 hfS hms hr hM⟩
        · exact ⟨0, 0, 0, 0, [], 0, 0, 4, by simp, .inl ⟨by omega, rfl, rfl⟩, fun pa pc va vc ma mc a b c => specSend_code pol tur pa pk pc va V vc ma S mc mx mp wt ed cl fm pl 4 (by omega) (code4 pol tur pa pk pc va V vc ma S mc mx mp wt ed cl fm pl hfV hpm hp hv hr), fun pa pc va vc ma mc a b c => top_range pol tur pa pk pc va V vc ma S mc mx mp wt ed cl fm pl a b c hpm _ tn0 hG0 ht hr⟩
      · have hr : ¬ OkR tur V.length pk.length mx mp wt ed cl fm pl := fun h => ht h.1
        have hG0 : GivesP 20 pol tur (pk.getD 0 0) V 0 [] 0 4 := implPick_any pol tur (pk.getD 0 0) V 0 [] 0 4 hp fun nm F tr a cap => pickAt_range nm F tr tur (pk.getD 0 0) V 0 hfV hv (fun h => ht h.1) a cap
        exact ⟨0, 0, 0, 0, [], 0, 0, 4, by simp, .inl ⟨by omega, rfl, rfl⟩, fun pa pc va vc ma mc a b c => specSend_code pol tur pa pk pc va V vc ma S mc mx mp wt ed cl fm pl 4 (by omega) (code4 pol tur pa pk pc va V vc ma S mc mx mp wt ed cl fm pl hfV hpm hp hv hr), fun pa pc va vc ma mc a b c => top_first pol tur pa pk pc va V vc ma S mc mx mp wt ed cl fm pl a b c hpm _ _ 4 hG0 (by omega)⟩
    · have hG0 : GivesP 20 pol tur (pk.getD 0 0) V 0 [] 0 6 := implPick_any pol tur (pk.getD 0 0) V 0 [] 0 6 hp fun nm F tr a cap => pickAt_path nm F tr tur (pk.getD 0 0) V 0 hfV hvm hv a cap
      exact ⟨0, 0, 0, 0, [], 0, 0, 6, by simp, .inl ⟨by omega, rfl, rfl⟩, fun pa pc va vc ma mc a b c => specSend_code pol tur pa pk pc va V vc ma S mc mx mp wt ed cl fm pl 6 (by omega) (code6 pol tur pa pk pc va V vc ma S mc mx mp wt ed cl fm pl hfV hvm hp hv), fun pa pc va vc ma mc a b c => top_first pol tur pa pk pc va V vc ma S mc mx mp wt ed cl fm pl a b c hpm _ _ 6 hG0 (by omega)⟩
  · exact ⟨0, 0, 0, 0, [], 0, 0, 17, by simp, .inl ⟨by omega, rfl, rfl⟩, fun pa pc va vc ma mc a b c => specSend_code pol tur pa pk pc va V vc ma S mc mx mp wt ed cl fm pl 17 (by omega) (code17 pol tur pa pk pc va V vc ma S mc mx mp wt ed cl fm pl hp), fun pa pc va vc ma mc a b c => top_first pol tur pa pk pc va V vc ma S mc mx mp wt ed cl fm pl a b c hpm _ _ 17 (implPick_cfg pol tur (pk.getD 0 0) V 0 hp) (by omega)⟩
end Go.Proofs.Ytlagaiekoahjnaa
