import Derived.Test.YtlagaiekoahjnaaPickLaw
namespace Go.Proofs.Ytlagaiekoahjnaa
open Go.ChangeShapes Go.WideShapes Go.ChangeAt Go.RowKit
set_option linter.unusedVariables false

theorem specChoice_b (p t k : Int) (V : Vws) (B : Nat) (hf : FitsV V) (hV : ValidV V) (hl : V.length ≤ 8) (hB : B < 256) (t0 : 0 ≤ t) (t1 : t < V.length) (hp : ¬ p = 3) (hne : elig V B V.length ≠ []) (b0 : Nat) (hb0 : IsMin (rkS p t k V) (elig V B V.length) b0) :
    GivesC 48 p t k V B [b0] (if p = 1 then ((b0 : Int) + 1) % V.length else t) := by
  intro a cap w hS hc hm hnone
  refine (specChoice_one p t k V B hf hV hl hB t0 t1 hp hne a cap w hS hc hm hnone).mono fun e w' h => ?_
  obtain ⟨av, cp, b, hmin, he, ho, hb⟩ := h
  obtain rfl : b = b0 := IsMin.unique (fun i hi => elig_lt hi) (rkS_inj t0 t1) hmin hb0
  exact ⟨av, cp, he, ho, hb⟩

theorem choice_of (p : Int) (F : Nat) (tr : Bool) (r : Vws → Int → Int → Nat → Int) (t k : Int) (V : Vws) (b : Nat) (hf : FitsV V) (hp : 1 ≤ p ∧ p ≤ 4) (htr : tr = decide (p = 1)) (hv : (1 ≤ V.length ∧ V.length ≤ 8) ∧ ValidV V) (ht : 0 ≤ t ∧ t < V.length) (hb : b < 256)
    (himpl : ∀ T tn c, (∀ a cap, PickAt p F tr t k V a cap (b : Int) T tn c) → GivesP 20 p t k V (b : Int) T tn c)
    (hC : ∀ a cap, Chooses F (r V t k) t k V a cap b)
    (hone : ∀ (b0 : Nat) ch x, ¬ p = 3 → Best (r V t k) (elig V b V.length) ch x → IsMin (rkS p t k V) (elig V b V.length) b0 → ch = [b0])
    (hall : p = 3 → ∀ l ch x, Best (r V t k) l ch x → ch = l) :
    ∃ (l : List Nat) (tn : Int), l.length ≤ 8 ∧ GivesC 48 p t k V b l tn ∧ GivesP 20 p t k V (b : Int) (nums l) tn 0 := by
  have hel := elig_length V b V.length
  have turn0 : ∀ ch, ¬ p = 1 → turnOf tr t V.length ch = t := by
    intro ch h1
    unfold turnOf
    rw [if_neg]
    rw [htr]
    simp [h1]
  by_cases h3 : p = 3
  · exact ⟨_, _, by omega, specChoice_all p t k V b hf hv.1.2 hb (.inl h3), himpl _ _ _ fun a cap => pickAt_ok p F tr (r V t k) t k V b hf hv ht hb a cap (hC a cap) _ _ fun ch x hbst => ⟨hall h3 _ _ _ hbst, turn0 ch (by omega)⟩⟩
  · by_cases hne : elig V b V.length = []
    · refine ⟨_, _, by omega, specChoice_all p t k V b hf hv.1.2 hb (.inr hne), himpl _ _ _ fun a cap => pickAt_ok p F tr (r V t k) t k V b hf hv ht hb a cap (hC a cap) _ _ fun ch x hbst => ?_⟩
      have hc : ch = [] := hbst.nil.2 hne
      refine ⟨by rw [hc, hne], ?_⟩
      unfold turnOf
      rw [if_neg (by simp [hc])]
    · obtain ⟨b0, hb0⟩ := IsMin.exists (rkS p t k V) hne
      refine ⟨[b0], _, by simp, specChoice_b p t k V b hf hv.2 hv.1.2 hb ht.1 ht.2 h3 hne b0 hb0, himpl _ _ _ fun a cap => ?_⟩
      refine pickAt_ok p F tr (r V t k) t k V b hf hv ht hb a cap (hC a cap) [b0] (if p = 1 then ((b0 : Int) + 1) % V.length else t) fun ch x hbst => ?_
      have hc := hone b0 ch x h3 hbst hb0
      refine ⟨hc, ?_⟩
      by_cases h1 : p = 1
      · rw [if_pos h1, hc]
        unfold turnOf
        rw [if_pos (by rw [htr]; simp [h1])]
        rfl
      · rw [if_neg h1]
        exact turn0 ch h1

theorem bothChoice (p t k : Int) (V : Vws) (b : Nat) (hf : FitsV V) (hp : 1 ≤ p ∧ p ≤ 4) (hv : (1 ≤ V.length ∧ V.length ≤ 8) ∧ ValidV V) (ht : 0 ≤ t ∧ t < V.length) (hb : b < 256) :
    ∃ (l : List Nat) (tn : Int), l.length ≤ 8 ∧ GivesC 48 p t k V b l tn ∧ GivesP 20 p t k V (b : Int) (nums l) tn 0 := by
  rcases (show p = 1 ∨ p = 2 ∨ p = 3 ∨ p = 4 by omega) with rfl | rfl | rfl | rfl
  · refine choice_of 1 _ true (fun V t k => rkRound t V.length) t k V b hf hp (by simp) hv ht hb (implPick_1 t k V b) (fun a cap => choose_round _ t k V a cap b hf hv.1.2 hb (rankRound t k V a cap b hv.1.2 ht.1 ht.2)) ?_ (fun h => by omega)
    intro b0 ch x _ hbst hmin
    exact hbst.one (elig_nodup V b _) (fun i hi => elig_lt hi) (rkRound_inj ht.1 ht.2) (fun i j _ _ => by simp [rkS]) hmin
  · refine choice_of 2 _ false (fun V t k => rkBack V 8) t k V b hf hp (by simp) hv ht hb (implPick_2 t k V b) (fun a cap => choose_back _ t k V a cap b hf hv.1.2 hb (rankBack t k V a cap b hf hv.2 hv.1.2)) ?_ (fun h => by omega)
    intro b0 ch x _ hbst hmin
    exact hbst.one (elig_nodup V b _) (fun i hi => elig_lt hi) (rkBack_inj (m := 8) hv.1.2) (fun i j hi hj => by simpa [rkS] using rkBack_ord (m := V.length) (m' := 8) (Nat.le_refl _) hv.1.2 i j hi hj) hmin
  · exact choice_of 3 _ false (fun V t k => fun _ => 0) t k V b hf hp (by simp) hv ht hb (implPick_3 t k V b) (fun a cap => choose_all _ t k V a cap b hf hv.1.2 hb (rankAll t k V a cap b)) (fun _ _ _ h => absurd rfl h) (fun _ l ch x h => h.all)
  · refine choice_of 4 _ false (fun V t k => rkPick k) t k V b hf hp (by simp) hv ht hb (implPick_4 t k V b) (fun a cap => choose_script _ t k V a cap b hf hv.1.2 hb (rankScript t k V a cap b)) ?_ (fun h => by omega)
    intro b0 ch x _ hbst hmin
    exact hbst.one (elig_nodup V b _) (fun i hi => elig_lt hi) (fun i j _ _ => rkPick_inj k i j) (fun i j _ _ => by simp [rkS]) hmin
end Go.Proofs.Ytlagaiekoahjnaa
