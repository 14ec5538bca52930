import Derived.Test.YtlagaiekoahjnaaPickTop2
namespace Go.Proofs.Ytlagaiekoahjnaa
open Go.ChangeShapes Go.WideShapes Go.ChangeAt Go.RowKit
set_option linter.unusedVariables false

theorem pickAt_path (nm : Int) (F : Nat) (tr : Bool) (t k : Int) (V : Vws) (B : Int) (hf : FitsV V) (hm : V.length ≤ 9223372036854775807) (h : ¬ ((1 ≤ V.length ∧ V.length ≤ 8) ∧ ValidV V)) (a : Option Addr) (cap : Nat) : PickAt nm F tr t k V a cap B [] 0 6 := by
  intro w hS
  refine (pick_path nm F tr t k V a cap B w hS hf hm h).mono fun e w' h => ?_
  exact ⟨none, 0, h.1, World.ownsRow_nil _ _ _ _, h.2⟩
theorem pickAt_range (nm : Int) (F : Nat) (tr : Bool) (t k : Int) (V : Vws) (B : Int) (hf : FitsV V) (hv : (1 ≤ V.length ∧ V.length ≤ 8) ∧ ValidV V) (h : ¬ ((0 ≤ t ∧ t < V.length) ∧ 0 ≤ B ∧ B ≤ 255)) (a : Option Addr) (cap : Nat) : PickAt nm F tr t k V a cap B [] 0 4 := by
  intro w hS
  refine (pick_range nm F tr t k V a cap B w hS hf hv h).mono fun e w' h => ?_
  exact ⟨none, 0, h.1, World.ownsRow_nil _ _ _ _, h.2⟩
theorem pickAt_ok (nm : Int) (F : Nat) (tr : Bool) (r : Nat → Int) (t k : Int) (V : Vws) (B : Nat) (hf : FitsV V) (hv : (1 ≤ V.length ∧ V.length ≤ 8) ∧ ValidV V) (ht : 0 ≤ t ∧ t < V.length) (hB : B < 256) (a : Option Addr) (cap : Nat) (hC : Chooses F r t k V a cap B) (l : List Nat) (tn : Int)
    (hch : ∀ ch x, Best r (elig V B V.length) ch x → ch = l ∧ turnOf tr t V.length ch = tn) : PickAt nm F tr t k V a cap (B : Int) (nums l) tn 0 := by
  intro w hS
  refine (pick_ok nm F tr r t k V a cap B w hS hf hv ht hB hC).mono fun e w' h => ?_
  obtain ⟨av, cp, ch, x, he, hb, ho, hbel⟩ := h
  obtain ⟨rfl, rfl⟩ := hch ch x hb
  exact ⟨av, cp, by rw [he, nums_length], by rw [nums_length]; exact ho, hbel⟩

/-- What both answer at a policy, given what its rule's function is. -/
theorem both_of (p : Int) (F : Nat) (tr : Bool) (r : Vws → Int → Int → Nat → Int) (t k : Int) (V : Vws) (B : Int) (hf : FitsV V) (hm : V.length ≤ 9223372036854775807) (hp : 1 ≤ p ∧ p ≤ 4) (htr : tr = decide (p = 1))
    (himpl : ∀ T tn c, (∀ a cap, PickAt p F tr t k V a cap B T tn c) → GivesP 20 p t k V B T tn c)
    (hC : (1 ≤ V.length ∧ V.length ≤ 8) ∧ ValidV V → 0 ≤ t → t < V.length → ∀ (b : Nat), b < 256 → ∀ a cap, Chooses F (r V t k) t k V a cap b)
    (hone : (1 ≤ V.length ∧ V.length ≤ 8) ∧ ValidV V → 0 ≤ t → t < V.length → ∀ (b b0 : Nat) ch x, ¬ p = 3 → Best (r V t k) (elig V b V.length) ch x → IsMin (rkS p t k V) (elig V b V.length) b0 → ch = [b0])
    (hall : p = 3 → ∀ l ch x, Best (r V t k) l ch x → ch = l) :
    ∃ (T : List Int) (tn c : Int), T.length ≤ 8 ∧ GivesP 18 p t k V B T tn c ∧ GivesP 20 p t k V B T tn c := by
  by_cases hv : (1 ≤ V.length ∧ V.length ≤ 8) ∧ ValidV V
  · by_cases hr : (0 ≤ t ∧ t < V.length) ∧ 0 ≤ B ∧ B ≤ 255
    · obtain ⟨ht, hB0, hB1⟩ := hr
      obtain ⟨b, rfl⟩ : ∃ b : Nat, B = b := ⟨B.toNat, by omega⟩
      have hb : b < 256 := by omega
      have hel := elig_length V b V.length
      have turn0 : ∀ ch, ¬ p = 1 → turnOf tr t V.length ch = t := by
        intro ch h1
        unfold turnOf
        rw [if_neg]
        rw [htr]
        simp [h1]
      by_cases h3 : p = 3
      · refine ⟨_, _, _, ?_, specPick_all p t k V b hf hp hv ht hb (.inl h3), himpl _ _ _ fun a cap => pickAt_ok p F tr (r V t k) t k V b hf hv ht hb a cap (hC hv ht.1 ht.2 b hb a cap) _ _ fun ch x hbst => ⟨hall h3 _ _ _ hbst, turn0 ch (by omega)⟩⟩
        rw [nums_length]
        omega
      · by_cases hne : elig V b V.length = []
        · refine ⟨_, _, _, ?_, specPick_all p t k V b hf hp hv ht hb (.inr hne), himpl _ _ _ fun a cap => pickAt_ok p F tr (r V t k) t k V b hf hv ht hb a cap (hC hv ht.1 ht.2 b hb a cap) _ _ fun ch x hbst => ?_⟩
          · rw [nums_length]
            omega
          · have hc : ch = [] := hbst.nil.2 hne
            refine ⟨by rw [hc, hne], ?_⟩
            unfold turnOf
            rw [if_neg (by simp [hc])]
        · obtain ⟨b0, hb0⟩ := IsMin.exists (rkS p t k V) hne
          refine ⟨_, _, _, ?_, specPick_one p t k V b hf hp hv ht hb h3 hne b0 hb0, himpl _ _ _ fun a cap => ?_⟩
          · simp
          · have := pickAt_ok p F tr (r V t k) t k V b hf hv ht hb a cap (hC hv ht.1 ht.2 b hb a cap) [b0] (if p = 1 then ((b0 : Int) + 1) % V.length else t) fun ch x hbst => ?_
            · exact this
            · have hc := hone hv ht.1 ht.2 b b0 ch x h3 hbst hb0
              refine ⟨hc, ?_⟩
              by_cases h1 : p = 1
              · rw [if_pos h1, hc]
                unfold turnOf
                rw [if_pos (by rw [htr]; simp [h1])]
                rfl
              · rw [if_neg h1]
                exact turn0 ch h1
    · exact ⟨_, _, _, by simp, specPick_range p t k V B hf hp hv hr, himpl _ _ _ fun a cap => pickAt_range p F tr t k V B hf hv hr a cap⟩
  · exact ⟨_, _, _, by simp, specPick_path p t k V B hf hp hv, himpl _ _ _ fun a cap => pickAt_path p F tr t k V B hf hm hv a cap⟩

theorem bothPick (p t k : Int) (V : Vws) (B : Int) (hf : FitsV V) (hm : V.length ≤ 9223372036854775807) : ∃ (T : List Int) (tn c : Int), T.length ≤ 8 ∧ GivesP 18 p t k V B T tn c ∧ GivesP 20 p t k V B T tn c := by
  by_cases hp : 1 ≤ p ∧ p ≤ 4
  · rcases (show p = 1 ∨ p = 2 ∨ p = 3 ∨ p = 4 by omega) with rfl | rfl | rfl | rfl
    · refine both_of 1 _ true (fun V t k => rkRound t V.length) t k V B hf hm hp (by simp) (implPick_1 t k V B) (fun hv t0 t1 b hb a cap => choose_round _ t k V a cap b hf hv.1.2 hb (rankRound t k V a cap b hv.1.2 t0 t1)) ?_ (fun h => by omega)
      intro hv t0 t1 b b0 ch x _ hbst hmin
      exact hbst.one (elig_nodup V b _) (fun i hi => elig_lt hi) (rkRound_inj t0 t1) (fun i j _ _ => by simp [rkS]) hmin
    · refine both_of 2 _ false (fun V t k => rkBack V 8) t k V B hf hm hp (by simp) (implPick_2 t k V B) (fun hv t0 t1 b hb a cap => choose_back _ t k V a cap b hf hv.1.2 hb (rankBack t k V a cap b hf hv.2 hv.1.2)) ?_ (fun h => by omega)
      intro hv t0 t1 b b0 ch x _ hbst hmin
      exact hbst.one (elig_nodup V b _) (fun i hi => elig_lt hi) (rkBack_inj (m := 8) hv.1.2) (fun i j hi hj => by simpa [rkS] using rkBack_ord (m := V.length) (m' := 8) (Nat.le_refl _) hv.1.2 i j hi hj) hmin
    · refine both_of 3 _ false (fun V t k => fun _ => 0) t k V B hf hm hp (by simp) (implPick_3 t k V B) (fun hv t0 t1 b hb a cap => choose_all _ t k V a cap b hf hv.1.2 hb (rankAll t k V a cap b)) (fun _ _ _ _ _ _ _ h => absurd rfl h) (fun _ l ch x h => h.all)
    · refine both_of 4 _ false (fun V t k => rkPick k) t k V B hf hm hp (by simp) (implPick_4 t k V B) (fun hv t0 t1 b hb a cap => choose_script _ t k V a cap b hf hv.1.2 hb (rankScript t k V a cap b)) ?_ (fun h => by omega)
      intro hv t0 t1 b b0 ch x _ hbst hmin
      exact hbst.one (elig_nodup V b _) (fun i hi => elig_lt hi) (fun i j _ _ => rkPick_inj k i j) (fun i j _ _ => by simp [rkS]) hmin
  · exact ⟨_, _, _, by simp, specPick_cfg p t k V B hp, implPick_cfg p t k V B hp⟩
end Go.Proofs.Ytlagaiekoahjnaa
