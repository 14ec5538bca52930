import Derived.Test.YtlagaiekoahjnaaPickSpec
namespace Go.Proofs.Ytlagaiekoahjnaa
open Go.ChangeShapes Go.WideShapes Go.ChangeAt Go.RowKit
set_option linter.unusedVariables false

theorem IsMin.unique {r : Nat → Int} {l : List Nat} {n : Nat} (hl : ∀ i ∈ l, i < n) (hinj : ∀ i j, i < n → j < n → r i = r j → i = j) {b b' : Nat} (h : IsMin r l b) (h' : IsMin r l b') : b = b' := by
  have h1 := h.2 b' h'.1
  have h2 := h'.2 b h.1
  exact hinj b b' (hl b h.1) (hl b' h'.1) (by omega)
theorem IsMin.exists (r : Nat → Int) {l : List Nat} (h : l ≠ []) : ∃ b, IsMin r l b := by
  induction l with
  | nil => exact absurd rfl h
  | cons a t ih =>
    by_cases ht : t = []
    · subst ht
      exact ⟨a, by simp, by simp⟩
    · obtain ⟨b, hb, hlow⟩ := ih ht
      by_cases hab : r a ≤ r b
      · refine ⟨a, by simp, fun j hj => ?_⟩
        rcases List.mem_cons.1 hj with rfl | hj
        · exact Int.le_refl _
        · have := hlow j hj; omega
      · refine ⟨b, by simp [hb], fun j hj => ?_⟩
        rcases List.mem_cons.1 hj with rfl | hj
        · omega
        · exact hlow j hj

theorem rkS_inj {p t k : Int} {V : Vws} (t0 : 0 ≤ t) (t1 : t < V.length) : ∀ i j, i < V.length → j < V.length → rkS p t k V i = rkS p t k V j → i = j := by
  intro i j hi hj h
  unfold rkS at h
  split at h
  · exact rkRound_inj t0 t1 i j hi hj h
  · split at h
    · exact rkBack_inj (Nat.le_refl _) i j hi hj h
    · exact rkPick_inj k i j h

/-- What Pick gives. -/
def GivesP (fn : Nat) (p t k : Int) (V : Vws) (B : Int) (T : List Int) (tn c : Int) : Prop :=
  ∀ (a : Option Addr) (cap : Nat) (w : World), LieV w a V → V.length ≤ cap → cap ≤ 9223372036854775807 → (a = none → cap = 0) →
    Calls Try.prog fn #[.int .i64 p, .int .i64 t, .int .i64 k, .slice a V.length cap, .int .i64 B] w fun e w' => ∃ av cp, e = .returned (.tuple #[.slice av T.length cp, .int .i64 tn, .int .i64 c]) ∧
      w'.ownsRow w.heap.size 2 1 (.slice av T.length cp) T.length (T.map (.int .i64)) ∧ Below w.heap.size w w'

theorem specPick_cfg (p t k : Int) (V : Vws) (B : Int) (h : ¬ (1 ≤ p ∧ p ≤ 4)) : GivesP 18 p t k V B [] 0 17 := by
  intro a cap w hS hc hm hnone
  rcases (show p < 1 ∨ (1 ≤ p ∧ 4 < p) by omega) with g | ⟨g, g'⟩
  all_goals
    clear h
    go_enter Try.func18, Try.ntmps18
    go_wp2
    go_ret3
    exact ⟨none, 0, rfl, World.ownsRow_nil _ _ _ _, Below.refl _ _⟩

theorem specPick_path (p t k : Int) (V : Vws) (B : Int) (hf : FitsV V) (hp : 1 ≤ p ∧ p ≤ 4) (h : ¬ ((1 ≤ V.length ∧ V.length ≤ 8) ∧ ValidV V)) : GivesP 18 p t k V B [] 0 6 := by
  intro a cap w hS hc hm hnone
  have p1 := hp.1
  have p2 := hp.2
  go_enter Try.func18, Try.ntmps18
  go_wp2_with fail
  refine (specPathsOK a V cap _ hS hf (by omega)).mono ?_
  rintro e w1 ⟨b, rfl, hiff, hb1⟩
  obtain rfl : b = false := by cases b; rfl; exact absurd (hiff.1 rfl) h
  clear h hiff hf
  go_wp2
  go_ret3
  exact ⟨none, 0, rfl, World.ownsRow_nil _ _ _ _, hb1⟩

theorem specPick_range (p t k : Int) (V : Vws) (B : Int) (hf : FitsV V) (hp : 1 ≤ p ∧ p ≤ 4) (hv : (1 ≤ V.length ∧ V.length ≤ 8) ∧ ValidV V) (h : ¬ ((0 ≤ t ∧ t < V.length) ∧ 0 ≤ B ∧ B ≤ 255)) : GivesP 18 p t k V B [] 0 4 := by
  intro a cap w hS hc hm hnone
  have p1 := hp.1
  have p2 := hp.2
  have l8 : (V.length : Int) ≤ 8 := by omega
  rcases (show t < 0 ∨ (0 ≤ t ∧ (V.length : Int) ≤ t) ∨ (0 ≤ t ∧ t < (V.length : Int) ∧ B < 0) ∨ (0 ≤ t ∧ t < (V.length : Int) ∧ 0 ≤ B ∧ 255 < B) by omega) with g | ⟨g, g'⟩ | ⟨g, g', g''⟩ | ⟨g, g', g'', g3⟩
  all_goals
    go_enter Try.func18, Try.ntmps18
    go_wp2_with fail
    refine (specPathsOK a V cap _ hS hf (by omega)).mono ?_
    rintro e w1 ⟨b, rfl, hiff, hb1⟩
    obtain rfl : b = true := hiff.2 hv
    clear h hiff hf hv hp
    go_wp2
    go_ret3
    exact ⟨none, 0, rfl, World.ownsRow_nil _ _ _ _, hb1⟩

theorem specPick_all (p t k : Int) (V : Vws) (B : Nat) (hf : FitsV V) (hp : 1 ≤ p ∧ p ≤ 4) (hv : (1 ≤ V.length ∧ V.length ≤ 8) ∧ ValidV V) (ht : 0 ≤ t ∧ t < V.length) (hB : B < 256) (h : p = 3 ∨ elig V B V.length = []) : GivesP 18 p t k V B (nums (elig V B V.length)) t 0 := by
  intro a cap w hS hc hm hnone
  have p1 := hp.1
  have p2 := hp.2
  have l8 : (V.length : Int) ≤ 8 := by omega
  have t0 := ht.1
  have t1 := ht.2
  have b1 : (B : Int) ≤ 255 := by omega
  have hch := specChoice_all p t k V B hf hv.1.2 hB h
  rw [nums_length]
  obtain ⟨E, hE⟩ : ∃ E, E = elig V B V.length := ⟨_, rfl⟩
  rw [← hE] at hch ⊢
  clear hE
  have HCH : Hid _ := hch
  clear hch
  go_enter Try.func18, Try.ntmps18
  go_wp2_with fail
  refine (specPathsOK a V cap _ hS hf (by omega)).mono ?_
  rintro e w1 ⟨b, rfl, hiff, hb1⟩
  obtain rfl : b = true := hiff.2 hv
  have hS1 := hS.moved hb1
  clear h hiff hf hv hp ht hS
  go_wp2_with fail
  refine (HCH.out a cap _ hS1 hc hm hnone).mono ?_
  rintro e w2 ⟨av, cp, rfl, ho, hb2⟩
  go_wp2
  go_ret3
  exact ⟨av, cp, rfl, owned_base ho hb1.size, hb1.trans (hb2.mono hb1.size)⟩

theorem specPick_one (p t k : Int) (V : Vws) (B : Nat) (hf : FitsV V) (hp : 1 ≤ p ∧ p ≤ 4) (hv : (1 ≤ V.length ∧ V.length ≤ 8) ∧ ValidV V) (ht : 0 ≤ t ∧ t < V.length) (hB : B < 256) (h3 : ¬ p = 3) (hne : elig V B V.length ≠ []) (b0 : Nat) (hb0 : IsMin (rkS p t k V) (elig V B V.length) b0) :
    GivesP 18 p t k V B [(b0 : Int)] (if p = 1 then ((b0 : Int) + 1) % V.length else t) 0 := by
  intro a cap w hS hc hm hnone
  have p1 := hp.1
  have p2 := hp.2
  have l8 : (V.length : Int) ≤ 8 := by omega
  have t0 := ht.1
  have t1 := ht.2
  have b1 : (B : Int) ≤ 255 := by omega
  have hch := specChoice_one p t k V B hf hv.2 hv.1.2 hB t0 t1 h3 hne
  have HCH : Hid _ := hch
  have huni : ∀ b, IsMin (rkS p t k V) (elig V B V.length) b → b = b0 := fun b hb => IsMin.unique (fun i hi => elig_lt hi) (rkS_inj t0 t1) hb hb0
  have HU : Hid _ := huni
  obtain ⟨tn, htn⟩ : ∃ tn, tn = (if p = 1 then ((b0 : Int) + 1) % V.length else t) := ⟨_, rfl⟩
  have HTN : Hid _ := htn
  rw [← htn]
  clear hch huni hne hb0 htn
  go_enter Try.func18, Try.ntmps18
  go_wp2_with fail
  refine (specPathsOK a V cap _ hS hf (by omega)).mono ?_
  rintro e w1 ⟨b, rfl, hiff, hb1⟩
  obtain rfl : b = true := hiff.2 hv
  have hS1 := hS.moved hb1
  clear hiff hf hv hp ht hS
  go_wp2_with fail
  refine (HCH.out a cap _ hS1 hc hm hnone).mono ?_
  rintro e w2 ⟨av, cp, b, hmin, rfl, ho, hb2⟩
  obtain rfl := HU.out b hmin
  rw [← HTN.out]
  clear HU HTN hmin HCH
  go_wp2
  go_ret3
  exact ⟨av, cp, rfl, owned_base ho hb1.size, hb1.trans (hb2.mono hb1.size)⟩
end Go.Proofs.Ytlagaiekoahjnaa
