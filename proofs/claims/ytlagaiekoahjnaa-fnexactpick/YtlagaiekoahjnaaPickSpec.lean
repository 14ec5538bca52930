import Derived.Test.YtlagaiekoahjnaaPickOK
import Derived.Test.YtlagaiekoahjnaaLongLaw
namespace Go.Proofs.Ytlagaiekoahjnaa
open Go.ChangeShapes Go.WideShapes Go.ChangeAt Go.RowKit
set_option linter.unusedVariables false

/-- Paths as the numbers that they are told as. -/
def nums (l : List Nat) : List Int := l.map fun (i : Nat) => (i : Int)
theorem nums_length (l : List Nat) : (nums l).length = l.length := by simp [nums]
theorem nums_snoc (l : List Nat) (i : Nat) : nums (l ++ [i]) = nums l ++ [(i : Int)] := by simp [nums]
theorem nums_at {l : List Nat} {i : Nat} (h : i < l.length) : (nums l).getD i 0 = (l[i] : Int) := by simp [nums, h]

set_option maxRecDepth 100000 in
set_option maxHeartbeats 4000000 in
theorem specEligible (a : Option Addr) (V : Vws) (cap B : Nat) (w : World) (hS : LieV w a V) (hf : FitsV V) (hl : V.length ≤ 8) (hB : B < 256) :
    Calls Try.prog 66 #[.slice a V.length cap, .int .i64 (B : Int)] w fun e w' => ∃ av cp, e = .returned (.slice av (elig V B V.length).length cp) ∧
      w'.ownsRow w.heap.size 2 1 (.slice av (elig V B V.length).length cp) (elig V B V.length).length ((nums (elig V B V.length)).map (.int .i64)) ∧ Below w.heap.size w w' := by
  have hmade : (w.alloc (.cells #[] 2)).ownsRow w.heap.size 2 1 (.slice (some ⟨w.heap.size, 0, none⟩) 0 0) 0 ((nums []).map (.int .i64)) := World.ownsRow_made w #[] 0 (Nat.le_refl _) (by unfold maxLen; omega) rfl
  go_enter Try.func66, Try.ntmps66
  go_wp2
  go_loopw [5, 6] (fun v i wr => ∃ (k : Nat) (av : Option Addr) (cp : Nat), k ≤ V.length ∧ i = .int .i64 k ∧ v = .slice av (elig V B k).length cp ∧
      wr.ownsRow w.heap.size 2 1 (.slice av (elig V B k).length cp) (elig V B k).length ((nums (elig V B k)).map (.int .i64)) ∧ Below w.heap.size w wr) (fun _ i _ => V.length - (intOf i).toNat)
  case atStart => exact ⟨0, _, _, Nat.zero_le _, rfl, rfl, hmade, (Below.refl _ _).alloc (Nat.le_refl _) _⟩
  case round =>
    clear hmade
    obtain ⟨k, av, cp, hk, rfl, rfl, hown, hb⟩ := hrel
    by_cases hlt : k < V.length
    · rcases hS with h0 | ⟨b, off, rfl, hc⟩
      · simp [h0] at hlt
      obtain ⟨c0, c1, c2, hn, hok, q0, q1, q2⟩ := LieV.at hf hc hlt
      have r0 : wr.cell? ⟨b, off + k * 3, none⟩ = some (.int .i64 c0) := by rw [hb.cell (World.block_lt_of_cell? w _ q0)]; exact q0
      have r2 : wr.cell? ⟨b, off + k * 3 + 2, none⟩ = some (.int .i64 c2) := by rw [hb.cell (World.block_lt_of_cell? w _ q2)]; exact q2
      have hel := el_at (B := B) hlt hn.out
      have hL := elig_length V B k
      obtain ⟨E, hE⟩ : ∃ E, E = elig V B k := ⟨_, rfl⟩
      have HE : Hid (E = elig V B k) := hE
      rw [← hE] at hown hL
      rw [← hE]
      have sz := hb.size
      clear hE hc q0 q1 q2 hok hf hn
      have hno : el V B k = false → elig V B (k + 1) = E := fun h => by rw [elig_no h, HE.out]
      have HNO : Hid _ := hno
      have hyes : el V B k = true → elig V B (k + 1) = E ++ [k] := fun h => by rw [elig_yes h, HE.out]
      have HYES : Hid _ := hyes
      have HEL : Hid _ := hel
      clear hno hyes hel HE
      by_cases g0 : c0 = 1
      · subst g0
        by_cases g2 : 0 < c2
        · cases h1 : B.testBit k with
          | true =>
            have H1 : Hid _ := h1
            have HN : Hid (elig V B (k + 1) = E) := HNO.out (by rw [HEL.out, h1]; simp)
            clear h1 HNO HYES HEL
            go_wp2_with (go_at_call 45; refine (bit_is B k true _ hB (by omega) H1.out).mono ?_; rintro e w2 ⟨rfl, rfl⟩)
            go_roundw
            case rel => exact ⟨k + 1, av, cp, by omega, by go_num, by rw [HN.out], by rw [HN.out]; exact hown, hb⟩
            case measure => simp [intOf]; omega
          | false =>
            have H1 : Hid _ := h1
            have HN : Hid (elig V B (k + 1) = E ++ [k]) := HYES.out (by rw [HEL.out, h1]; simp [g2])
            have HL : Hid ((elig V B (k + 1)).length = E.length + 1) := by unfold Hid; rw [HN.out]; simp
            clear h1 HNO HYES HEL
            go_wp2_with (first
              | (go_at_call 45; refine (bit_is B k false _ hB (by omega) H1.out).mono ?_; rintro e w2 ⟨rfl, hw2⟩; obtain rfl := hw2)
              | (at_builtin; refine wpList_app1 _ rfl (.tmp 34) (.tmp 36) 36 2 rfl .i64 8 Try.underlying36 info_i64 (by decide) w.heap.size _ _ _ (nums E) (k : Int) rfl (hown.alloc _) _ rfl (cell_alloc1 _ _ _ _ rfl) (by omega) (by simp; omega) ?_; intro g5 cp5 w5 ho5 hg5))
            go_roundw
            case rel => exact ⟨k + 1, some ⟨g5, 0, none⟩, cp5, by omega, by go_num, by rw [HL.out], by rw [HL.out, HN.out, nums_snoc]; exact ho5, below_grown (hb.alloc sz _) (hown.alloc _) hg5 (Nat.le_refl _) (by simp; omega)⟩
            case measure => simp [intOf]; omega
        · have HN : Hid (elig V B (k + 1) = E) := HNO.out (by rw [HEL.out]; simp [g2])
          have g2' : c2 ≤ 0 := by omega
          clear HNO HYES HEL
          go_wp2
          go_roundw
          case rel => exact ⟨k + 1, av, cp, by omega, by go_num, by rw [HN.out], by rw [HN.out]; exact hown, hb⟩
          case measure => simp [intOf]; omega
      · have HN : Hid (elig V B (k + 1) = E) := HNO.out (by rw [HEL.out]; simp [g0])
        have g0' : (c0 == 1) = false := by simpa using g0
        clear HNO HYES HEL
        go_wp2
        go_roundw
        case rel => exact ⟨k + 1, av, cp, by omega, by go_num, by rw [HN.out], by rw [HN.out]; exact hown, hb⟩
        case measure => simp [intOf]; omega
    · have : k = V.length := by omega
      subst this
      go_wp2
      go_ret
      exact ⟨av, cp, rfl, hown, hb⟩

/-- The specification's rank of a path by policy p. -/
def rkS (p t k : Int) (V : Vws) (i : Nat) : Int := if p = 1 then rkRound t V.length i else if p = 2 then rkBack V V.length i else rkPick k i

theorem rankS (p t k : Int) (a : Option Addr) (V : Vws) (cap : Nat) (i : Nat) (w : World) (hS : LieV w a V) (hf : FitsV V) (hV : ValidV V) (hl : V.length ≤ 8) (hi : i < V.length) (t0 : 0 ≤ t) (t1 : t < V.length) :
    Calls Try.prog 67 #[.int .i64 p, .int .i64 t, .int .i64 k, .slice a V.length cap, .int .i64 (i : Int)] w fun e w' => e = .returned (.int .i64 (rkS p t k V i)) ∧ w' = w := by
  rcases hS with h | ⟨b, off, rfl, hc⟩
  · simp [h] at hi
  obtain ⟨c0, c1, c2, hn, hok, q0, q1, q2⟩ := LieV.at hf hc hi
  have hv := hV i hi hi
  rw [hn.out] at hv
  have v1 : 0 ≤ c1 := hv.2.1.1
  have v2 : c1 ≤ 16 := hv.2.1.2
  have x1 : (i : Int) < (V.length : Int) := by omega
  have x2 : (V.length : Int) ≤ 8 := by omega
  have hbk := rkBack_at (m := (V.length : Int)) hi hn.out
  have HBK : Hid _ := hbk
  clear hbk hc hf hV hv hok hn
  by_cases p1 : p = 1
  · subst p1
    go_enter Try.func67, Try.ntmps67
    go_wp2
    go_ret
    exact ⟨by simp only [rkS, if_pos, rkRound]; rfl, rfl⟩
  · have p1' : (p == 1) = false := by simpa using p1
    by_cases p2 : p = 2
    · subst p2
      have m0 : 0 ≤ c1 * (V.length : Int) := Int.mul_nonneg v1 (by omega)
      have m1 : c1 * (V.length : Int) ≤ 16 * 8 := Int.mul_le_mul v2 x2 (by omega) (by omega)
      go_enter Try.func67, Try.ntmps67
      go_wp2
      go_ret
      have e : rkS 2 t k V i = c1 * (V.length : Int) + i := by unfold rkS; rw [if_neg (by omega), if_pos rfl]; exact HBK.out
      exact ⟨by rw [e]; rfl, rfl⟩
    · have p2' : (p == 2) = false := by simpa using p2
      by_cases hk : (i : Int) = k
      · subst hk
        go_enter Try.func67, Try.ntmps67
        go_wp2
        go_ret
        exact ⟨by simp only [rkS]; rw [if_neg p1, if_neg p2, rkPick, if_pos rfl]; rfl, rfl⟩
      · have hk' : ((i : Int) == k) = false := by simpa using hk
        go_enter Try.func67, Try.ntmps67
        go_wp2
        go_ret
        exact ⟨by simp only [rkS]; rw [if_neg p1, if_neg p2, rkPick, if_neg hk]; rfl, rfl⟩

/-- What a choice gives: those chosen and the next turn. -/
def GivesC (fn : Nat) (p t k : Int) (V : Vws) (B : Nat) (T : List Nat) (tn : Int) : Prop :=
  ∀ (a : Option Addr) (cap : Nat) (w : World), LieV w a V → V.length ≤ cap → cap ≤ 9223372036854775807 → (a = none → cap = 0) →
    Calls Try.prog fn #[.int .i64 p, .int .i64 t, .int .i64 k, .slice a V.length cap, .int .i64 (B : Int)] w fun e w' => ∃ av cp, e = .returned (.tuple #[.slice av T.length cp, .int .i64 tn]) ∧
      w'.ownsRow w.heap.size 2 1 (.slice av T.length cp) T.length ((nums T).map (.int .i64)) ∧ Below w.heap.size w w'

theorem specChoice_all (p t k : Int) (V : Vws) (B : Nat) (hf : FitsV V) (hl : V.length ≤ 8) (hB : B < 256) (h : p = 3 ∨ elig V B V.length = []) : GivesC 48 p t k V B (elig V B V.length) t := by
  intro a cap w hS hc hm hnone
  have hE := elig_length V B V.length
  by_cases p3 : p = 3
  · subst p3
    clear h
    go_enter Try.func48, Try.ntmps48
    go_wp2_with (go_at_call 66; refine (specEligible a V cap B _ hS hf hl hB).mono ?_; rintro e w1 ⟨av, cp, rfl, ho, hb1⟩)
    go_ret2
    exact ⟨av, cp, rfl, ho, hb1⟩
  · have p3' : (p == 3) = false := by simpa using p3
    have h0 : elig V B V.length = [] := by
      rcases h with h | h
      · exact absurd h p3
      · exact h
    have hs := specEligible a V cap B w hS hf hl hB
    rw [h0] at hs ⊢
    simp only [List.length_nil] at hs ⊢
    clear h h0
    go_enter Try.func48, Try.ntmps48
    go_wp2_with (go_at_call 66; refine hs.mono ?_; rintro e w1 ⟨av, cp, rfl, ho, hb1⟩)
    go_ret2
    exact ⟨av, cp, rfl, ho, hb1⟩

set_option maxRecDepth 100000 in
set_option maxHeartbeats 4000000 in
theorem specChoice_one (p t k : Int) (V : Vws) (B : Nat) (hf : FitsV V) (hV : ValidV V) (hl : V.length ≤ 8) (hB : B < 256) (t0 : 0 ≤ t) (t1 : t < V.length) (hp : ¬ p = 3) (hne : elig V B V.length ≠ []) :
    ∀ (a : Option Addr) (cap : Nat) (w : World), LieV w a V → V.length ≤ cap → cap ≤ 9223372036854775807 → (a = none → cap = 0) →
    Calls Try.prog 48 #[.int .i64 p, .int .i64 t, .int .i64 k, .slice a V.length cap, .int .i64 (B : Int)] w fun e w' => ∃ av cp b, IsMin (rkS p t k V) (elig V B V.length) b ∧ e = .returned (.tuple #[.slice av 1 cp, .int .i64 (if p = 1 then ((b : Int) + 1) % V.length else t)]) ∧
      w'.ownsRow w.heap.size 2 1 (.slice av 1 cp) 1 ((nums [b]).map (.int .i64)) ∧ Below w.heap.size w w' := by
  intro a cap w hS hc hm hnone
  have p3' : (p == 3) = false := by simpa using hp
  have hE := elig_length V B V.length
  have hEl : ∀ i ∈ elig V B V.length, i < V.length := fun i hi => elig_lt hi
  have hs := specEligible a V cap B w hS hf hl hB
  obtain ⟨E, hEE⟩ : ∃ E, E = elig V B V.length := ⟨_, rfl⟩
  rw [← hEE] at hs hE hEl hne
  rw [← hEE]
  clear hEE
  have hpos : 0 < E.length := List.length_pos_iff.2 hne
  have hpos' : ((E.length : Int) == 0) = false := by simp; omega
  have hEi : (0 : Int) < (E.length : Int) := by omega
  have hE8 : (E.length : Int) ≤ 8 := by omega
  have HS : Hid (LieV w a V) := hS
  clear hS hne
  go_enter Try.func48, Try.ntmps48
  go_wp2_with fail
  refine hs.mono ?_
  rintro e w1 ⟨av, cp, rfl, ho, hb1⟩
  have hS1 := LieV.moved HS.out hb1
  rcases Ints.ofRow ho with h | ⟨bE, oE, rfl, hcE⟩
  · have := nums_length E; rw [h] at this; simp at this; omega
  have hcE' : ∀ i, ∀ h : i < E.length, w1.cell? ⟨bE, oE + i, none⟩ = some (.int .i64 (E[i] : Int)) := by
    intro i hi
    rw [hcE i (by rw [nums_length]; exact hi), nums_at hi]
  have e0 := hcE' 0 hpos
  simp only [Nat.add_zero] at e0
  obtain ⟨f0, hf0⟩ : ∃ f : Nat, f = E[0] := ⟨_, rfl⟩
  rw [← hf0] at e0
  have HF0 : Hid (f0 = E[0]) := hf0
  clear hs HS hcE hf0 ho
  go_wp2
  go_loopw [13, 14] (fun v i wr => ∃ q b : Nat, q ≤ E.length ∧ b ∈ E ∧ (∀ j, ∀ h : j < E.length, j < q → rkS p t k V b ≤ rkS p t k V E[j]) ∧ i = .int .i64 q ∧ v = .int .i64 b ∧ wr = w1) (fun _ i _ => E.length - (intOf i).toNat)
  case atStart => exact ⟨0, f0, Nat.zero_le _, by rw [HF0.out]; exact List.getElem_mem _, fun j _ h => by omega, rfl, rfl, rfl⟩
  case round =>
    obtain ⟨q, b, hq, hbE, hlow, rfl, rfl, rfl⟩ := hrel
    have HLOW : Hid _ := hlow
    have HBE : Hid _ := hbE
    have hbl := hEl b hbE
    clear hlow hbE
    by_cases hlt : q < E.length
    · have eq := hcE' q hlt
      obtain ⟨x, hx⟩ : ∃ x : Nat, x = E[q] := ⟨_, rfl⟩
      have hxl := hEl _ (List.getElem_mem hlt)
      rw [← hx] at eq hxl
      have HX : Hid (x = E[q]) := hx
      have hlti : (q : Int) < (E.length : Int) := by omega
      clear hx hcE' HF0 e0
      by_cases hless : rkS p t k V x < rkS p t k V b
      · have HNEW : Hid (∀ j, ∀ h : j < E.length, j < q + 1 → rkS p t k V x ≤ rkS p t k V E[j]) := by
          intro j hj hjq
          by_cases ej : j = q
          · subst ej; rw [← HX.out]; exact Int.le_refl _
          · have := HLOW.out j hj (by omega); omega
        have hxm : x ∈ E := by rw [HX.out]; exact List.getElem_mem hlt
        have HXM : Hid _ := hxm
        have R1 := rankS p t k a V cap x wr hS1 hf hV hl hxl t0 t1
        have R2 := rankS p t k a V cap b wr hS1 hf hV hl hbl t0 t1
        obtain ⟨u, hu⟩ : ∃ u, u = rkS p t k V x := ⟨_, rfl⟩
        obtain ⟨v, hv⟩ : ∃ v, v = rkS p t k V b := ⟨_, rfl⟩
        rw [← hu] at R1 hless
        rw [← hv] at R2 hless
        clear hu hv HLOW HBE hEl hxm
        go_wp2_with (first
          | (go_at_call 67; with_reducible (refine Calls.mono R1 ?_); rintro e w3 ⟨rfl, hw3⟩; obtain rfl := hw3)
          | (go_at_call 67; with_reducible (refine Calls.mono R2 ?_); rintro e w3 ⟨rfl, hw3⟩; obtain rfl := hw3))
        go_roundw
        case rel => exact ⟨q + 1, x, by omega, HXM.out, HNEW.out, by go_num, rfl, by trivial⟩
        case measure => simp [intOf]; omega
      · have HNEW : Hid (∀ j, ∀ h : j < E.length, j < q + 1 → rkS p t k V b ≤ rkS p t k V E[j]) := by
          intro j hj hjq
          by_cases ej : j = q
          · subst ej; rw [← HX.out]; omega
          · exact HLOW.out j hj (by omega)
        have R1 := rankS p t k a V cap x wr hS1 hf hV hl hxl t0 t1
        have R2 := rankS p t k a V cap b wr hS1 hf hV hl hbl t0 t1
        obtain ⟨u, hu⟩ : ∃ u, u = rkS p t k V x := ⟨_, rfl⟩
        obtain ⟨v, hv⟩ : ∃ v, v = rkS p t k V b := ⟨_, rfl⟩
        rw [← hu] at R1 hless
        rw [← hv] at R2 hless
        have hge : v ≤ u := by omega
        clear hu hv HLOW hEl hless
        go_wp2_with (first
          | (go_at_call 67; with_reducible (refine Calls.mono R1 ?_); rintro e w3 ⟨rfl, hw3⟩; obtain rfl := hw3)
          | (go_at_call 67; with_reducible (refine Calls.mono R2 ?_); rintro e w3 ⟨rfl, hw3⟩; obtain rfl := hw3))
        go_roundw
        case rel => exact ⟨q + 1, b, by omega, HBE.out, HNEW.out, by go_num, rfl, by trivial⟩
        case measure => simp [intOf]; omega
    · have hmin : Hid (IsMin (rkS p t k V) E b) := ⟨HBE.out, fun j hj => by
        obtain ⟨i, hi, rfl⟩ := List.getElem_of_mem hj
        exact HLOW.out i hi (by omega)⟩
      have hbv : (b : Int) < (V.length : Int) := by omega
      have hlv : (V.length : Int) ≤ 8 := by omega
      have hrow := World.ownsRow_lit (base := w.heap.size) (size := 1) (e := 2) wr #[.int .i64 (b : Int)] 1 hb1.size (by unfold maxLen; omega) rfl
      clear hcE' HF0 e0 HLOW HBE hEl
      by_cases p1 : p = 1
      · subst p1
        go_wp2
        go_ret2
        exact ⟨_, _, b, hmin.out, by simp, hrow, hb1.alloc hb1.size _⟩
      · have p1' : (p == 1) = false := by simpa using p1
        go_wp2
        go_ret2
        exact ⟨_, _, b, hmin.out, by simp, hrow, hb1.alloc hb1.size _⟩
end Go.Proofs.Ytlagaiekoahjnaa
