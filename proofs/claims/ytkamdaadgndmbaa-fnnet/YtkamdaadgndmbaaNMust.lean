import Derived.Test.YtkamdaadgndmbaaNStr
namespace Go.Proofs.Ytkamdaadgndmbaa
open Go.ChangeShapes Go.WideShapes Go.ChangeAt Go.RowKit
set_option linter.unusedVariables false

set_option maxHeartbeats 800000 in
set_option maxRecDepth 100000 in
/-- What was refused had not to pass. -/
theorem mustPass_no (W w : World) (lb lc cb cc n : Nat) (V : Nat → Value) (B : Nat → Bg) (C : Nat → Int) (s : NS) (kd pa di ix : Int) (dat : List Int) (da : Option Addr) (dl dc : Nat) (hok : EvOk ⟨kd, pa, di, ix, dat⟩) (hdl : dat.length = dl) (hn8 : n ≤ 8)
    (hL : ListsAt W w lb lc cb cc (2 * n) V B C) (hA : Agree n s B C) (hinv : InvN s) (hm : mustN n s ⟨kd, pa, di, ix, dat⟩ = false) :
    Calls Try.prog 9 #[.agg #[.int .i64 kd, .int .i64 pa, .int .i64 di, .int .i64 ix, .slice da dl dc], .int .i64 (n : Int), .slice (some ⟨lb, 0, none⟩) (2 * n) lc, .slice (some ⟨cb, 0, none⟩) (2 * n) cc] w fun e w' => e = .returned (.bool false) ∧ Below w.heap.size w w' := by
  obtain ⟨k0, k1, p0, p1, d0, d1, i0, i1, _, hdl2⟩ := hok
  simp only at k0 k1 p0 p1 d0 d1 i0 i1 hdl2
  rw [hdl] at hdl2
  unfold mustN at hm
  simp only at hm
  rw [hdl] at hm
  clear hdl
  obtain ⟨W1, hW1⟩ : ∃ W1, W1 = w.alloc (.cells #[.int .i64 kd, .int .i64 pa, .int .i64 di, .int .i64 ix, .slice da dl dc] 35) := ⟨_, rfl⟩
  obtain ⟨E, hE⟩ : ∃ E, E = w.heap.size := ⟨_, rfl⟩
  have hb1 : Below w.heap.size w W1 := by rw [hW1]; exact (Below.refl _ _).alloc (Nat.le_refl _) _
  have hE1 : W1.heap[E]? = some (.cells #[.int .i64 kd, .int .i64 pa, .int .i64 di, .int .i64 ix, .slice da dl dc] 35 (0, 0)) := by rw [hW1, hE]; exact heap_alloc_new _ _
  have hL1 := hL.moved hb1
  obtain ⟨⟨e0, e1, e2, e3, e4⟩, _⟩ := cells5r hE1
  have HL1 : Hid _ := hL1
  have HB1 : Hid _ := hb1
  clear hL hL1 hb1 hE1
  go_enter Try.func9, Try.ntmps9
  go_upto_region 1 with fail
  rw [← hW1, ← hE]
  clear hW1 hE
  by_cases c1 : kd < 1
  · have b1 : decide (kd < 1) = true := decide_eq_true c1
    go_wp2_with fail
    go_ret
    exact ⟨rfl, HB1.out⟩
  have b1 : decide (kd < 1) = false := decide_eq_false c1
  by_cases c2 : 6 < kd
  · have b2 : decide (6 < kd) = true := decide_eq_true c2
    go_wp2_with fail
    go_ret
    exact ⟨rfl, HB1.out⟩
  have b2 : decide (6 < kd) = false := decide_eq_false c2
  by_cases c3 : pa < 0
  · have b3 : decide (pa < 0) = true := decide_eq_true c3
    go_wp2_with fail
    go_ret
    exact ⟨rfl, HB1.out⟩
  have b3 : decide (pa < 0) = false := decide_eq_false c3
  by_cases c4 : (n : Int) ≤ pa
  · have b4 : decide ((n : Int) ≤ pa) = true := decide_eq_true c4
    go_wp2_with fail
    go_ret
    exact ⟨rfl, HB1.out⟩
  have b4 : decide ((n : Int) ≤ pa) = false := decide_eq_false c4
  rw [if_neg (by omega)] at hm
  by_cases c5 : 5 ≤ kd
  · rw [if_pos c5] at hm; cases hm
  rw [if_neg c5] at hm
  have b5 : decide (5 ≤ kd) = false := decide_eq_false c5
  by_cases c6 : di ≠ 0 ∧ di ≠ 1
  · have b6 : (di != 0) = true := by simpa using c6.1
    have b7 : (di != 1) = true := by simpa using c6.2
    clear hm
    go_wp2_with fail
    go_ret
    exact ⟨rfl, HB1.out⟩
  rw [if_neg c6] at hm
  obtain ⟨p, hp⟩ : ∃ p : Nat, pa = (p : Int) := ⟨pa.toNat, by omega⟩
  obtain ⟨d, hd⟩ : ∃ d : Nat, di = (d : Int) := ⟨di.toNat, by omega⟩
  have hpn : p < n := by omega
  have hd2 : d < 2 := by omega
  have hbg := hA.bag p d hpn hd2
  have hct := hA.cut p 0 hpn (by omega)
  have hlen := hinv.len p d
  have hcut := hinv.cut p
  rw [hp, hd, ← hbg, List.length_map] at hm
  rw [← hbg, List.length_map] at hlen
  rw [Nat.add_zero] at hct
  rw [← hct] at hm hcut
  obtain ⟨I, hI⟩ : ∃ I, I = 2 * p + d := ⟨_, rfl⟩
  obtain ⟨J, hJ⟩ : ∃ J, J = 2 * p := ⟨_, rfl⟩
  have hIN : I < 2 * n := by omega
  have hJN : J < 2 * n := by omega
  have hw1 : IntKind.i64.wrap (2 * pa) = (J : Int) := by rw [IntKind.wrap_i64]; omega
  have hw2 : IntKind.i64.wrap ((J : Int) + di) = (I : Int) := by rw [IntKind.wrap_i64]; omega
  rw [← hI] at hm hlen
  rw [← hJ] at hm hcut
  obtain ⟨CJ, hCJ⟩ : ∃ CJ, CJ = C J := ⟨_, rfl⟩
  obtain ⟨c1', _⟩ := HL1.out.cellL hIN
  obtain ⟨c2', _⟩ := HL1.out.cellC hJN
  rw [← hCJ] at c2' hm hcut
  have hbag := HL1.out.bag I hIN
  obtain ⟨va, vc, hV⟩ := own_shape hbag
  rw [hV] at c1'
  obtain ⟨L, hLL⟩ : ∃ L, L = (B I).length := ⟨_, rfl⟩
  rw [← hLL] at c1' hm hlen
  have hIi : (I : Int) < ((2 * n : Nat) : Int) := by omega
  have hJi : (J : Int) < ((2 * n : Nat) : Int) := by omega
  obtain ⟨N, hN⟩ : ∃ N, N = 2 * n := ⟨_, rfl⟩
  rw [← hN] at hIi hJi
  have hdd : (di != 0) = false ∨ ((di != 0) = true ∧ (di != 1) = false) := by
    rcases (show d = 0 ∨ d = 1 by omega) with rfl | rfl
    · left; rw [hd]; rfl
    · right; rw [hd]; exact ⟨rfl, rfl⟩
  have HM : Hid _ := hm
  clear hI hJ hbag hV hLL hbg hA hinv c6 hct hCJ hd hp hd2 hpn hcut hm c3 c4
  rw [← hN]
  have HEND : Hid (∀ q, Below w.heap.size w (W1.drewN q)) := fun q => drewsN HB1.out q
  clear hN
  have hfin : (kd == 1) = true ∧ ((decide ((dl : Int) ≤ 64) = false) ∨ (decide ((dl : Int) ≤ 64) = true ∧ (CJ == 0) = false) ∨ (decide ((dl : Int) ≤ 64) = true ∧ (CJ == 0) = true ∧ decide ((L : Int) < 64) = false)) ∨ (kd == 1) = false ∧ (decide (0 ≤ ix) = false ∨ (decide (0 ≤ ix) = true ∧ decide (ix < (L : Int)) = false) ∨ (decide (0 ≤ ix) = true ∧ decide (ix < (L : Int)) = true ∧ (kd != 4) = false ∧ decide ((L : Int) < 64) = false)) := by
    have hm := HM.out
    split at hm
    · rename_i h1
      rw [decide_eq_false_iff_not] at hm
      refine .inl ⟨by simpa using h1, ?_⟩
      simp only [decide_eq_false_iff_not, decide_eq_true_iff, beq_eq_false_iff_ne, beq_iff_eq]
      omega
    · rename_i h1
      rw [decide_eq_false_iff_not] at hm
      refine .inr ⟨by simpa using h1, ?_⟩
      simp only [decide_eq_false_iff_not, decide_eq_true_iff, bne_eq_false_iff_eq]
      omega
  rcases hdd with b6 | ⟨b6, b7⟩ <;> rcases hfin with ⟨f0, f1 | ⟨f1, f2⟩ | ⟨f1, f2, f3⟩⟩ | ⟨f0, f1 | ⟨f1, f2⟩ | ⟨f1, f2, f3, f4⟩⟩
  all_goals
    go_wp2_with fail
    go_ret
    exact ⟨rfl, HB1.out⟩
end Go.Proofs.Ytkamdaadgndmbaa
