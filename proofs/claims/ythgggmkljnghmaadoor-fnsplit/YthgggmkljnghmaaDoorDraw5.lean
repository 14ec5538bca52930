import Derived.Test.YthgggmkljnghmaaDoorDraw4
namespace Go.Proofs.YthgggmkljnghmaaDoor
open Go.ChangeShapes Go.WideShapes Go.ChangeAt Go.RowKit
set_option linter.unusedVariables false

set_option maxHeartbeats 800000 in
theorem drawDecode_any (w : World) (a : Option Addr) (zs : List Int) (n cap : Nat) (hn : zs.length = n) (hz : Ints .u8 w a zs) (hv : ∀ x ∈ zs, 0 ≤ x ∧ x ≤ 255) (hl : n ≤ 2000000) :
    Calls Tryd.prog 20 #[.slice a n cap] w fun e w' => ∃ (ys : List Int) (av : Option Addr) (cp : Nat), e = .returned (.slice av ys.length cp) ∧ ys.length ≤ 1000 ∧ (∀ x ∈ ys, 0 ≤ x ∧ x ≤ 255) ∧ Ints .u8 w' av ys ∧ (av = none → cp = 0) ∧ ys.length ≤ cp ∧ Below w.heap.size w w' := by
  subst hn
  go_enter Tryd.func20, Tryd.ntmps20
  go_wp2_with fail
  refine (begin_any w a zs cap hz hv hl).mono ?_
  rintro e w1 ⟨st, rfl, e0, e1, hb1⟩
  have hd := drawing_start hb1 a zs.length cap e0 e1
  have hs1 := hb1.size
  have hbA : Below w.heap.size w (w1.alloc (.cells #[.slice a zs.length cap, .int .i64 0, .int .u64 st] 57)) := hb1.alloc hs1 _
  go_wp2_with fail
  refine (drawFrame_any w _ w1.heap.size a zs cap hd hz hv hl).mono ?_
  rintro e w2 ⟨k, p, s, o, wd, ys, av, cp, rfl, hV, hs, ho, hyv, hoy, hd2, hg2⟩
  have hV2 := hV
  unfold Valid at hV2
  go_wp2_with fail
  refine (specEncode_good k p s o wd av ys ys.length cp w2 (by omega) (by omega) (by omega) (by omega) (by omega) (by omega) (by omega) (by omega) (by omega) (by omega) (by omega) rfl (Ints.row hoy) hyv hV).mono ?_
  rintro e w3 ⟨av3, cp3, rfl, ho3, hb3⟩
  have hlt2 := hd2.lt
  have hd3 : Drawing w w3 w1.heap.size a zs.length cap := draw_below hd2 hb3 hd2.lt hd2.bel.size
  have hfl := frameBytes_length k p s o wd ys
  have hfv : ∀ x ∈ frameBytes k p s o wd ys, 0 ≤ x ∧ x ≤ 255 := by
    intro x hx
    unfold frameBytes at hx
    rcases List.mem_append.1 hx with hx | hx
    · exact laidDown_fits hyv (by omega) (by omega) (by omega) (by omega) (by omega) x hx
    · exact be_fits _ _ x hx
  obtain ⟨fb, hfb⟩ : ∃ fb, frameBytes k p s o wd ys = fb := ⟨_, rfl⟩
  rw [hfb] at hfl hfv ho3
  have HFL : Hid _ := hfl
  clear hfb hfl hoy hd2 hg2
  go_wp2_with fail
  refine (next_any w _ w1.heap.size a zs cap 2 hd3 hz hv hl (by omega) (by omega)).mono ?_
  rintro e w4 ⟨r, rfl, r0, r1, hd4, g4⟩
  have ho4 := kept_new ho3 g4 hlt2
  by_cases hr : r = 0
  · subst hr
    go_wp2_with fail
    refine (spoil_any w w4 w1.heap.size a zs cap hd4 hz hv hl fb (22 + ys.length) cp3 av3 (Ints.row ho4) HFL.out hfv (by omega) (by omega)).mono ?_
    rintro e w5 ⟨qs, av5, cp5, rfl, hq1, hq2, hq3, hq4, hq5, hd5, _⟩
    go_wp2
    go_ret
    exact ⟨qs, av5, cp5, rfl, hq1, hq2, hq3, hq4, hq5, hd5.bel⟩
  · go_wp2
    go_ret
    obtain ⟨qs, av5, cp5, he, hq1, hq2, hq3, hq4, hq5, hd5, _⟩ := SomeBytes.row (w := w4) (b := w1.heap.size) HFL.out (by omega) hfv ho4 hd4 (World.grownBy.refl _ _)
    exact ⟨qs, av5, cp5, he, hq1, hq2, hq3, hq4, hq5, hd5.bel⟩
end Go.Proofs.YthgggmkljnghmaaDoor
