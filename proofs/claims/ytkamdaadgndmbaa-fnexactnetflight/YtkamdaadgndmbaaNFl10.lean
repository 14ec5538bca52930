import Derived.Test.YtkamdaadgndmbaaNFl9
namespace Go.Proofs.Ytkamdaadgndmbaa
open Go.ChangeShapes Go.WideShapes Go.ChangeAt Go.RowKit
set_option linter.unusedVariables false

set_option maxHeartbeats 400000 in
theorem specFlight_bad (x : Int) (hno : ¬ OkN x) (a : Option Addr) (n cap : Nat) (w : World) :
    Calls Try.prog 18 #[.int .i64 x, .slice a n cap] w fun e w' => e = .returned (.tuple #[.slice none 0 0, .int .i64 6]) ∧ Below w.heap.size w w' := by
  have hrun := l3Run_bad x hno a n cap w
  go_enter Try.func18, Try.ntmps18
  go_wp2_with fail
  refine hrun.mono ?_
  rintro e w1 ⟨rfl, hb1⟩
  have hbw := hb1.alloc hb1.size (.cells zeroN3 70)
  go_wp2_with fail
  exact bodyPost_ret (v := .tuple #[.slice none 0 0, .int .i64 6]) (by simp [results, Try.results18, go_sem]) rfl ⟨rfl, hbw⟩
set_option maxHeartbeats 400000 in
theorem specFlight_limit (x : Int) (hx : OkN x) (a : Option Addr) (n cap : Nat) (w : World) (hl : 4000 < n) :
    Calls Try.prog 18 #[.int .i64 x, .slice a n cap] w fun e w' => e = .returned (.tuple #[.slice none 0 0, .int .i64 5]) ∧ Below w.heap.size w w' := by
  have hrun := l3Run_limit x hx a n cap w hl
  go_enter Try.func18, Try.ntmps18
  go_wp2_with fail
  refine hrun.mono ?_
  rintro e w1 ⟨rfl, hb1⟩
  have hbw := hb1.alloc hb1.size (.cells zeroN3 70)
  go_wp2_with fail
  exact bodyPost_ret (v := .tuple #[.slice none 0 0, .int .i64 5]) (by simp [results, Try.results18, go_sem]) rfl ⟨rfl, hbw⟩
set_option maxHeartbeats 400000 in
theorem specFlight_ok (m : Nat) (hm : OkN m) (a : Option Addr) (es : Evs) (n cap : Nat) (w : World) (hn : es.length = n) (hl : n ≤ 4000) (hz : EvLie w w.heap.size a es) (hok : ∀ p ∈ es, EvOk p.1) :
    Calls Try.prog 18 #[.int .i64 (m : Int), .slice a n cap] w fun e w' => Below w.heap.size w w' ∧ ∃ av cp, e = .returned (.tuple #[.slice av (2 * m) cp, .int .i64 0]) ∧ ∃ F, F.length = 2 * m ∧ OutsF w' w.heap.size (.slice av (2 * m) cp) F ∧ F.map FB.told = toldU (stateN m (es.map (·.1))) (2 * m) := by
  have hrun := l3Run_ok m hm a es n cap w hn hl hz hok
  have hinv : InvN (stateN m (es.map (·.1))) := by
    refine (invN_all m (es.map (·.1)) ?_ startN invN_start).1
    intro e' he' v hv
    obtain ⟨p, hp, rfl⟩ := List.mem_map.1 he'
    exact (hok p hp).dv v hv
  obtain ⟨s0, hs0⟩ : ∃ s0 : NS, s0 = stateN m (es.map (·.1)) := ⟨_, rfl⟩
  have HS0 : Hid _ := hs0
  rw [← hs0] at hinv ⊢
  obtain ⟨o1, o2⟩ := hm
  have hm1 : 1 ≤ m := by omega
  have hm8 : m ≤ 8 := by omega
  clear hn hs0
  go_enter Try.func18, Try.ntmps18
  go_wp2_with fail
  refine hrun.mono ?_
  rintro e w1 ⟨B, cv, av, oa, oc, G, rfl, hR⟩
  obtain ⟨C, I, hI, hS⟩ := hR.net
  rw [← HS0.out] at hS
  obtain ⟨ca, cc, rfl⟩ := own_shape hS.cut
  obtain ⟨ia, ic, hiv⟩ := own_shape hS.all
  obtain ⟨il, hil⟩ : ∃ il, I.length = il := ⟨_, rfl⟩
  rw [hil] at hiv
  subst hiv
  have HIL : Hid _ := hil
  have hbw := hR.below.alloc hR.below.size (.cells #[.int .i64 (m : Int), .slice ca m cc, .slice ia il ic] 70)
  have hBa : Below w1.heap.size w1 (w1.alloc (.cells #[.int .i64 (m : Int), .slice ca m cc, .slice ia il ic] 70)) := (Below.refl _ _).alloc (Nat.le_refl _) _
  have hS2 := hS.moved hBa
  have hS3 : SpN (w1.alloc (.cells #[.int .i64 (m : Int), .slice ca m cc, .slice ia il ic] 70)) w1.heap.size w.heap.size m s0 (.slice ca m cc) (.slice ia il ic) C I := ⟨heap_alloc_new w1 _, hS2.cut, hS2.all, hS2.dat, hS2.cl, hS2.cs, hS2.bs⟩
  have hfl := l3Bags_any w1.heap.size w.heap.size m s0 _ _ C I _ hS3 hI hinv hm1 hm8
  have hsz : w.heap.size ≤ (w1.alloc (.cells #[.int .i64 (m : Int), .slice ca m cc, .slice ia il ic] 70)).heap.size := hbw.size
  clear hS hI hR hS2 hS3 hil hrun
  go_wp2_with fail
  refine hfl.mono ?_
  rintro e w2 ⟨pa, pc, F, rfl, hF, hO, hT, hb2⟩
  have hB := hbw.trans (hb2.mono hbw.size)
  clear hfl
  go_wp2_with fail
  exact bodyPost_ret (v := .tuple #[.slice pa (2 * m) pc, .int .i64 0]) (by simp [results, Try.results18, go_sem]) rfl ⟨hB, pa, pc, rfl, F, hF, ⟨owned_base hO.row hsz, ⟨fun p hp => owned_base (hO.bags.row p hp) hsz, fun p hp q hq => owned_base (hO.bags.dat p hp q hq) hsz, hO.bags.apB, hO.bags.apD⟩⟩, hT⟩
end Go.Proofs.Ytkamdaadgndmbaa
