import Derived.Test.YtkamdaadgndmbaaNFl7
namespace Go.Proofs.Ytkamdaadgndmbaa
open Go.ChangeShapes Go.WideShapes Go.ChangeAt Go.RowKit
set_option linter.unusedVariables false

set_option maxHeartbeats 400000 in
theorem implFlight_bad (x : Int) (hno : ¬ OkN x) (a : Option Addr) (n cap : Nat) (w : World) :
    Calls Try.prog 8 #[.int .i64 x, .slice a n cap] w fun e w' => e = .returned (.tuple #[.slice none 0 0, .int .i64 6]) ∧ Below w.heap.size w w' := by
  have hrun := runNet_bad x hno a n cap w
  go_enter Try.func8, Try.ntmps8
  go_wp2_with fail
  refine hrun.mono ?_
  rintro e w1 ⟨rfl, hb1⟩
  have hbw := hb1.alloc hb1.size (.cells #[.slice none 0 0] 62)
  go_wp2_with fail
  exact bodyPost_ret (v := .tuple #[.slice none 0 0, .int .i64 6]) (by simp [results, Try.results8, go_sem]) rfl ⟨rfl, hbw⟩
set_option maxHeartbeats 400000 in
theorem implFlight_any (m : Nat) (hm : OkN m) (a : Option Addr) (es : Evs) (n cap : Nat) (w : World) (hn : es.length = n) (hz : EvLie w w.heap.size a es) (hok : ∀ p ∈ es, EvOk p.1) :
    Calls Try.prog 8 #[.int .i64 (m : Int), .slice a n cap] w fun e w' => Below w.heap.size w w' ∧ ((4000 < n ∧ e = .returned (.tuple #[.slice none 0 0, .int .i64 5])) ∨ (n ≤ 4000 ∧ ∃ av cp, e = .returned (.tuple #[.slice av (2 * m) cp, .int .i64 0]) ∧ ∃ F, F.length = 2 * m ∧ OutsF w' w.heap.size (.slice av (2 * m) cp) F ∧ F.map FB.told = toldU (stateN m (es.map (·.1))) (2 * m))) := by
  have hrun := runNet_any m hm a es n cap w hn hz hok
  have hinv : InvN (stateN m (es.map (·.1))) := by
    refine (invN_all m (es.map (·.1)) ?_ startN invN_start).1
    intro e' he' v hv
    obtain ⟨p, hp, rfl⟩ := List.mem_map.1 he'
    exact (hok p hp).dv v hv
  obtain ⟨s0, hs0⟩ : ∃ s0 : NS, s0 = stateN m (es.map (·.1)) := ⟨_, rfl⟩
  have HS0 : Hid _ := hs0
  rw [← hs0] at hinv ⊢
  clear hs0
  obtain ⟨o1, o2⟩ := hm
  have hm8 : m ≤ 8 := by omega
  clear hn
  go_enter Try.func8, Try.ntmps8
  go_wp2_with fail
  refine hrun.mono ?_
  rintro e w1 (⟨hl, hb1, X, rfl⟩ | ⟨hl, X, av, cp, G, rfl, hR⟩)
  · have hbw := hb1.alloc hb1.size (.cells #[.slice (some ⟨X, 0, none⟩) m m] 62)
    go_wp2_with fail
    exact bodyPost_ret (v := .tuple #[.slice none 0 0, .int .i64 5]) (by simp [results, Try.results8, go_sem]) rfl ⟨hbw, .inl ⟨hl, rfl⟩⟩
  · have hbw := hR.below.alloc hR.below.size (.cells #[.slice (some ⟨X, 0, none⟩) m m] 62)
    obtain ⟨L, hL, hN, _⟩ := hR.net
    rw [← HS0.out] at hN
    have hsz : w.heap.size ≤ (w1.alloc (.cells #[.slice (some ⟨X, 0, none⟩) m m] 62)).heap.size := hbw.size
    have hfl := flight_any w1.heap.size X w.heap.size m s0 L (w1.alloc (.cells #[.slice (some ⟨X, 0, none⟩) m m] 62)) (hN.moved ((Below.refl _ _).alloc (Nat.le_refl _) _)) hinv (heap_alloc_new w1 _) hL hm8
    clear hN hR hrun
    go_wp2_with fail
    refine hfl.mono ?_
    rintro e w2 ⟨oa, oc, F, rfl, hF, hO, hT, hb2⟩
    have hB := hbw.trans (hb2.mono hbw.size)
    clear hfl
    go_wp2_with fail
    exact bodyPost_ret (v := .tuple #[.slice oa (2 * m) oc, .int .i64 0]) (by simp [results, Try.results8, go_sem]) rfl ⟨hB, .inr ⟨hl, oa, oc, rfl, F, hF, ⟨owned_base hO.row hsz, ⟨fun p hp => owned_base (hO.bags.row p hp) hsz, fun p hp q hq => owned_base (hO.bags.dat p hp q hq) hsz, hO.bags.apB, hO.bags.apD⟩⟩, hT⟩⟩
end Go.Proofs.Ytkamdaadgndmbaa
