import Derived.Test.YtkamdaadgndmbaaNAll
namespace Go.Proofs.Ytkamdaadgndmbaa
open Go.ChangeShapes Go.WideShapes Go.ChangeAt Go.RowKit
set_option linter.unusedVariables false

theorem cells1r {w : World} {B : Nat} {t : TypeId} {x0 : Value} (h : w.heap[B]? = some (.cells #[x0] t (0, 0))) : w.cell? ⟨B, 0, none⟩ = some x0 ∧ w.frozen? ⟨B, 0, none⟩ = false :=
  ⟨Go.Joins.cell_of_block h 0, Go.Joins.unfrozen_of_block h _⟩
theorem set1r {w : World} {b : Nat} {x : Value} {t : TypeId} (h : w.heap[b]? = some (.cells #[x] t (0, 0))) (u : Value) : (w.setCell ⟨b, 0, none⟩ u).heap[b]? = some (.cells #[u] t (0, 0)) := heap_setCell_same w b 0 _ _ u h

def OkN (n : Int) : Prop := 1 ≤ n ∧ n ≤ 8
set_option maxHeartbeats 400000 in
theorem runNet_bad (x : Int) (hno : ¬ OkN x) (a : Option Addr) (n cap : Nat) (w : World) :
    Calls Try.prog 25 #[.int .i64 x, .slice a n cap] w fun e w' => e = .returned (.tuple #[.agg #[.slice none 0 0], .slice none 0 0, .int .i64 6]) ∧ Below w.heap.size w w' := by
  have hR0 := heap_alloc_new w (.cells #[.slice none 0 0] 62)
  have hb0 : Below w.heap.size w (w.alloc (.cells #[.slice none 0 0] 62)) := (Below.refl _ _).alloc (Nat.le_refl _) _
  obtain ⟨V, hV⟩ : ∃ V, V = w.alloc (.cells #[.slice none 0 0] 62) := ⟨_, rfl⟩
  rw [← hV] at hR0 hb0
  obtain ⟨R, hR⟩ : ∃ R, R = w.heap.size := ⟨_, rfl⟩
  rw [← hR] at hR0
  have hRw : w.heap.size ≤ R := by omega
  obtain ⟨k0, kf0⟩ := cells1r hR0
  obtain ⟨z0, _⟩ := cells1r (set1r hR0 (.slice none 0 0))
  have hw := within_no x 1 8 V (fun h => hno ⟨h.1, h.2⟩)
  have HN : Hid _ := hno
  clear hno
  go_enter Try.func25, Try.ntmps25
  go_upto_region 1 with fail
  rw [← hV, ← hR]
  clear hV hR
  go_wp2_with fail
  refine hw.mono ?_
  rintro e w1 ⟨rfl, hw1⟩
  subst hw1
  go_wp2_with fail
  exact bodyPost_ret (v := .tuple #[.agg #[.slice none 0 0], .slice none 0 0, .int .i64 6]) (by simp [results, Try.results25, go_sem, z0]) rfl ⟨rfl, hb0.setCell (p := ⟨R, 0, none⟩) hRw _⟩

theorem runAllN_limit (f : Value) (a : Option Addr) (n cap : Nat) (w : World) (hl : 4000 < n) :
    Calls Try.prog 41 #[.slice a n cap, f] w fun e w' => e = .returned (.tuple #[.slice none 0 0, .int .i64 5]) ∧ w' = w := by
  have d4 : decide ((4000 : Int) < (n : Int)) = true := by rw [decide_eq_true_iff]; omega
  go_enter Try.func41, Try.ntmps41
  go_wp2_with fail
  go_ret2
  exact ⟨rfl, rfl⟩

/-- What is left behind all events. -/
structure RanN (w : World) (X n : Nat) (es : List NEv) (w' : World) (ov : Value) (G : GotO) : Prop where
  net : ∃ L, L.length = n ∧ NetAt w' X w.heap.size (stateN n es) L ∧ ApartG L G
  x : w.heap.size ≤ X
  outs : OutsN w' w.heap.size ov G
  got : G.map (·.1) = outsN n startN es
  below : Below w.heap.size w w'
set_option maxHeartbeats 1000000 in
theorem runNet_any (m : Nat) (hm : OkN m) (a : Option Addr) (es : Evs) (n cap : Nat) (w : World) (hn : es.length = n) (hz : EvLie w w.heap.size a es) (hok : ∀ p ∈ es, EvOk p.1) :
    Calls Try.prog 25 #[.int .i64 (m : Int), .slice a n cap] w fun e w' => (4000 < n ∧ Below w.heap.size w w' ∧ ∃ X, e = .returned (.tuple #[.agg #[.slice (some ⟨X, 0, none⟩) m m], .slice none 0 0, .int .i64 5])) ∨ (n ≤ 4000 ∧ ∃ X av cp G, e = .returned (.tuple #[.agg #[.slice (some ⟨X, 0, none⟩) m m], .slice av n cp, .int .i64 0]) ∧ RanN w X m (es.map (·.1)) w' (.slice av n cp) G) := by
  have hR0 := heap_alloc_new w (.cells #[.slice none 0 0] 62)
  have hb0 : Below w.heap.size w (w.alloc (.cells #[.slice none 0 0] 62)) := (Below.refl _ _).alloc (Nat.le_refl _) _
  obtain ⟨V, hV⟩ : ∃ V, V = w.alloc (.cells #[.slice none 0 0] 62) := ⟨_, rfl⟩
  have hs : Hid (V.heap.size = w.heap.size + 1) := by rw [hV]; unfold Hid; simp
  rw [← hV] at hR0 hb0
  obtain ⟨R, hR⟩ : ∃ R, R = w.heap.size := ⟨_, rfl⟩
  rw [← hR] at hR0
  have hRw : w.heap.size ≤ R := by omega
  have hRV : R < V.heap.size := by have := hs.out; omega
  have hVw : w.heap.size ≤ V.heap.size := by omega
  obtain ⟨o1, o2⟩ := hm
  have hw := within_yes (m : Int) 1 8 V o1 o2
  have hnb := newNet_any m V (by omega) (by omega)
  go_enter Try.func25, Try.ntmps25
  go_upto_region 1 with fail
  rw [← hV, ← hR]
  clear hV hR
  go_wp2_with fail
  refine hw.mono ?_
  rintro e w1 ⟨rfl, hw1⟩
  subst hw1
  go_wp2_with fail
  refine hnb.mono ?_
  rintro e w2 ⟨X, rfl, hX, hN2, hb2⟩
  have hs2 := hb2.size
  obtain ⟨W, hW⟩ : ∃ W, W = w2.alloc (.cells #[.slice (some ⟨X, 0, none⟩) m m] 62) := ⟨_, rfl⟩
  have hBW := heap_alloc_new w2 (.cells #[.slice (some ⟨X, 0, none⟩) m m] 62)
  have hbW : Below w1.heap.size w1 (w2.alloc (.cells #[.slice (some ⟨X, 0, none⟩) m m] 62)) := hb2.alloc hs2 _
  have hNW : NetAt W X w1.heap.size startN (List.replicate m newLk) := by rw [hW]; exact hN2.moved ((Below.refl _ _).alloc (Nat.le_refl _) _)
  have hWs : Hid (W.heap.size = w2.heap.size + 1) := by rw [hW]; unfold Hid; simp
  rw [← hW] at hBW hbW
  obtain ⟨B, hB⟩ : ∃ B, B = w2.heap.size := ⟨_, rfl⟩
  rw [← hB] at hBW
  have hRW := (hbW.block R hRV).trans hR0
  have hbw := hb0.trans (hbW.mono hb0.size)
  have hRX : R ≠ X := by omega
  have hRW' : R < W.heap.size := by have := hWs.out; omega
  have hBW' : B < W.heap.size := by have := hWs.out; omega
  have hBX : B ≠ X := type_ne hBW hNW.blk (by decide)
  have HN : Hid (es.length = n) := hn
  have hwW := hbw.size
  clear hn
  by_cases hl : n ≤ 4000
  · have hra := runAllN_any B X w1.heap.size m w.heap.size a es n cap W HN.out hl _ (by simp) (by omega) hNW hBW (by omega) hVw (by omega) (hz.stays fun k hk => hbw.block k hk) hok
    go_wp2_with fail
    rw [← hW, ← hB]
    clear hW hB
    refine hra.mono ?_
    rintro e w3 ⟨av, cp, G, rfl, hA⟩
    have hR3 := (hA.keep.block R hRW' hRX (.inr fun cs => by rw [hRW]; simp)).trans hRW
    have hB3 := (hA.keep.block B hBW' hBX (.inr fun cs => by rw [hBW]; simp)).trans hBW
    obtain ⟨q0, qf0⟩ := cells1r hB3
    obtain ⟨k0, kf0⟩ := cells1r hR3
    obtain ⟨z0, _⟩ := cells1r (set1r hR3 (.slice (some ⟨X, 0, none⟩) m m))
    clear hra
    have HA : Hid _ := hA
    have HR3 : Hid _ := hR3
    have hot := hA.outs.stays (w' := w3.setCell ⟨R, 0, none⟩ (.slice (some ⟨X, 0, none⟩) m m)) (fun k cs t h1 ht hc => heap_setCell_other _ _ _ _ (type_ne hc hR3 (by rcases ht with rfl | rfl <;> decide)))
    have hnt : ∃ L, L.length = m ∧ NetAt (w3.setCell ⟨R, 0, none⟩ (.slice (some ⟨X, 0, none⟩) m m)) X w.heap.size (stateN m (es.map (·.1))) L ∧ ApartG L G := by
      obtain ⟨L, hL, hNL, hAG⟩ := hA.net
      have hNL := hNL.stays (w' := w3.setCell ⟨R, 0, none⟩ (.slice (some ⟨X, 0, none⟩) m m)) (fun k cs t ht hc => heap_setCell_other _ _ _ _ (type_ne hc hR3 (by rcases ht with rfl | rfl | rfl <;> decide)))
      exact ⟨L, hL, ⟨hNL.blk, ⟨fun p hp => owned_base (hNL.bags.row p hp) hVw, fun p hp q hq => owned_base (hNL.bags.dat p hp q hq) hVw, hNL.bags.apB, hNL.bags.apD⟩, hNL.cut, hNL.bag⟩, hAG⟩
    go_wp2_with fail
    refine bodyPost_ret (v := .tuple #[.agg #[.slice (some ⟨X, 0, none⟩) m m], .slice av n cp, .int .i64 0]) (by simp [results, Try.results25, go_sem, z0]) rfl (.inr ⟨hl, X, av, cp, G, rfl, hnt, Nat.le_trans hVw hX, ⟨owned_base hot.row hVw, fun p hp => owned_base (hot.dat p hp) hVw, hot.apart⟩, HA.out.got, ?_⟩)
    refine Below.setCell (p := ⟨R, 0, none⟩) ⟨HA.out.keep.os.trans hbw.os, HA.out.keep.tape.trans hbw.tape, HA.out.keep.output.trans hbw.output, Nat.le_trans hbw.size HA.out.keep.size, fun k hk => ?_⟩ hRw _
    exact (HA.out.keep.block k (by omega) (by omega) (.inl (by omega))).trans (hbw.block k hk)
  · obtain ⟨q0, qf0⟩ := cells1r hBW
    obtain ⟨k0, kf0⟩ := cells1r hRW
    obtain ⟨z0, _⟩ := cells1r (set1r hRW (.slice (some ⟨X, 0, none⟩) m m))
    have hra := fun f => runAllN_limit f a n cap W (by omega)
    go_wp2_with fail
    rw [← hW, ← hB]
    clear hW hB
    refine (hra _).mono ?_
    rintro e w3 ⟨rfl, hw3⟩
    subst hw3
    go_wp2_with fail
    exact bodyPost_ret (v := .tuple #[.agg #[.slice (some ⟨X, 0, none⟩) m m], .slice none 0 0, .int .i64 5]) (by simp [results, Try.results25, go_sem, z0]) rfl (.inl ⟨by omega, hbw.setCell (p := ⟨R, 0, none⟩) hRw _, X, rfl⟩)

set_option maxHeartbeats 400000 in
theorem implNetRun_bad (x : Int) (hno : ¬ OkN x) (a : Option Addr) (n cap : Nat) (w : World) :
    Calls Try.prog 7 #[.int .i64 x, .slice a n cap] w fun e w' => e = .returned (.tuple #[.slice none 0 0, .int .i64 6]) ∧ Below w.heap.size w w' := by
  have hrun := runNet_bad x hno a n cap w
  go_enter Try.func7, Try.ntmps7
  go_wp2_with fail
  refine hrun.mono ?_
  rintro e w1 ⟨rfl, hb1⟩
  have hbw := hb1.alloc hb1.size (.cells #[.slice none 0 0] 62)
  go_wp2_with fail
  exact bodyPost_ret (v := .tuple #[.slice none 0 0, .int .i64 6]) (by simp [results, Try.results7, go_sem]) rfl ⟨rfl, hbw⟩
set_option maxHeartbeats 400000 in
theorem implNetRun_any (m : Nat) (hm : OkN m) (a : Option Addr) (es : Evs) (n cap : Nat) (w : World) (hn : es.length = n) (hz : EvLie w w.heap.size a es) (hok : ∀ p ∈ es, EvOk p.1) :
    Calls Try.prog 7 #[.int .i64 (m : Int), .slice a n cap] w fun e w' => Below w.heap.size w w' ∧ ((4000 < n ∧ e = .returned (.tuple #[.slice none 0 0, .int .i64 5])) ∨ (n ≤ 4000 ∧ ∃ av cp G, e = .returned (.tuple #[.slice av n cp, .int .i64 0]) ∧ OutsN w' w.heap.size (.slice av n cp) G ∧ G.map (·.1) = outsN m startN (es.map (·.1)))) := by
  have hrun := runNet_any m hm a es n cap w hn hz hok
  clear hn
  go_enter Try.func7, Try.ntmps7
  go_wp2_with fail
  refine hrun.mono ?_
  rintro e w1 (⟨hl, hb1, X, rfl⟩ | ⟨hl, X, av, cp, G, rfl, hR⟩)
  · have hbw := hb1.alloc hb1.size (.cells #[.slice (some ⟨X, 0, none⟩) m m] 62)
    go_wp2_with fail
    exact bodyPost_ret (v := .tuple #[.slice none 0 0, .int .i64 5]) (by simp [results, Try.results7, go_sem]) rfl ⟨hbw, .inl ⟨hl, rfl⟩⟩
  · have hbw := hR.below.alloc hR.below.size (.cells #[.slice (some ⟨X, 0, none⟩) m m] 62)
    go_wp2_with fail
    exact bodyPost_ret (v := .tuple #[.slice av n cp, .int .i64 0]) (by simp [results, Try.results7, go_sem]) rfl ⟨hbw, .inr ⟨hl, av, cp, G, rfl, hR.outs.stays fun k cs t _ _ hk => Below.heap_alloc _ _ _ (Array.getElem?_eq_some_iff.1 hk).1, hR.got⟩⟩
end Go.Proofs.Ytkamdaadgndmbaa
