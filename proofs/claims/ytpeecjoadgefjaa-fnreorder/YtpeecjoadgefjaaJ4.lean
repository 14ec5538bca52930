import Derived.Test.YtpeecjoadgefjaaJ3
import Derived.Test.YtpeecjoadgefjaaRState2
namespace Go.Proofs.Ytpeecjoadgefjaa
open Go.ChangeShapes Go.WideShapes Go.ChangeAt Go.RowKit
set_option linter.unusedVariables false

theorem cells6r {w : World} {B : Nat} {t : TypeId} {x0 x1 x2 x3 x4 x5 : Value} (h : w.heap[B]? = some (.cells #[x0, x1, x2, x3, x4, x5] t (0, 0))) :
    (w.cell? ⟨B, 0, none⟩ = some x0 ∧ w.cell? ⟨B, 1, none⟩ = some x1 ∧ w.cell? ⟨B, 2, none⟩ = some x2 ∧ w.cell? ⟨B, 3, none⟩ = some x3 ∧ w.cell? ⟨B, 4, none⟩ = some x4 ∧ w.cell? ⟨B, 5, none⟩ = some x5) ∧ (∀ j, w.frozen? ⟨B, j, none⟩ = false) :=
  ⟨⟨Go.Joins.cell_of_block h 0, Go.Joins.cell_of_block h 1, Go.Joins.cell_of_block h 2, Go.Joins.cell_of_block h 3, Go.Joins.cell_of_block h 4, Go.Joins.cell_of_block h 5⟩, fun j => Go.Joins.unfrozen_of_block h _⟩
theorem set6r {w : World} {b : Nat} {x0 x1 x2 x3 x4 x5 : Value} {t : TypeId} (h : w.heap[b]? = some (.cells #[x0, x1, x2, x3, x4, x5] t (0, 0))) (u v s q r o : Value) :
    ((((((w.setCell ⟨b, 0, none⟩ u).setCell ⟨b, 1, none⟩ v).setCell ⟨b, 2, none⟩ s).setCell ⟨b, 3, none⟩ q).setCell ⟨b, 4, none⟩ r).setCell ⟨b, 5, none⟩ o).heap[b]? = some (.cells #[u, v, s, q, r, o] t (0, 0)) := by
  have h0 := heap_setCell_same w b 0 _ _ u h
  have h1 := heap_setCell_same _ b 1 _ _ v h0
  have h2 := heap_setCell_same _ b 2 _ _ s h1
  have h3 := heap_setCell_same _ b 3 _ _ q h2
  have h4 := heap_setCell_same _ b 4 _ _ r h3
  exact heap_setCell_same _ b 5 _ _ o h4
theorem fill6_other (w : World) {b k : Nat} (h : k ≠ b) (u v s q r o : Value) : ((((((w.setCell ⟨b, 0, none⟩ u).setCell ⟨b, 1, none⟩ v).setCell ⟨b, 2, none⟩ s).setCell ⟨b, 3, none⟩ q).setCell ⟨b, 4, none⟩ r).setCell ⟨b, 5, none⟩ o).heap[k]? = w.heap[k]? := by
  rw [heap_setCell_other _ _ _ _ h, heap_setCell_other _ _ _ _ h, heap_setCell_other _ _ _ _ h, heap_setCell_other _ _ _ _ h, heap_setCell_other _ _ _ _ h, heap_setCell_other _ _ _ _ h]
theorem fill6_below {B : Nat} {w0 w : World} (h : Below B w0 w) {b : Nat} (hb : B ≤ b) (u v s q r o : Value) : Below B w0 ((((((w.setCell ⟨b, 0, none⟩ u).setCell ⟨b, 1, none⟩ v).setCell ⟨b, 2, none⟩ s).setCell ⟨b, 3, none⟩ q).setCell ⟨b, 4, none⟩ r).setCell ⟨b, 5, none⟩ o) :=
  (((((h.setCell (p := ⟨b, 0, none⟩) hb _).setCell (p := ⟨b, 1, none⟩) hb _).setCell (p := ⟨b, 2, none⟩) hb _).setCell (p := ⟨b, 3, none⟩) hb _).setCell (p := ⟨b, 4, none⟩) hb _).setCell (p := ⟨b, 5, none⟩) hb _

theorem l5Begin_any (x : Int) (z : Int) (w : World) : Calls Try.prog 68 #[.int .u64 x, .int .i64 z] w fun e w' => e = .returned (.agg #[.int .u64 x, .int .i64 z, .slice none 0 0, .int .i64 0, .int .u64 0, .bool false]) ∧ Below w.heap.size w w' := by
  go_enter Try.func68, Try.ntmps68
  go_wp2
  exact bodyPost_ret (v := .agg #[.int .u64 x, .int .i64 z, .slice none 0 0, .int .i64 0, .int .u64 0, .bool false]) (by simp [results, Try.results68, go_sem]) rfl ⟨rfl, (Below.refl _ _).alloc (Nat.le_refl _) _⟩

abbrev zeroB : Array Value := #[.int .u64 0, .int .i64 0, .slice none 0 0, .int .i64 0, .int .u64 0, .bool false]
set_option maxHeartbeats 1000000 in
theorem l5Run_bad (x z : Int) (hno : ¬ OkR x z) (a : Option Addr) (n cap : Nat) (w : World) :
    Calls Try.prog 52 #[.int .u64 x, .int .i64 z, .slice a n cap] w fun e w' => e = .returned (.tuple #[.agg zeroB, .slice none 0 0, .int .i64 17]) ∧ Below w.heap.size w w' := by
  have hR0 := heap_alloc_new w (.cells zeroB 83)
  have hb0 : Below w.heap.size w (w.alloc (.cells zeroB 83)) := (Below.refl _ _).alloc (Nat.le_refl _) _
  obtain ⟨V, hV⟩ : ∃ V, V = w.alloc (.cells zeroB 83) := ⟨_, rfl⟩
  rw [← hV] at hR0 hb0
  obtain ⟨R, hR⟩ : ∃ R, R = w.heap.size := ⟨_, rfl⟩
  rw [← hR] at hR0
  have hRw : w.heap.size ≤ R := by omega
  obtain ⟨⟨k0, k1, k2, k3, k4, k5⟩, kf⟩ := cells6r hR0
  have kf0 := kf 0
  have kf1 := kf 1
  have kf2 := kf 2
  have kf3 := kf 3
  have kf4 := kf 4
  have kf5 := kf 5
  obtain ⟨⟨z0, z1, z2, z3, z4, z5⟩, _⟩ := cells6r (set6r hR0 (.int .u64 0) (.int .i64 0) (.slice none 0 0) (.int .i64 0) (.int .u64 0) (.bool false))
  go_enter Try.func52, Try.ntmps52
  go_upto_region 1 with fail
  rw [← hV, ← hR]
  clear hV hR
  go_cut [21] from 12 to 20 (fun v wx => v = .bool true ∧ V = wx)
  case first =>
    by_cases h1 : 4611686018427387904 < x
    · have d1 : decide (4611686018427387904 < x) = true := by rw [decide_eq_true_iff]; exact h1
      go_wp2_with fail
      go_meet
      case rel => exact ⟨rfl, rfl⟩
    · have d1 : decide (4611686018427387904 < x) = false := by rw [decide_eq_false_iff_not]; exact h1
      by_cases h2 : z < 1
      · have d2 : decide (z < 1) = true := by rw [decide_eq_true_iff]; exact h2
        go_wp2_with fail
        go_meet
        case rel => exact ⟨rfl, rfl⟩
      · have d2 : decide (z < 1) = false := by rw [decide_eq_false_iff_not]; exact h2
        have d3 : decide (4096 < z) = true := by rw [decide_eq_true_iff]; by_cases h3 : 4096 < z; exact h3; exact absurd ⟨by omega, by omega, by omega⟩ hno
        go_wp2_with fail
        go_meet
        case rel => exact ⟨rfl, rfl⟩
  case rest =>
  obtain ⟨rfl, hwe⟩ := hcut
  subst hwe
  go_wp2_with fail
  exact bodyPost_ret (v := .tuple #[.agg zeroB, .slice none 0 0, .int .i64 17]) (by simp [results, Try.results52, go_sem, z0, z1, z2, z3, z4, z5]) rfl ⟨rfl, fill6_below hb0 hRw _ _ _ _ _ _⟩

set_option maxHeartbeats 1000000 in
theorem l5Run_limit (x : Int) (z : Nat) (hx : OkR x z) (a : Option Addr) (n cap : Nat) (w : World) (hl : 4000 < n) :
    Calls Try.prog 52 #[.int .u64 x, .int .i64 (z : Int), .slice a n cap] w fun e w' => e = .returned (.tuple #[.agg zeroB, .slice none 0 0, .int .i64 5]) ∧ Below w.heap.size w w' := by
  have hR0 := heap_alloc_new w (.cells zeroB 83)
  have hb0 : Below w.heap.size w (w.alloc (.cells zeroB 83)) := (Below.refl _ _).alloc (Nat.le_refl _) _
  obtain ⟨V, hV⟩ : ∃ V, V = w.alloc (.cells zeroB 83) := ⟨_, rfl⟩
  rw [← hV] at hR0 hb0
  obtain ⟨R, hR⟩ : ∃ R, R = w.heap.size := ⟨_, rfl⟩
  rw [← hR] at hR0
  have hRw : w.heap.size ≤ R := by omega
  obtain ⟨⟨k0, k1, k2, k3, k4, k5⟩, kf⟩ := cells6r hR0
  have kf0 := kf 0
  have kf1 := kf 1
  have kf2 := kf 2
  have kf3 := kf 3
  have kf4 := kf 4
  have kf5 := kf 5
  obtain ⟨⟨z0, z1, z2, z3, z4, z5⟩, _⟩ := cells6r (set6r hR0 (.int .u64 0) (.int .i64 0) (.slice none 0 0) (.int .i64 0) (.int .u64 0) (.bool false))
  obtain ⟨o1, o2, o3⟩ := hx
  have d1 : decide (4611686018427387904 < x) = false := by rw [decide_eq_false_iff_not]; omega
  have d2 : decide ((z : Int) < 1) = false := by rw [decide_eq_false_iff_not]; omega
  have d3 : decide (4096 < (z : Int)) = false := by rw [decide_eq_false_iff_not]; omega
  have d4 : decide ((4000 : Int) < (n : Int)) = true := by rw [decide_eq_true_iff]; omega
  go_enter Try.func52, Try.ntmps52
  go_upto_region 1 with fail
  rw [← hV, ← hR]
  clear hV hR
  go_wp2_with fail
  exact bodyPost_ret (v := .tuple #[.agg zeroB, .slice none 0 0, .int .i64 5]) (by simp [results, Try.results52, go_sem, z0, z1, z2, z3, z4, z5]) rfl ⟨rfl, fill6_below hb0 hRw _ _ _ _ _ _⟩

theorem gotAt_start {x : Int} {z : Nat} (x0 : 0 ≤ x) (hx : OkR x z) : GotAt x z (startR x) [] := by
  obtain ⟨o1, o2, o3⟩ := hx
  refine ⟨fun t _ => ?_, by simp, by simp [startR], Int.le_refl _, fun t v h => by simp [startR] at h, x0, o1, by simp [startR]; omega, by omega, by omega, .inl rfl, by simp [startR], by simp [startR]⟩
  rw [List.getD_nil]
  rfl
/-- All events, one behind the other, on the specification's side. -/
structure AllS (w0 : World) (B : Nat) (z : Nat) (x : Int) (es : List REv) (wr : World) (v ov : Value) (got : List Int) (G : GotO) : Prop where
  buf : SpB wr B w0.heap.size x z (stateR z x es) v got
  outs : OutsR wr w0.heap.size ov G
  got : G.map (·.1) = outsR z (startR x) es
  mv : Mv w0 wr B none
/-- What is left behind all events. -/
structure RanS (w : World) (z : Nat) (x : Int) (es : List REv) (w' : World) (v ov : Value) (got : List Int) (G : GotO) : Prop where
  row : w'.ownsRow w.heap.size 2 1 v got.length (got.map (.int .i64))
  at_ : GotAt x z (stateR z x es) got
  outs : OutsR w' w.heap.size ov G
  got : G.map (·.1) = outsR z (startR x) es
  below : Below w.heap.size w w'
end Go.Proofs.Ytpeecjoadgefjaa

namespace Go.Proofs.Ytpeecjoadgefjaa
open Go.ChangeShapes Go.WideShapes Go.ChangeAt Go.RowKit
set_option linter.unusedVariables false

set_option maxHeartbeats 2000000 in
set_option maxRecDepth 100000 in
theorem l5Run_ok (x : Int) (x0 : 0 ≤ x) (z : Nat) (hx : OkR x z) (a : Option Addr) (es : Evs) (n cap : Nat) (w : World) (hn : es.length = n) (hl : n ≤ 4000) (hz : EvLie w w.heap.size a es) (hok : ∀ p ∈ es, EvOk p.1) :
    Calls Try.prog 52 #[.int .u64 x, .int .i64 (z : Int), .slice a n cap] w fun e w' => ∃ v got av cp G, e = .returned (.tuple #[.agg (bufCells x z (stateR z x (es.map (·.1))) v), .slice av n cp, .int .i64 0]) ∧ RanS w z x (es.map (·.1)) w' v (.slice av n cp) got G := by
  have hR0 := heap_alloc_new w (.cells zeroB 83)
  have hb0 : Below w.heap.size w (w.alloc (.cells zeroB 83)) := (Below.refl _ _).alloc (Nat.le_refl _) _
  obtain ⟨V, hV⟩ : ∃ V, V = w.alloc (.cells zeroB 83) := ⟨_, rfl⟩
  have hs : Hid (V.heap.size = w.heap.size + 1) := by rw [hV]; unfold Hid; simp
  rw [← hV] at hR0 hb0
  obtain ⟨R, hR⟩ : ∃ R, R = w.heap.size := ⟨_, rfl⟩
  rw [← hR] at hR0
  have hRw : w.heap.size ≤ R := by omega
  have hRV : R < V.heap.size := by have := hs.out; omega
  have hVw : w.heap.size ≤ V.heap.size := by omega
  have hgs := gotAt_start x0 hx
  obtain ⟨o1, o2, o3⟩ := hx
  have d1 : decide (4611686018427387904 < x) = false := by rw [decide_eq_false_iff_not]; omega
  have d2 : decide ((z : Int) < 1) = false := by rw [decide_eq_false_iff_not]; omega
  have d3 : decide (4096 < (z : Int)) = false := by rw [decide_eq_false_iff_not]; omega
  have d4 : decide ((4000 : Int) < (n : Int)) = false := by rw [decide_eq_false_iff_not]; omega
  have hbg := l5Begin_any x z V
  obtain ⟨s, hse⟩ : ∃ s, s = stateR z x (es.map (·.1)) := ⟨_, rfl⟩
  rw [← hse]
  have HSE : Hid _ := hse
  clear hse
  obtain ⟨rx, hrx⟩ : ∃ rx, Hid (rx = s.read - x) := ⟨_, rfl⟩
  obtain ⟨fi, hfi⟩ : ∃ fi, Hid (fi = s.fin) := ⟨_, rfl⟩
  obtain ⟨kb, hkb⟩ : ∃ kb, Hid (kb = decide (s.hf = 1)) := ⟨_, rfl⟩
  unfold bufCells
  rw [← hrx.out, ← hfi.out, ← hkb.out]
  go_enter Try.func52, Try.ntmps52
  go_upto_region 1 with fail
  rw [← hV, ← hR]
  clear hV hR
  go_wp2_with fail
  refine hbg.mono ?_
  rintro e w2 ⟨rfl, hb2⟩
  have hs2 := hb2.size
  obtain ⟨W, hW⟩ : ∃ W, W = w2.alloc (.cells #[.int .u64 x, .int .i64 (z : Int), .slice none 0 0, .int .i64 0, .int .u64 0, .bool false] 83) := ⟨_, rfl⟩
  have hBW := heap_alloc_new w2 (.cells #[.int .u64 x, .int .i64 (z : Int), .slice none 0 0, .int .i64 0, .int .u64 0, .bool false] 83)
  have hbW : Below V.heap.size V (w2.alloc (.cells #[.int .u64 x, .int .i64 (z : Int), .slice none 0 0, .int .i64 0, .int .u64 0, .bool false] 83)) := hb2.alloc hs2 _
  have hWs : Hid (W.heap.size = w2.heap.size + 1) := by rw [hW]; unfold Hid; simp
  rw [← hW] at hBW hbW
  obtain ⟨B, hB⟩ : ∃ B, B = w2.heap.size := ⟨_, rfl⟩
  rw [← hB] at hBW
  have hRW := (hbW.block R hRV).trans hR0
  have hbw := hb0.trans (hbW.mono hVw)
  have hBl : B < W.heap.size := by have := hWs.out; omega
  have hRB : R ≠ B := by omega
  have hBw : w.heap.size ≤ B := by omega
  have hRl : R < W.heap.size := by omega
  have hWw : w.heap.size ≤ W.heap.size := by omega
  have hlim : EvLie W w.heap.size a es := hz.stays fun k hk => hbw.block k hk
  have HD0 : Hid (AllS W B z x ((es.map (·.1)).take 0) (W.alloc (.cells #[] 50)) (.slice none 0 0) (.slice (some ⟨W.heap.size, 0, none⟩) 0 0) [] []) := by
    refine ⟨⟨(Below.heap_alloc _ _ _ hBl).trans (hBW.trans ?_), ⟨rfl, .inl ⟨rfl, rfl⟩⟩, hgs⟩, OutsR.start (World.ownsRow_made W #[] 0 (Nat.le_refl _) (by unfold maxLen; omega) rfl), rfl, (Mv.refl _ _ _).alloc _⟩
    simp [bufCells, stateR, startR]
  clear hgs hbg hz
  have HN : Hid (es.length = n) := hn
  have HZ : Hid _ := hlim
  have HBELOW : Hid _ := hbw
  have HRW : Hid _ := hRW
  clear hn hlim hbw hRW hBW
  go_upto_region 6 with fail
  rw [← hW, ← hB]
  clear hW hB
  go_wp2_with fail
  go_loopw [10, 11] (fun ov iv wr => ∃ (k : Nat) (av : Option Addr) (cp : Nat) (v : Value) (got : List Int) (G : GotO), k ≤ n ∧ iv = .int .i64 (k : Int) ∧ ov = .slice av k cp ∧ Hid (G.length = k) ∧ Hid (AllS W B z x ((es.map (·.1)).take k) wr v (.slice av k cp) got G)) (fun _ iv _ => n - (intOf iv).toNat)
  case atStart => exact ⟨0, _, _, _, _, [], Nat.zero_le _, rfl, rfl, rfl, HD0⟩
  case round =>
  clear HD0
  obtain ⟨k, av, cp, v, got, G, hk, rfl, rfl, HGK, HD⟩ := hrel
  by_cases hlt : k < n
  case pos =>
    have hkl : k < es.length := by have := HN.out; omega
    have hszr := HD.out.mv.size
    have hzr : EvLie wr w.heap.size a es := HZ.out.stays fun j hj => HD.out.mv.block j (by omega) (by omega) (by simp)
    rcases hzr.at_ with h | ⟨b, off, rfl, hbl, hcz⟩
    · have := HN.out; simp [h] at this; omega
    obtain ⟨c1, c2, c3, c4⟩ := hcz k hkl
    have hpm : es[k] ∈ es := List.getElem_mem hkl
    have hok1 := hok _ hpm
    have hdt := hzr.dat _ hpm
    obtain ⟨⟨e, da, dc⟩, he⟩ : ∃ p, es[k] = p := ⟨_, rfl⟩
    rw [he] at c1 c2 c3 c4 hok1 hdt
    simp only at c1 c2 c3 c4 hok1 hdt
    have hkm : k < (es.map (·.1)).length := by simpa using hkl
    have hSt := stateR_take z x (es.map (·.1)) k hkm
    have hOt := outsR_take z x (es.map (·.1)) k hkm
    have hem : (es.map (·.1))[k] = e := by rw [List.getElem_map, he]
    rw [hem] at hSt hOt
    have hin := rinv_at (z := z) x0 ((es.map (·.1)).take k) (by
      intro e' he' v hv
      obtain ⟨p, hp, rfl⟩ := List.mem_map.1 (List.mem_of_mem_take he')
      exact (hok p hp).dv v hv)
    have hln : ((es.map (·.1)).take k).length = k := by rw [List.length_take, List.length_map]; omega
    rw [hln] at hin
    have hso := stepOk_of hin x0 o1 (by omega) (by omega) hok1
    have hr9 : (stateR z x ((es.map (·.1)).take k)).read + z ≤ x + 20000000 := by
      have h1 : k * z ≤ 4000 * 4096 := Nat.mul_le_mul (by omega) (by omega)
      have h2 := hin.hi
      rw [← Int.natCast_mul] at h2
      omega
    have hst := l5Step_any wr B W.heap.size x z _ v got HD.out.buf hszr e hso hr9 da dc hdt.1 (fun b' o' ha => by
      have h1 := hdt.2 b' o' ha
      refine ⟨by omega, fun e9 => ?_, by omega⟩
      have := (HD.out.buf.row.lt b' e9).1
      omega)
    obtain ⟨kd, off', dat, nn⟩ := e
    simp only [evV] at c1 c2 c3 c4 hst
    obtain ⟨Q, hQ⟩ : ∃ Q, Q = stepR z (stateR z x ((es.map (·.1)).take k)) ⟨kd, off', dat, nn⟩ := ⟨_, rfl⟩
    rw [← hQ] at hst hSt hOt
    have HST : Hid _ := hSt
    have HOT : Hid _ := hOt
    clear hSt hOt hQ hcz hem hin hln he hok hso hdt hok1 hpm hzr hkm hr9
    have hbr : b < wr.heap.size := by omega
    have hkn : (k : Int) < (n : Int) := by omega
    go_wp2_with fail
    refine hst.mono ?_
    rintro e3 w3 ⟨dv, dcp, v3, got3, rfl, hs3⟩
    have HS3 : Hid _ := hs3
    have hw3 := hs3.mv.size
    have ho3 : OutsR w3 W.heap.size (.slice av k cp) G := HD.out.outs.stays fun j cs t h1 ht hj => hs3.mv.block j (Array.getElem?_eq_some_iff.1 hj).1 (type_ne hj HD.out.buf.blk (by rcases ht with rfl | rfl <;> decide)) (fun e9 => by
      obtain ⟨c9, hc9⟩ := row_block HD.out.buf.row e9.symm
      exact type_ne hj hc9 (by rcases ht with rfl | rfl <;> decide) rfl)
    have hrow3 := ho3.row
    rw [HGK.out] at hrow3
    have HO3 : Hid _ := ho3
    have hnb := box_new w3 (.cells #[.int .i64 Q.1.code, .int .i64 Q.1.n, .slice dv Q.1.dat.length dcp] 50) _ rfl
    clear hst c1 c2 c3 c4 hs3 ho3
    go_wp2_with (at_builtin; refine wpList_appR _ (by rfl) _ _ (by rfl) W.heap.size av k cp (flatO G) (by rfl) (own_alloc hrow3 _) w3.heap.size _ _ _ (by rfl) hnb (by simp [Value.oneCell']) (by omega) (by simp; omega) ?_; intro g9 cap' w4 ho4 hg4)
    have hP := OutsR.push (q := Q.1) (dv := .slice dv Q.1.dat.length dcp) (lim := wr.heap.size) (base := W.heap.size) (ov := .slice av k cp) (G := G) (g := g9) (cap := cap') (w := w3.alloc (.cells #[.int .i64 Q.1.code, .int .i64 Q.1.n, .slice dv Q.1.dat.length dcp] 50)) (w' := w4)
      (HO3.out.stays fun j cs t _ _ hj => Below.heap_alloc _ _ _ (Array.getElem?_eq_some_iff.1 hj).1) hszr (own_alloc HS3.out.row _) (fun p hp j hj => ((HD.out.outs.dat p hp).lt j hj).2) hg4 (by rw [HGK.out]; exact ho4)
    rw [HGK.out] at hP
    have hkeep : ∀ {j : Nat} {cs : Array Value} {t : TypeId}, w3.heap[j]? = some (.cells cs t (0, 0)) → t ≠ 50 → w4.heap[j]? = w3.heap[j]? := fun {j cs t} hj ht => by
      have hjl : j < w3.heap.size := (Array.getElem?_eq_some_iff.1 hj).1
      refine (hg4.block j (by simp; omega) (fun e9 => ?_)).trans (Below.heap_alloc _ _ _ hjl)
      obtain ⟨c9, hc9⟩ := row_block hrow3 e9.symm
      exact type_ne hj hc9 ht rfl
    have hb4 : SpB w4 B W.heap.size x z Q.2 v3 got3 := HS3.out.buf.kept (hkeep HS3.out.buf.blk (by decide)) fun j hj => by
      obtain ⟨c9, hc9⟩ := row_block HS3.out.buf.row hj
      exact hkeep hc9 (by decide)
    have hm4 : Mv W w4 B none := ((HD.out.mv.trans HS3.out.mv (.inr fun j hj => (HD.out.buf.row.lt j hj).1)).alloc _).grown hg4 (.inr (.inr fun j hj => (hrow3.lt j hj).1))
    go_roundw
    case rel =>
      refine ⟨k + 1, _, _, v3, got3, G ++ [(Q.1, .slice dv Q.1.dat.length dcp)], by omega, by go_num, rfl, by unfold Hid; rw [List.length_append, HGK.out]; rfl, ?_⟩
      refine ⟨?_, hP, ?_, hm4⟩
      · rw [HST.out]
        exact hb4
      · rw [HOT.out, List.map_append, HD.out.got]
        rfl
    case measure => simp [intOf]; omega
  case neg =>
    obtain rfl : k = n := by omega
    have hkn : ¬ (k : Int) < (k : Int) := by omega
    have htk : (es.map (·.1)).take k = es.map (·.1) := List.take_of_length_le (by have := HN.out; simp; omega)
    have hD := HD.out
    rw [htk] at hD
    clear HD htk
    have hbuf := hD.buf
    rw [← HSE.out] at hbuf
    have HDD : Hid _ := hD
    obtain ⟨⟨c0, c1, c2, c3, c4, c5⟩, cf⟩ := hbuf.cells
    obtain ⟨va, vc, rfl, _⟩ := hbuf.shape
    rw [← hrx.out] at c3
    rw [← hfi.out] at c4
    rw [← hkb.out] at c5
    have hR9 : wr.heap[R]? = some (.cells zeroB 83 (0, 0)) := (hD.mv.block R hRl hRB (by simp)).trans HRW.out
    obtain ⟨⟨k0, k1, k2, k3, k4, k5⟩, kf⟩ := cells6r hR9
    have kf0 := kf 0
    have kf1 := kf 1
    have kf2 := kf 2
    have kf3 := kf 3
    have kf4 := kf 4
    have kf5 := kf 5
    obtain ⟨⟨z0, z1, z2, z3, z4, z5⟩, _⟩ := cells6r (set6r hR9 (.int .u64 x) (.int .i64 (z : Int)) (.slice va got.length vc) (.int .i64 rx) (.int .u64 fi) (.bool kb))
    clear hD hbuf cf
    go_wp2_with fail
    refine bodyPost_ret (v := .tuple #[.agg #[.int .u64 x, .int .i64 (z : Int), .slice va got.length vc, .int .i64 rx, .int .u64 fi, .bool kb], .slice av k cp, .int .i64 0]) (by simp [results, Try.results52, go_sem, z0, z1, z2, z3, z4, z5]) rfl ⟨.slice va got.length vc, got, av, cp, rfl, G, ?_⟩
    refine ⟨owned_base (row_stays HDD.out.buf.row fun j hj => fill6_other _ (by have := (HDD.out.buf.row.lt j hj).1; omega) _ _ _ _ _ _) hWw, HDD.out.buf.got, ?_, HDD.out.got, ?_⟩
    · have h1 := HDD.out.outs.stays (w' := ((((((wr.setCell ⟨R, 0, none⟩ (.int .u64 x)).setCell ⟨R, 1, none⟩ (.int .i64 (z : Int))).setCell ⟨R, 2, none⟩ (.slice va got.length vc)).setCell ⟨R, 3, none⟩ (.int .i64 rx)).setCell ⟨R, 4, none⟩ (.int .u64 fi)).setCell ⟨R, 5, none⟩ (.bool kb))) fun j cs t h1 _ _ => fill6_other _ (by omega) _ _ _ _ _ _
      exact ⟨owned_base h1.row hWw, fun p hp => owned_base (h1.dat p hp) hWw, h1.apart⟩
    · refine fill6_below ?_ hRw _ _ _ _ _ _
      have hm := HDD.out.mv
      exact ⟨hm.os.trans HBELOW.out.os, hm.tape.trans HBELOW.out.tape, hm.output.trans HBELOW.out.output, Nat.le_trans HBELOW.out.size hm.size, fun j hj => (hm.block j (by omega) (by omega) (by simp)).trans (HBELOW.out.block j hj)⟩
end Go.Proofs.Ytpeecjoadgefjaa
