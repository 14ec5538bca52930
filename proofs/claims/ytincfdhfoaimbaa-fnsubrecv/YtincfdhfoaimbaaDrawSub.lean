import Derived.Test.YtincfdhfoaimbaaDrawEv2
import Derived.Test.YtincfdhfoaimbaaSubLaw0
namespace Go.Proofs.Ytincfdhfoaimbaa
open Go.ChangeShapes Go.WideShapes Go.ChangeAt Go.RowKit
set_option linter.unusedVariables false

/-- What is drawn. -/
def Drawn (w : World) (e : Ending) (w' : World) : Prop := ∃ (c : Cf) (es : Triples) (av : Option Addr) (n cp : Nat), e = .returned (.tuple #[cfV c, .slice av n cp]) ∧ es.length = n ∧ n ≤ 800000 ∧ (0 ≤ c.isn ∧ c.isn ≤ 4294967295) ∧ w'.ownsRow w.heap.size 43 3 (.slice av n cp) n (flat3 .i64 .i64 .u32 es) ∧ (∀ e ∈ es, 0 ≤ e.2.2 ∧ e.2.2 ≤ 4294967295) ∧ Below w.heap.size w w'

theorem own_set1 {w : World} {base k : Nat} {e : TypeId} {size : Nat} {v : Value} {n : Nat} {xs : List Value} (h : w.ownsRow base e size v n xs) (j : Nat) (x : Value) (hk : k < base) : (w.setCell ⟨k, j, none⟩ x).ownsRow base e size v n xs :=
  h.kept (grown_set w k j x) (by
    cases hu : v.ownBlock with
    | none => exact .inl rfl
    | some i => exact .inr (fun e => by have := (h.lt i hu).1; have := Option.some.inj e; omega))
theorem own_put6 {w : World} {base R : Nat} {e : TypeId} {size : Nat} {v : Value} {n : Nat} {xs : List Value} (h : w.ownsRow base e size v n xs) (hR : R < base) (x0 x1 x2 x3 x4 x5 : Value) : (put6 w R x0 x1 x2 x3 x4 x5).ownsRow base e size v n xs :=
  h.kept (put6_grown w R x0 x1 x2 x3 x4 x5) (by
    cases hu : v.ownBlock with
    | none => exact .inl rfl
    | some k => exact .inr (fun e => by have := (h.lt k hu).1; have := Option.some.inj e; omega))

set_option maxHeartbeats 2000000 in
set_option maxRecDepth 100000 in
theorem drawSub_any (w : World) (a : Option Addr) (zs : List Int) (cap : Nat) (hz : Ints .u8 w a zs) (hv : ∀ x ∈ zs, 0 ≤ x ∧ x ≤ 255) (hl : zs.length ≤ 1048576) :
    Calls Try.prog 16 #[.slice a zs.length cap] w (Drawn w) := by
  obtain ⟨W1, hW1⟩ : ∃ W, W = w.alloc (.cells #[.int .u32 0, .int .i64 0, .int .i64 0, .int .i64 0, .int .i64 0, .int .i64 0] 35) := ⟨_, rfl⟩
  have hb1 : Below w.heap.size w W1 := by rw [hW1]; exact (Below.refl _ _).alloc (Nat.le_refl _) _
  have hR1 : W1.heap[w.heap.size]? = some (.cells #[.int .u32 0, .int .i64 0, .int .i64 0, .int .i64 0, .int .i64 0, .int .i64 0] 35) := by rw [hW1]; exact box_new _ _ _ rfl
  have z1 : w.heap.size < W1.heap.size := by rw [hW1]; simp
  have hbg := begin_any W1 a zs cap (hz.moved3 hb1) hv hl
  go_enter Try.func16, Try.ntmps16
  go_wp2_with fail
  rw [← hW1]
  clear hW1
  refine hbg.mono ?_
  rintro e w2 ⟨st, rfl, e0, e1, hb2⟩
  have hR2 := (hb2.block _ z1).trans hR1
  have z2 := hb2.size
  have hbw2 := hb1.trans (hb2.mono hb1.size)
  have hd0 := drawing_start hbw2 a zs.length cap e0 e1
  obtain ⟨V, hV⟩ : ∃ V, V = w2.alloc (.cells #[.slice a zs.length cap, .int .i64 0, .int .u64 st] 78) := ⟨_, rfl⟩
  have hRV : V.heap[w.heap.size]? = some (.cells #[.int .u32 0, .int .i64 0, .int .i64 0, .int .i64 0, .int .i64 0, .int .i64 0] 35) := by rw [hV]; exact (Below.heap_alloc _ _ _ (by omega)).trans hR2
  have zV : w2.heap.size < V.heap.size := by rw [hV]; simp
  rw [← hV] at hd0
  obtain ⟨b, hbe⟩ : ∃ b, b = w2.heap.size := ⟨_, rfl⟩
  have hbR : w.heap.size < b := by omega
  rw [← hbe] at hd0 zV
  clear hbg hb2 hR1 hR2 hbw2 hb1 e0 e1
  go_wp2_with fail
  rw [← hV, ← hbe]
  clear hV
  have HBE : Hid (b = w2.heap.size) := hbe
  clear hbe
  refine (drawConfig_any w V b a zs cap hd0 hz hv hl).mono ?_
  rintro e w3 ⟨c, rfl, hc, hi, hd3, hG3⟩
  have hR3 := (hG3.block _ (by omega) (by omega)).trans hRV
  have z3 := hG3.size
  have hdC := hd3.alloc (.cells (cfC c) 35)
  have hRC := (Below.heap_alloc w3 (.cells (cfC c) 35) _ (show w.heap.size < w3.heap.size by omega)).trans hR3
  have hCC : (w3.alloc (.cells (cfC c) 35)).heap[w3.heap.size]? = some (.cells (cfC c) 35) := box_new _ _ _ rfl
  have zC : (w3.alloc (.cells (cfC c) 35)).heap.size = w3.heap.size + 1 := by simp
  obtain ⟨V4, hV4⟩ : ∃ V, V = w3.alloc (.cells (cfC c) 35) := ⟨_, rfl⟩
  rw [← hV4] at hdC hRC hCC zC
  obtain ⟨C, hCe⟩ : ∃ C, C = w3.heap.size := ⟨_, rfl⟩
  have hCb : b < C := by omega
  rw [← hCe] at hCC zC
  clear hd0 hRV hG3 hR3 hd3
  go_wp2_with fail
  rw [← hV4, ← hCe]
  clear hV4
  have HCE : Hid (C = w3.heap.size) := hCe
  clear hCe
  have hzl : 0 < 40 + ((zs.length : Int)) / 2 := by omega
  refine (drawNext_any w V4 b a zs cap _ hdC hz hv hl (by omega) (by omega)).mono ?_
  rintro e w5 ⟨r5, rfl, l5, u5, hd5, g5⟩
  have hR5 := (g5.block _ (by omega) (by simp; omega)).trans hRC
  have hC5 := (g5.block _ (by omega) (by simp; omega)).trans hCC
  have z5 := g5.size
  clear g5 hRC hCC hdC
  go_wp2_with fail
  refine (drawNext_any w w5 b a zs cap 30 hd5 hz hv hl (by omega) (by omega)).mono ?_
  rintro e w6 ⟨q, rfl, l6, u6, hd6, g6⟩
  have hR6 := (g6.block _ (by omega) (by simp; omega)).trans hR5
  have hC6 := (g6.block _ (by omega) (by simp; omega)).trans hC5
  have z6 := g6.size
  clear g6 hR5 hC5 hd5
  by_cases hq : q = 0
  · subst hq
    go_wp2_with fail
    refine (drawNext_any w w6 b a zs cap 2 hd6 hz hv hl (by omega) (by omega)).mono ?_
    rintro e w7 ⟨r7, rfl, l7, u7, hd7, g7⟩
    have hR7 := (g7.block _ (by omega) (by simp; omega)).trans hR6
    have hC7 := (g7.block _ (by omega) (by simp; omega)).trans hC6
    have z7 := g7.size
    clear g7 hR6 hC6 hd6
    obtain ⟨N, hNe⟩ : ∃ N : Nat, (N : Int) = 4000 + r7 := ⟨(4000 + r7).toNat, by omega⟩
    have hN5 : N ≤ 800000 := by omega
    obtain ⟨⟨c0, c1, c2, c3, c4, c5⟩, _⟩ := cells6 hC7
    have hdv := drawEvents_any w w7 b a zs cap hd7 hz hv hl c hc hi N hN5
    go_wp2_with fail
    rw [← hNe]
    refine hdv.mono ?_
    rintro e w8 ⟨av, cp, es, rfl, hes, hrow, hxs, hd8, hG8⟩
    have hR8 := (hG8.block _ (by omega) (by omega)).trans hR7
    have hC8 := (hG8.block _ (by omega) (by omega)).trans hC7
    have z8 := hG8.size
    have hrow := own_base hrow (show C + 1 ≤ w7.heap.size by omega)
    clear c0 c1 c2 c3 c4 c5 hdv hG8
    obtain ⟨⟨c0, c1, c2, c3, c4, c5⟩, cf⟩ := cells6 hC8
    obtain ⟨⟨p0, p1, p2, p3, p4, p5⟩, pf⟩ := cells6 hR8
    have cf1 := cf 1
    have cf2 := cf 2
    have cf3 := cf 3
    have cf4 := cf 4
    have cf5 := cf 5
    have pf0 := pf 0
    have pf1 := pf 1
    have pf2 := pf 2
    have pf3 := pf 3
    have pf4 := pf 4
    have pf5 := pf 5
    have n1 : ¬ C = w.heap.size := by omega
    have n2 : ¬ w.heap.size = C := by omega
    have HES : Hid (es.length = N) := hes
    clear cf pf hes
    have hD := put6_drawing hd8 w.heap.size (Nat.le_refl _) (by omega) (.int .u32 c.isn) (.int .i64 c.win) (.int .i64 c.rto) (.int .i64 c.mrto) (.int .i64 c.da) (.int .i64 c.pe)
    have hZ := put6_block hR8 (.int .u32 c.isn) (.int .i64 c.win) (.int .i64 c.rto) (.int .i64 c.mrto) (.int .i64 c.da) (.int .i64 c.pe)
    have hRow := own_put6 hrow (R := w.heap.size) (by omega) (.int .u32 c.isn) (.int .i64 c.win) (.int .i64 c.rto) (.int .i64 c.mrto) (.int .i64 c.da) (.int .i64 c.pe)
    obtain ⟨⟨y0, y1, y2, y3, y4, y5⟩, _⟩ := cells6 hZ
    go_wp2
    exact bodyPost_ret (v := .tuple #[.agg #[.int .u32 c.isn, .int .i64 c.win, .int .i64 c.rto, .int .i64 c.mrto, .int .i64 c.da, .int .i64 c.pe], .slice av N cp]) (by simp [results, Try.results16, go_sem, y0, y1, y2, y3, y4, y5]) rfl ⟨⟨c.isn, c.win, c.rto, c.mrto, c.da, c.pe⟩, es, av, N, cp, rfl, HES.out, hN5, hi, own_base hRow (by omega), hxs, hD.bel⟩
  · have hqb : (q == 0) = false := by simpa using hq
    obtain ⟨N, hNe⟩ : ∃ N : Nat, (N : Int) = 10 + r5 := ⟨(10 + r5).toNat, by omega⟩
    have hN5 : N ≤ 800000 := by omega
    obtain ⟨⟨c0, c1, c2, c3, c4, c5⟩, _⟩ := cells6 hC6
    have hdv := drawEvents_any w w6 b a zs cap hd6 hz hv hl c hc hi N hN5
    go_wp2_with fail
    rw [← hNe]
    refine hdv.mono ?_
    rintro e w8 ⟨av, cp, es, rfl, hes, hrow, hxs, hd8, hG8⟩
    have hR8 := (hG8.block _ (by omega) (by omega)).trans hR6
    have hC8 := (hG8.block _ (by omega) (by omega)).trans hC6
    have z8 := hG8.size
    have hrow := own_base hrow (show C + 1 ≤ w6.heap.size by omega)
    clear c0 c1 c2 c3 c4 c5 hdv hG8
    obtain ⟨⟨c0, c1, c2, c3, c4, c5⟩, cf⟩ := cells6 hC8
    obtain ⟨⟨p0, p1, p2, p3, p4, p5⟩, pf⟩ := cells6 hR8
    have cf1 := cf 1
    have cf2 := cf 2
    have cf3 := cf 3
    have cf4 := cf 4
    have cf5 := cf 5
    have pf0 := pf 0
    have pf1 := pf 1
    have pf2 := pf 2
    have pf3 := pf 3
    have pf4 := pf 4
    have pf5 := pf 5
    have n1 : ¬ C = w.heap.size := by omega
    have n2 : ¬ w.heap.size = C := by omega
    have HES : Hid (es.length = N) := hes
    clear cf pf hes
    by_cases h1 : q = 1
    · subst h1
      have hD := put6_drawing (hd8.put C 1 (.int .i64 17) (by omega) (by omega)) w.heap.size (Nat.le_refl _) (by omega) (.int .u32 c.isn) (.int .i64 17) (.int .i64 c.rto) (.int .i64 c.mrto) (.int .i64 c.da) (.int .i64 c.pe)
      have hZ := put6_block ((heap_setCell_other w8 ⟨C, 1, none⟩ w.heap.size (.int .i64 17) (by simp; omega)).trans hR8) (.int .u32 c.isn) (.int .i64 17) (.int .i64 c.rto) (.int .i64 c.mrto) (.int .i64 c.da) (.int .i64 c.pe)
      have hRow := own_put6 (R := w.heap.size) (own_set1 hrow (k := C) 1 (.int .i64 17) (by omega)) (by omega) (.int .u32 c.isn) (.int .i64 17) (.int .i64 c.rto) (.int .i64 c.mrto) (.int .i64 c.da) (.int .i64 c.pe)
      obtain ⟨⟨y0, y1, y2, y3, y4, y5⟩, _⟩ := cells6 hZ
      go_wp2
      exact bodyPost_ret (v := .tuple #[.agg #[.int .u32 c.isn, .int .i64 17, .int .i64 c.rto, .int .i64 c.mrto, .int .i64 c.da, .int .i64 c.pe], .slice av N cp]) (by simp [results, Try.results16, go_sem, y0, y1, y2, y3, y4, y5]) rfl ⟨⟨c.isn, 17, c.rto, c.mrto, c.da, c.pe⟩, es, av, N, cp, rfl, HES.out, hN5, hi, own_base hRow (by omega), hxs, hD.bel⟩
    have h1b : (q == 1) = false := by simpa using h1
    by_cases h2 : q = 2
    · subst h2
      have hrt : 1 ≤ c.rto ∧ c.rto ≤ 50 := by unfold Cf.Ok at hc; omega
      have hD := put6_drawing (hd8.put C 3 (.int .i64 (c.rto - 1)) (by omega) (by omega)) w.heap.size (Nat.le_refl _) (by omega) (.int .u32 c.isn) (.int .i64 c.win) (.int .i64 c.rto) (.int .i64 (c.rto - 1)) (.int .i64 c.da) (.int .i64 c.pe)
      have hZ := put6_block ((heap_setCell_other w8 ⟨C, 3, none⟩ w.heap.size (.int .i64 (c.rto - 1)) (by simp; omega)).trans hR8) (.int .u32 c.isn) (.int .i64 c.win) (.int .i64 c.rto) (.int .i64 (c.rto - 1)) (.int .i64 c.da) (.int .i64 c.pe)
      have hRow := own_put6 (R := w.heap.size) (own_set1 hrow (k := C) 3 (.int .i64 (c.rto - 1)) (by omega)) (by omega) (.int .u32 c.isn) (.int .i64 c.win) (.int .i64 c.rto) (.int .i64 (c.rto - 1)) (.int .i64 c.da) (.int .i64 c.pe)
      obtain ⟨⟨y0, y1, y2, y3, y4, y5⟩, _⟩ := cells6 hZ
      go_wp2
      exact bodyPost_ret (v := .tuple #[.agg #[.int .u32 c.isn, .int .i64 c.win, .int .i64 c.rto, .int .i64 (c.rto - 1), .int .i64 c.da, .int .i64 c.pe], .slice av N cp]) (by simp [results, Try.results16, go_sem, y0, y1, y2, y3, y4, y5]) rfl ⟨⟨c.isn, c.win, c.rto, c.rto - 1, c.da, c.pe⟩, es, av, N, cp, rfl, HES.out, hN5, hi, own_base hRow (by omega), hxs, hD.bel⟩
    have h2b : (q == 2) = false := by simpa using h2
    by_cases h3 : q = 3
    · subst h3
      have hD := put6_drawing (hd8.put C 4 (.int .i64 0) (by omega) (by omega)) w.heap.size (Nat.le_refl _) (by omega) (.int .u32 c.isn) (.int .i64 c.win) (.int .i64 c.rto) (.int .i64 c.mrto) (.int .i64 0) (.int .i64 c.pe)
      have hZ := put6_block ((heap_setCell_other w8 ⟨C, 4, none⟩ w.heap.size (.int .i64 0) (by simp; omega)).trans hR8) (.int .u32 c.isn) (.int .i64 c.win) (.int .i64 c.rto) (.int .i64 c.mrto) (.int .i64 0) (.int .i64 c.pe)
      have hRow := own_put6 (R := w.heap.size) (own_set1 hrow (k := C) 4 (.int .i64 0) (by omega)) (by omega) (.int .u32 c.isn) (.int .i64 c.win) (.int .i64 c.rto) (.int .i64 c.mrto) (.int .i64 0) (.int .i64 c.pe)
      obtain ⟨⟨y0, y1, y2, y3, y4, y5⟩, _⟩ := cells6 hZ
      go_wp2
      exact bodyPost_ret (v := .tuple #[.agg #[.int .u32 c.isn, .int .i64 c.win, .int .i64 c.rto, .int .i64 c.mrto, .int .i64 0, .int .i64 c.pe], .slice av N cp]) (by simp [results, Try.results16, go_sem, y0, y1, y2, y3, y4, y5]) rfl ⟨⟨c.isn, c.win, c.rto, c.mrto, 0, c.pe⟩, es, av, N, cp, rfl, HES.out, hN5, hi, own_base hRow (by omega), hxs, hD.bel⟩
    have h3b : (q == 3) = false := by simpa using h3
    by_cases h4 : q = 4
    · subst h4
      have hD := put6_drawing (hd8.put C 5 (.int .i64 51) (by omega) (by omega)) w.heap.size (Nat.le_refl _) (by omega) (.int .u32 c.isn) (.int .i64 c.win) (.int .i64 c.rto) (.int .i64 c.mrto) (.int .i64 c.da) (.int .i64 51)
      have hZ := put6_block ((heap_setCell_other w8 ⟨C, 5, none⟩ w.heap.size (.int .i64 51) (by simp; omega)).trans hR8) (.int .u32 c.isn) (.int .i64 c.win) (.int .i64 c.rto) (.int .i64 c.mrto) (.int .i64 c.da) (.int .i64 51)
      have hRow := own_put6 (R := w.heap.size) (own_set1 hrow (k := C) 5 (.int .i64 51) (by omega)) (by omega) (.int .u32 c.isn) (.int .i64 c.win) (.int .i64 c.rto) (.int .i64 c.mrto) (.int .i64 c.da) (.int .i64 51)
      obtain ⟨⟨y0, y1, y2, y3, y4, y5⟩, _⟩ := cells6 hZ
      go_wp2
      exact bodyPost_ret (v := .tuple #[.agg #[.int .u32 c.isn, .int .i64 c.win, .int .i64 c.rto, .int .i64 c.mrto, .int .i64 c.da, .int .i64 51], .slice av N cp]) (by simp [results, Try.results16, go_sem, y0, y1, y2, y3, y4, y5]) rfl ⟨⟨c.isn, c.win, c.rto, c.mrto, c.da, 51⟩, es, av, N, cp, rfl, HES.out, hN5, hi, own_base hRow (by omega), hxs, hD.bel⟩
    have h4b : (q == 4) = false := by simpa using h4
    by_cases h5 : q = 5
    · subst h5
      have hD := put6_drawing (hd8.put C 2 (.int .i64 0) (by omega) (by omega)) w.heap.size (Nat.le_refl _) (by omega) (.int .u32 c.isn) (.int .i64 c.win) (.int .i64 0) (.int .i64 c.mrto) (.int .i64 c.da) (.int .i64 c.pe)
      have hZ := put6_block ((heap_setCell_other w8 ⟨C, 2, none⟩ w.heap.size (.int .i64 0) (by simp; omega)).trans hR8) (.int .u32 c.isn) (.int .i64 c.win) (.int .i64 0) (.int .i64 c.mrto) (.int .i64 c.da) (.int .i64 c.pe)
      have hRow := own_put6 (R := w.heap.size) (own_set1 hrow (k := C) 2 (.int .i64 0) (by omega)) (by omega) (.int .u32 c.isn) (.int .i64 c.win) (.int .i64 0) (.int .i64 c.mrto) (.int .i64 c.da) (.int .i64 c.pe)
      obtain ⟨⟨y0, y1, y2, y3, y4, y5⟩, _⟩ := cells6 hZ
      go_wp2
      exact bodyPost_ret (v := .tuple #[.agg #[.int .u32 c.isn, .int .i64 c.win, .int .i64 0, .int .i64 c.mrto, .int .i64 c.da, .int .i64 c.pe], .slice av N cp]) (by simp [results, Try.results16, go_sem, y0, y1, y2, y3, y4, y5]) rfl ⟨⟨c.isn, c.win, 0, c.mrto, c.da, c.pe⟩, es, av, N, cp, rfl, HES.out, hN5, hi, own_base hRow (by omega), hxs, hD.bel⟩
    have h5b : (q == 5) = false := by simpa using h5
    have hD := put6_drawing hd8 w.heap.size (Nat.le_refl _) (by omega) (.int .u32 c.isn) (.int .i64 c.win) (.int .i64 c.rto) (.int .i64 c.mrto) (.int .i64 c.da) (.int .i64 c.pe)
    have hZ := put6_block hR8 (.int .u32 c.isn) (.int .i64 c.win) (.int .i64 c.rto) (.int .i64 c.mrto) (.int .i64 c.da) (.int .i64 c.pe)
    have hRow := own_put6 hrow (R := w.heap.size) (by omega) (.int .u32 c.isn) (.int .i64 c.win) (.int .i64 c.rto) (.int .i64 c.mrto) (.int .i64 c.da) (.int .i64 c.pe)
    obtain ⟨⟨y0, y1, y2, y3, y4, y5⟩, _⟩ := cells6 hZ
    go_wp2
    exact bodyPost_ret (v := .tuple #[.agg #[.int .u32 c.isn, .int .i64 c.win, .int .i64 c.rto, .int .i64 c.mrto, .int .i64 c.da, .int .i64 c.pe], .slice av N cp]) (by simp [results, Try.results16, go_sem, y0, y1, y2, y3, y4, y5]) rfl ⟨⟨c.isn, c.win, c.rto, c.mrto, c.da, c.pe⟩, es, av, N, cp, rfl, HES.out, hN5, hi, own_base hRow (by omega), hxs, hD.bel⟩
end Go.Proofs.Ytincfdhfoaimbaa
