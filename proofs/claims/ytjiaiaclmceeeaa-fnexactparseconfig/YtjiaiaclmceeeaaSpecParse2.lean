import Derived.Test.YtjiaiaclmceeeaaSpecParse
import Derived.Deep.RegionHeld3
namespace Go.Proofs.Ytjiaiaclmceeeaa
open Go.ChangeShapes Go.WideShapes Go.ChangeAt Go.RowKit
set_option linter.unusedVariables false

set_option maxRecDepth 100000 in
set_option maxHeartbeats 1000000 in
theorem spec_nums (s : ByteArray) (hn : s.size ≤ 1048576) (h : (wordsOf s).length = 13) (h0 : word s 0 = conf) (hz : ∀ i, i < 13 → (word s i).size ≤ 9223372036854775807) (r : Bool) (hr : Cfg (val s 1) (val s 2) (val s 3) (val s 4) (val s 5) (val s 6) (val s 7) (val s 8) (val s 9) (val s 10) (val s 11) (val s 12 % 4294967296) 11 r) (c : Array Value) (code : Int) (hx : (¬ (∀ j, 1 ≤ j → j ≤ 12 → NumOK (word s j)) ∧ c = #[.int .i64 0, .int .i64 0, .int .i64 0, .int .i64 0, .int .i64 0, .int .i64 0, .int .i64 0, .int .i64 0, .int .i64 0, .int .i64 0, .int .i64 0, .int .u32 0] ∧ code = 16) ∨ ((∀ j, 1 ≤ j → j ≤ 12 → NumOK (word s j)) ∧ Out s r c code)) : Cfgs 8 s c code := by
  have HSZ : Hid _ := hz
  have HR : Hid (Cfg (val s 1) (val s 2) (val s 3) (val s 4) (val s 5) (val s 6) (val s 7) (val s 8) (val s 9) (val s 10) (val s 11) (val s 12 % 4294967296) 11 r) := hr
  have HX : Hid _ := hx
  clear hz hr hx
  intro w
  obtain ⟨W, hW⟩ : ∃ W, W = w.alloc (.cells #[.int .i64 0, .int .i64 0, .int .i64 0, .int .i64 0, .int .i64 0, .int .i64 0, .int .i64 0, .int .i64 0, .int .i64 0, .int .i64 0, .int .i64 0, .int .u32 0] 26) := ⟨_, rfl⟩
  have hbW : Below w.heap.size w W := by rw [hW]; exact (Below.refl _ _).alloc (Nat.le_refl _) _
  have z0 : W.cell? ⟨w.heap.size, 0, none⟩ = some (.int .i64 0) := by rw [hW]; simp
  have zf0 : W.frozen? ⟨w.heap.size, 0, none⟩ = false := by rw [hW]; simp
  have z1 : W.cell? ⟨w.heap.size, 1, none⟩ = some (.int .i64 0) := by rw [hW]; simp
  have zf1 : W.frozen? ⟨w.heap.size, 1, none⟩ = false := by rw [hW]; simp
  have z2 : W.cell? ⟨w.heap.size, 2, none⟩ = some (.int .i64 0) := by rw [hW]; simp
  have zf2 : W.frozen? ⟨w.heap.size, 2, none⟩ = false := by rw [hW]; simp
  have z3 : W.cell? ⟨w.heap.size, 3, none⟩ = some (.int .i64 0) := by rw [hW]; simp
  have zf3 : W.frozen? ⟨w.heap.size, 3, none⟩ = false := by rw [hW]; simp
  have z4 : W.cell? ⟨w.heap.size, 4, none⟩ = some (.int .i64 0) := by rw [hW]; simp
  have zf4 : W.frozen? ⟨w.heap.size, 4, none⟩ = false := by rw [hW]; simp
  have z5 : W.cell? ⟨w.heap.size, 5, none⟩ = some (.int .i64 0) := by rw [hW]; simp
  have zf5 : W.frozen? ⟨w.heap.size, 5, none⟩ = false := by rw [hW]; simp
  have z6 : W.cell? ⟨w.heap.size, 6, none⟩ = some (.int .i64 0) := by rw [hW]; simp
  have zf6 : W.frozen? ⟨w.heap.size, 6, none⟩ = false := by rw [hW]; simp
  have z7 : W.cell? ⟨w.heap.size, 7, none⟩ = some (.int .i64 0) := by rw [hW]; simp
  have zf7 : W.frozen? ⟨w.heap.size, 7, none⟩ = false := by rw [hW]; simp
  have z8 : W.cell? ⟨w.heap.size, 8, none⟩ = some (.int .i64 0) := by rw [hW]; simp
  have zf8 : W.frozen? ⟨w.heap.size, 8, none⟩ = false := by rw [hW]; simp
  have z9 : W.cell? ⟨w.heap.size, 9, none⟩ = some (.int .i64 0) := by rw [hW]; simp
  have zf9 : W.frozen? ⟨w.heap.size, 9, none⟩ = false := by rw [hW]; simp
  have z10 : W.cell? ⟨w.heap.size, 10, none⟩ = some (.int .i64 0) := by rw [hW]; simp
  have zf10 : W.frozen? ⟨w.heap.size, 10, none⟩ = false := by rw [hW]; simp
  have z11 : W.cell? ⟨w.heap.size, 11, none⟩ = some (.int .u32 0) := by rw [hW]; simp
  have zf11 : W.frozen? ⟨w.heap.size, 11, none⟩ = false := by rw [hW]; simp
  go_enter Try.func8, Try.ntmps8
  go_wp2_with fail
  rw [← hW]
  refine Calls.mono (specCut s _ hn) ?_
  rintro e w1 ⟨av, cp, rfl, ho, hb1⟩
  clear hW
  have y0 := (hb1.cell (World.block_lt_of_cell? _ _ z0)).trans z0
  have yf0 := (hb1.frozen (p := ⟨w.heap.size, 0, none⟩) (World.block_lt_of_cell? _ _ z0)).trans zf0
  have y1 := (hb1.cell (World.block_lt_of_cell? _ _ z1)).trans z1
  have yf1 := (hb1.frozen (p := ⟨w.heap.size, 1, none⟩) (World.block_lt_of_cell? _ _ z1)).trans zf1
  have y2 := (hb1.cell (World.block_lt_of_cell? _ _ z2)).trans z2
  have yf2 := (hb1.frozen (p := ⟨w.heap.size, 2, none⟩) (World.block_lt_of_cell? _ _ z2)).trans zf2
  have y3 := (hb1.cell (World.block_lt_of_cell? _ _ z3)).trans z3
  have yf3 := (hb1.frozen (p := ⟨w.heap.size, 3, none⟩) (World.block_lt_of_cell? _ _ z3)).trans zf3
  have y4 := (hb1.cell (World.block_lt_of_cell? _ _ z4)).trans z4
  have yf4 := (hb1.frozen (p := ⟨w.heap.size, 4, none⟩) (World.block_lt_of_cell? _ _ z4)).trans zf4
  have y5 := (hb1.cell (World.block_lt_of_cell? _ _ z5)).trans z5
  have yf5 := (hb1.frozen (p := ⟨w.heap.size, 5, none⟩) (World.block_lt_of_cell? _ _ z5)).trans zf5
  have y6 := (hb1.cell (World.block_lt_of_cell? _ _ z6)).trans z6
  have yf6 := (hb1.frozen (p := ⟨w.heap.size, 6, none⟩) (World.block_lt_of_cell? _ _ z6)).trans zf6
  have y7 := (hb1.cell (World.block_lt_of_cell? _ _ z7)).trans z7
  have yf7 := (hb1.frozen (p := ⟨w.heap.size, 7, none⟩) (World.block_lt_of_cell? _ _ z7)).trans zf7
  have y8 := (hb1.cell (World.block_lt_of_cell? _ _ z8)).trans z8
  have yf8 := (hb1.frozen (p := ⟨w.heap.size, 8, none⟩) (World.block_lt_of_cell? _ _ z8)).trans zf8
  have y9 := (hb1.cell (World.block_lt_of_cell? _ _ z9)).trans z9
  have yf9 := (hb1.frozen (p := ⟨w.heap.size, 9, none⟩) (World.block_lt_of_cell? _ _ z9)).trans zf9
  have y10 := (hb1.cell (World.block_lt_of_cell? _ _ z10)).trans z10
  have yf10 := (hb1.frozen (p := ⟨w.heap.size, 10, none⟩) (World.block_lt_of_cell? _ _ z10)).trans zf10
  have y11 := (hb1.cell (World.block_lt_of_cell? _ _ z11)).trans z11
  have yf11 := (hb1.frozen (p := ⟨w.heap.size, 11, none⟩) (World.block_lt_of_cell? _ _ z11)).trans zf11
  clear z0 z1 z2 z3 z4 z5 z6 z7 z8 z9 z10 z11 zf0 zf1 zf2 zf3 zf4 zf5 zf6 zf7 zf8 zf9 zf10 zf11
  have hbw1 := hbW.trans (hb1.mono hbW.size)
  have bl : w.heap.size < w1.heap.size := World.block_lt_of_cell? _ _ y0
  have hS := LieS.ofRow ho
  rcases hS with hS | ⟨b, off, rfl, hc⟩
  · simp [hS] at h
  have q0 := hc 0 (by omega)
  simp only [Nat.add_zero] at q0
  obtain ⟨u, hu⟩ : ∃ u, u = word s 0 := ⟨_, rfl⟩
  rw [show (wordsOf s).getD 0 ⟨#[]⟩ = u from hu.symm] at q0
  rw [← hu] at h0
  have h1 : (u.toList == [99, 111, 110, 102, 105, 103]) = true := by rw [h0, conf_list]; rfl
  have HC : Hid (∀ i, i < 13 → w1.cell? ⟨b, off + i, none⟩ = some (.string (word s i))) := fun i hi => hc i (by omega)
  rw [h]
  clear hu hc ho h0 hb1
  have hmade : (w1.alloc (.cells #[] 2)).ownsRow w1.heap.size 2 1 (.slice (some ⟨w1.heap.size, 0, none⟩) 0 0) 0 ((valsTo s 0).map (.int .i64)) := World.ownsRow_made w1 #[] 0 (Nat.le_refl _) (by unfold maxLen; omega) rfl
  go_wp2
  go_loopw [5, 6] (fun v i wr => ∃ (k : Nat) (av : Option Addr) (cp : Nat), k ≤ 12 ∧ i = .int .i64 ((k + 1 : Nat) : Int) ∧ v = .slice av k cp ∧ Hid (∀ j, 1 ≤ j → j ≤ k → NumOK (word s j)) ∧ wr.ownsRow w1.heap.size 2 1 (.slice av k cp) k ((valsTo s k).map (.int .i64)) ∧ Below w1.heap.size w1 wr) (fun _ i _ => 13 - (intOf i).toNat)
  case atStart => exact ⟨0, _, _, Nat.zero_le _, rfl, rfl, (fun j h1 h2 => by omega : ∀ j, 1 ≤ j → j ≤ 0 → NumOK (word s j)), hmade, (Below.refl _ _).alloc (Nat.le_refl _) _⟩
  case round =>
    clear hmade
    obtain ⟨k, av, cp2, hk, rfl, rfl, HO, hown, hb⟩ := hrel
    have hbw := hbw1.trans (hb.mono hbw1.size)
    have sz := hb.size
    have z0 := (hb.cell (World.block_lt_of_cell? _ _ y0)).trans y0
    have zf0 := (hb.frozen (p := ⟨w.heap.size, 0, none⟩) (World.block_lt_of_cell? _ _ y0)).trans yf0
    have z1 := (hb.cell (World.block_lt_of_cell? _ _ y1)).trans y1
    have zf1 := (hb.frozen (p := ⟨w.heap.size, 1, none⟩) (World.block_lt_of_cell? _ _ y1)).trans yf1
    have z2 := (hb.cell (World.block_lt_of_cell? _ _ y2)).trans y2
    have zf2 := (hb.frozen (p := ⟨w.heap.size, 2, none⟩) (World.block_lt_of_cell? _ _ y2)).trans yf2
    have z3 := (hb.cell (World.block_lt_of_cell? _ _ y3)).trans y3
    have zf3 := (hb.frozen (p := ⟨w.heap.size, 3, none⟩) (World.block_lt_of_cell? _ _ y3)).trans yf3
    have z4 := (hb.cell (World.block_lt_of_cell? _ _ y4)).trans y4
    have zf4 := (hb.frozen (p := ⟨w.heap.size, 4, none⟩) (World.block_lt_of_cell? _ _ y4)).trans yf4
    have z5 := (hb.cell (World.block_lt_of_cell? _ _ y5)).trans y5
    have zf5 := (hb.frozen (p := ⟨w.heap.size, 5, none⟩) (World.block_lt_of_cell? _ _ y5)).trans yf5
    have z6 := (hb.cell (World.block_lt_of_cell? _ _ y6)).trans y6
    have zf6 := (hb.frozen (p := ⟨w.heap.size, 6, none⟩) (World.block_lt_of_cell? _ _ y6)).trans yf6
    have z7 := (hb.cell (World.block_lt_of_cell? _ _ y7)).trans y7
    have zf7 := (hb.frozen (p := ⟨w.heap.size, 7, none⟩) (World.block_lt_of_cell? _ _ y7)).trans yf7
    have z8 := (hb.cell (World.block_lt_of_cell? _ _ y8)).trans y8
    have zf8 := (hb.frozen (p := ⟨w.heap.size, 8, none⟩) (World.block_lt_of_cell? _ _ y8)).trans yf8
    have z9 := (hb.cell (World.block_lt_of_cell? _ _ y9)).trans y9
    have zf9 := (hb.frozen (p := ⟨w.heap.size, 9, none⟩) (World.block_lt_of_cell? _ _ y9)).trans yf9
    have z10 := (hb.cell (World.block_lt_of_cell? _ _ y10)).trans y10
    have zf10 := (hb.frozen (p := ⟨w.heap.size, 10, none⟩) (World.block_lt_of_cell? _ _ y10)).trans yf10
    have z11 := (hb.cell (World.block_lt_of_cell? _ _ y11)).trans y11
    have zf11 := (hb.frozen (p := ⟨w.heap.size, 11, none⟩) (World.block_lt_of_cell? _ _ y11)).trans yf11
    clear y0 y1 y2 y3 y4 y5 y6 y7 y8 y9 y10 y11 yf0 yf1 yf2 yf3 yf4 yf5 yf6 yf7 yf8 yf9 yf10 yf11
    by_cases hlt : k < 12
    · have hki : ((k + 1 : Nat) : Int) < 13 := by omega
      have q := HC.out (k + 1) (by omega)
      have q' := (hb.cell (World.block_lt_of_cell? _ _ q)).trans q
      have hsz : (word s (k + 1)).size ≤ 9223372036854775807 := HSZ.out (k + 1) (by omega)
      obtain ⟨wd, hwd⟩ : ∃ x, x = word s (k + 1) := ⟨_, rfl⟩
      rw [← hwd] at q' hsz
      have HWD : Hid _ := hwd
      clear hwd q
      rcases num_cases wd hsz with ⟨hok, hnum, _⟩ | ⟨hno, hnum, _⟩
      · have HN : Hid _ := hnum
        have HV : Hid (val s (k + 1) = ((dig wd wd.size : Nat) : Int)) := by unfold Hid val; rw [HWD.out]
        have HO2 : Hid (∀ j, 1 ≤ j → j ≤ k + 1 → NumOK (word s j)) := fun j h1 h2 => by
          by_cases e : j = k + 1
          · rw [e, ← HWD.out]; exact hok
          · exact HO.out j h1 (by omega)
        obtain ⟨D, hD⟩ : ∃ D : Int, D = ((dig wd wd.size : Nat) : Int) := ⟨_, rfl⟩
        rw [← hD] at HN HV
        clear hnum hok hD HO
        go_wp2_with fail
        refine Calls.mono (HN.out _) ?_
        rintro e w2 ⟨rfl, hb2⟩
        have hown2 := owned_kept hown hb2
        have hbb := hb.trans (hb2.mono hb.size)
        have sz2 := hbb.size
        clear hb2 hb hown
        go_wp2_with (at_builtin; refine wpList_app1 _ rfl (.tmp 38) (.tmp 40) 37 2 rfl .i64 8 Try.underlying37 info_i64 (by decide) w1.heap.size _ _ _ (valsTo s k) D rfl (hown2.alloc _) _ rfl (cell_alloc1 _ _ _ _ rfl) (by omega) (by simp; omega) ?_; intro g5 cp5 w5 ho5 hg5)
        go_roundw
        case rel => exact ⟨k + 1, some ⟨g5, 0, none⟩, cp5, by omega, by go_num, rfl, HO2, by rw [valsTo_succ, HV.out]; exact ho5, below_grown (hbb.alloc sz2 _) (hown2.alloc _) hg5 (Nat.le_refl _) (by simp; omega)⟩
        case measure => simp [intOf]; omega
      · have HN : Hid _ := hnum
        have HF : Hid (¬ ∀ j, 1 ≤ j → j ≤ 12 → NumOK (word s j)) := fun hh => hno (by rw [HWD.out]; exact hh (k + 1) (by omega) (by omega))
        clear hnum hno HO
        go_wp2_with fail
        refine Calls.mono (HN.out _) ?_
        rintro e w2 ⟨rfl, hb2⟩
        have x0 := (hb2.cell (World.block_lt_of_cell? _ _ z0)).trans z0
        have xf0 := (hb2.frozen (p := ⟨w.heap.size, 0, none⟩) (World.block_lt_of_cell? _ _ z0)).trans zf0
        have x1 := (hb2.cell (World.block_lt_of_cell? _ _ z1)).trans z1
        have xf1 := (hb2.frozen (p := ⟨w.heap.size, 1, none⟩) (World.block_lt_of_cell? _ _ z1)).trans zf1
        have x2 := (hb2.cell (World.block_lt_of_cell? _ _ z2)).trans z2
        have xf2 := (hb2.frozen (p := ⟨w.heap.size, 2, none⟩) (World.block_lt_of_cell? _ _ z2)).trans zf2
        have x3 := (hb2.cell (World.block_lt_of_cell? _ _ z3)).trans z3
        have xf3 := (hb2.frozen (p := ⟨w.heap.size, 3, none⟩) (World.block_lt_of_cell? _ _ z3)).trans zf3
        have x4 := (hb2.cell (World.block_lt_of_cell? _ _ z4)).trans z4
        have xf4 := (hb2.frozen (p := ⟨w.heap.size, 4, none⟩) (World.block_lt_of_cell? _ _ z4)).trans zf4
        have x5 := (hb2.cell (World.block_lt_of_cell? _ _ z5)).trans z5
        have xf5 := (hb2.frozen (p := ⟨w.heap.size, 5, none⟩) (World.block_lt_of_cell? _ _ z5)).trans zf5
        have x6 := (hb2.cell (World.block_lt_of_cell? _ _ z6)).trans z6
        have xf6 := (hb2.frozen (p := ⟨w.heap.size, 6, none⟩) (World.block_lt_of_cell? _ _ z6)).trans zf6
        have x7 := (hb2.cell (World.block_lt_of_cell? _ _ z7)).trans z7
        have xf7 := (hb2.frozen (p := ⟨w.heap.size, 7, none⟩) (World.block_lt_of_cell? _ _ z7)).trans zf7
        have x8 := (hb2.cell (World.block_lt_of_cell? _ _ z8)).trans z8
        have xf8 := (hb2.frozen (p := ⟨w.heap.size, 8, none⟩) (World.block_lt_of_cell? _ _ z8)).trans zf8
        have x9 := (hb2.cell (World.block_lt_of_cell? _ _ z9)).trans z9
        have xf9 := (hb2.frozen (p := ⟨w.heap.size, 9, none⟩) (World.block_lt_of_cell? _ _ z9)).trans zf9
        have x10 := (hb2.cell (World.block_lt_of_cell? _ _ z10)).trans z10
        have xf10 := (hb2.frozen (p := ⟨w.heap.size, 10, none⟩) (World.block_lt_of_cell? _ _ z10)).trans zf10
        have x11 := (hb2.cell (World.block_lt_of_cell? _ _ z11)).trans z11
        have xf11 := (hb2.frozen (p := ⟨w.heap.size, 11, none⟩) (World.block_lt_of_cell? _ _ z11)).trans zf11
        clear z0 z1 z2 z3 z4 z5 z6 z7 z8 z9 z10 z11 zf0 zf1 zf2 zf3 zf4 zf5 zf6 zf7 zf8 zf9 zf10 zf11
        have hbw2 := hbw.trans (hb2.mono hbw.size)
        clear hb2 hb hown
        rcases HX.out with ⟨_, rfl, rfl⟩ | ⟨hall, _⟩
        · go_wp2
          exact bodyPost_ret (v := .tuple #[.agg #[.int .i64 0, .int .i64 0, .int .i64 0, .int .i64 0, .int .i64 0, .int .i64 0, .int .i64 0, .int .i64 0, .int .i64 0, .int .i64 0, .int .i64 0, .int .u32 0], .int .i64 16]) (by simp [results, Try.results8, go_sem, x0, x1, x2, x3, x4, x5, x6, x7, x8, x9, x10, x11]) rfl ⟨rfl, below_set12 hbw2 w.heap.size (Nat.le_refl _) _ _ _ _ _ _ _ _ _ _ _ _⟩
        · exact absurd hall HF.out
    · obtain rfl : k = 12 := by omega
      rcases HX.out with ⟨hno, _⟩ | ⟨_, hout⟩
      · exact absurd HO.out hno
      have HOUT : Hid _ := hout
      have hb12 := bounds_of HO.out
      have hS := Ints.ofRow hown
      rcases hS with hS | ⟨b2, off2, rfl, hc2⟩
      · exfalso
        have := congrArg List.length hS
        simp [valsTo_length] at this
      rw [valsTo_length] at hc2
      have d0 : wr.cell? ⟨b2, off2 + 0, none⟩ = some (.int .i64 (val s 1)) := hc2 0 (by omega)
      have d1 : wr.cell? ⟨b2, off2 + 1, none⟩ = some (.int .i64 (val s 2)) := hc2 1 (by omega)
      have d2 : wr.cell? ⟨b2, off2 + 2, none⟩ = some (.int .i64 (val s 3)) := hc2 2 (by omega)
      have d3 : wr.cell? ⟨b2, off2 + 3, none⟩ = some (.int .i64 (val s 4)) := hc2 3 (by omega)
      have d4 : wr.cell? ⟨b2, off2 + 4, none⟩ = some (.int .i64 (val s 5)) := hc2 4 (by omega)
      have d5 : wr.cell? ⟨b2, off2 + 5, none⟩ = some (.int .i64 (val s 6)) := hc2 5 (by omega)
      have d6 : wr.cell? ⟨b2, off2 + 6, none⟩ = some (.int .i64 (val s 7)) := hc2 6 (by omega)
      have d7 : wr.cell? ⟨b2, off2 + 7, none⟩ = some (.int .i64 (val s 8)) := hc2 7 (by omega)
      have d8 : wr.cell? ⟨b2, off2 + 8, none⟩ = some (.int .i64 (val s 9)) := hc2 8 (by omega)
      have d9 : wr.cell? ⟨b2, off2 + 9, none⟩ = some (.int .i64 (val s 10)) := hc2 9 (by omega)
      have d10 : wr.cell? ⟨b2, off2 + 10, none⟩ = some (.int .i64 (val s 11)) := hc2 10 (by omega)
      have d11 : wr.cell? ⟨b2, off2 + 11, none⟩ = some (.int .i64 (val s 12)) := hc2 11 (by omega)
      simp only [Nat.add_zero] at d0
      unfold Out cfgOf at HOUT
      have t0 := hb12 1 (by omega) (by omega)
      obtain ⟨n0, hn0⟩ : ∃ n, n = val s 1 := ⟨_, rfl⟩
      rw [← hn0] at d0 t0
      have t1 := hb12 2 (by omega) (by omega)
      obtain ⟨n1, hn1⟩ : ∃ n, n = val s 2 := ⟨_, rfl⟩
      rw [← hn1] at d1 t1
      have t2 := hb12 3 (by omega) (by omega)
      obtain ⟨n2, hn2⟩ : ∃ n, n = val s 3 := ⟨_, rfl⟩
      rw [← hn2] at d2 t2
      have t3 := hb12 4 (by omega) (by omega)
      obtain ⟨n3, hn3⟩ : ∃ n, n = val s 4 := ⟨_, rfl⟩
      rw [← hn3] at d3 t3
      have t4 := hb12 5 (by omega) (by omega)
      obtain ⟨n4, hn4⟩ : ∃ n, n = val s 5 := ⟨_, rfl⟩
      rw [← hn4] at d4 t4
      have t5 := hb12 6 (by omega) (by omega)
      obtain ⟨n5, hn5⟩ : ∃ n, n = val s 6 := ⟨_, rfl⟩
      rw [← hn5] at d5 t5
      have t6 := hb12 7 (by omega) (by omega)
      obtain ⟨n6, hn6⟩ : ∃ n, n = val s 7 := ⟨_, rfl⟩
      rw [← hn6] at d6 t6
      have t7 := hb12 8 (by omega) (by omega)
      obtain ⟨n7, hn7⟩ : ∃ n, n = val s 8 := ⟨_, rfl⟩
      rw [← hn7] at d7 t7
      have t8 := hb12 9 (by omega) (by omega)
      obtain ⟨n8, hn8⟩ : ∃ n, n = val s 9 := ⟨_, rfl⟩
      rw [← hn8] at d8 t8
      have t9 := hb12 10 (by omega) (by omega)
      obtain ⟨n9, hn9⟩ : ∃ n, n = val s 10 := ⟨_, rfl⟩
      rw [← hn9] at d9 t9
      have t10 := hb12 11 (by omega) (by omega)
      obtain ⟨n10, hn10⟩ : ∃ n, n = val s 11 := ⟨_, rfl⟩
      rw [← hn10] at d10 t10
      have t11 := hb12 12 (by omega) (by omega)
      obtain ⟨n11, hn11⟩ : ∃ n, n = val s 12 := ⟨_, rfl⟩
      rw [← hn11] at d11 t11
      rw [← hn0, ← hn1, ← hn2, ← hn3, ← hn4, ← hn5, ← hn6, ← hn7, ← hn8, ← hn9, ← hn10, ← hn11] at HR
      rw [← hn0, ← hn1, ← hn2, ← hn3, ← hn4, ← hn5, ← hn6, ← hn7, ← hn8, ← hn9, ← hn10, ← hn11] at HOUT
      clear HX HO hc2 hown hout hb12 hn0 hn1 hn2 hn3 hn4 hn5 hn6 hn7 hn8 hn9 hn10 hn11
      go_wp2_with fail
      have dl : b2 < wr.heap.size := World.block_lt_of_cell? _ _ d0
      have dn : ¬ b2 = wr.heap.size := by omega
      have dm : ¬ wr.heap.size = b2 := by omega
      go_region_held3 (fun w' => w'.cell? ⟨b2, off2, none⟩ = some (.int .i64 n0) ∧ w'.cell? ⟨b2, off2 + 1, none⟩ = some (.int .i64 n1) ∧ w'.cell? ⟨b2, off2 + 2, none⟩ = some (.int .i64 n2) ∧ w'.cell? ⟨b2, off2 + 3, none⟩ = some (.int .i64 n3) ∧ w'.cell? ⟨b2, off2 + 4, none⟩ = some (.int .i64 n4) ∧ w'.cell? ⟨b2, off2 + 5, none⟩ = some (.int .i64 n5) ∧ w'.cell? ⟨b2, off2 + 6, none⟩ = some (.int .i64 n6) ∧ w'.cell? ⟨b2, off2 + 7, none⟩ = some (.int .i64 n7) ∧ w'.cell? ⟨b2, off2 + 8, none⟩ = some (.int .i64 n8) ∧ w'.cell? ⟨b2, off2 + 9, none⟩ = some (.int .i64 n9) ∧ w'.cell? ⟨b2, off2 + 10, none⟩ = some (.int .i64 n10) ∧ w'.cell? ⟨b2, off2 + 11, none⟩ = some (.int .i64 n11))
        (first | go_keep | exact ⟨by assumption, by assumption, by assumption, by assumption, by assumption, by assumption, by assumption, by assumption, by assumption, by assumption, by assumption, by assumption⟩)
        (first | fail)
      obtain ⟨I, hI⟩ : ∃ I, I = IntKind.u32.wrap n11 := ⟨_, rfl⟩
      rw [← hI]
      rw [IntKind.wrap_u32'] at hI
      rw [← hI] at HR HOUT
      obtain ⟨X, hX⟩ : ∃ X, X = (wr.alloc (.cells #[.int .i64 n0, .int .i64 n1, .int .i64 n2, .int .i64 n3, .int .i64 n4, .int .i64 n5, .int .i64 n6, .int .i64 n7, .int .i64 n8, .int .i64 n9, .int .i64 n10, .int .u32 I] 26)).drew := ⟨_, rfl⟩
      rw [← hX]
      have hbX : Below wr.heap.size wr X := by rw [hX]; exact ((Below.refl _ _).alloc (Nat.le_refl _) _).drew
      have e0 : X.cell? ⟨wr.heap.size, 0, none⟩ = some (.int .i64 n0) := by rw [hX]; simp
      have e1 : X.cell? ⟨wr.heap.size, 1, none⟩ = some (.int .i64 n1) := by rw [hX]; simp
      have e2 : X.cell? ⟨wr.heap.size, 2, none⟩ = some (.int .i64 n2) := by rw [hX]; simp
      have e3 : X.cell? ⟨wr.heap.size, 3, none⟩ = some (.int .i64 n3) := by rw [hX]; simp
      have e4 : X.cell? ⟨wr.heap.size, 4, none⟩ = some (.int .i64 n4) := by rw [hX]; simp
      have e5 : X.cell? ⟨wr.heap.size, 5, none⟩ = some (.int .i64 n5) := by rw [hX]; simp
      have e6 : X.cell? ⟨wr.heap.size, 6, none⟩ = some (.int .i64 n6) := by rw [hX]; simp
      have e7 : X.cell? ⟨wr.heap.size, 7, none⟩ = some (.int .i64 n7) := by rw [hX]; simp
      have e8 : X.cell? ⟨wr.heap.size, 8, none⟩ = some (.int .i64 n8) := by rw [hX]; simp
      have e9 : X.cell? ⟨wr.heap.size, 9, none⟩ = some (.int .i64 n9) := by rw [hX]; simp
      have e10 : X.cell? ⟨wr.heap.size, 10, none⟩ = some (.int .i64 n10) := by rw [hX]; simp
      have e11 : X.cell? ⟨wr.heap.size, 11, none⟩ = some (.int .u32 I) := by rw [hX]; simp
      have x0 := (hbX.cell (World.block_lt_of_cell? _ _ z0)).trans z0
      have xf0 := (hbX.frozen (p := ⟨w.heap.size, 0, none⟩) (World.block_lt_of_cell? _ _ z0)).trans zf0
      have x1 := (hbX.cell (World.block_lt_of_cell? _ _ z1)).trans z1
      have xf1 := (hbX.frozen (p := ⟨w.heap.size, 1, none⟩) (World.block_lt_of_cell? _ _ z1)).trans zf1
      have x2 := (hbX.cell (World.block_lt_of_cell? _ _ z2)).trans z2
      have xf2 := (hbX.frozen (p := ⟨w.heap.size, 2, none⟩) (World.block_lt_of_cell? _ _ z2)).trans zf2
      have x3 := (hbX.cell (World.block_lt_of_cell? _ _ z3)).trans z3
      have xf3 := (hbX.frozen (p := ⟨w.heap.size, 3, none⟩) (World.block_lt_of_cell? _ _ z3)).trans zf3
      have x4 := (hbX.cell (World.block_lt_of_cell? _ _ z4)).trans z4
      have xf4 := (hbX.frozen (p := ⟨w.heap.size, 4, none⟩) (World.block_lt_of_cell? _ _ z4)).trans zf4
      have x5 := (hbX.cell (World.block_lt_of_cell? _ _ z5)).trans z5
      have xf5 := (hbX.frozen (p := ⟨w.heap.size, 5, none⟩) (World.block_lt_of_cell? _ _ z5)).trans zf5
      have x6 := (hbX.cell (World.block_lt_of_cell? _ _ z6)).trans z6
      have xf6 := (hbX.frozen (p := ⟨w.heap.size, 6, none⟩) (World.block_lt_of_cell? _ _ z6)).trans zf6
      have x7 := (hbX.cell (World.block_lt_of_cell? _ _ z7)).trans z7
      have xf7 := (hbX.frozen (p := ⟨w.heap.size, 7, none⟩) (World.block_lt_of_cell? _ _ z7)).trans zf7
      have x8 := (hbX.cell (World.block_lt_of_cell? _ _ z8)).trans z8
      have xf8 := (hbX.frozen (p := ⟨w.heap.size, 8, none⟩) (World.block_lt_of_cell? _ _ z8)).trans zf8
      have x9 := (hbX.cell (World.block_lt_of_cell? _ _ z9)).trans z9
      have xf9 := (hbX.frozen (p := ⟨w.heap.size, 9, none⟩) (World.block_lt_of_cell? _ _ z9)).trans zf9
      have x10 := (hbX.cell (World.block_lt_of_cell? _ _ z10)).trans z10
      have xf10 := (hbX.frozen (p := ⟨w.heap.size, 10, none⟩) (World.block_lt_of_cell? _ _ z10)).trans zf10
      have x11 := (hbX.cell (World.block_lt_of_cell? _ _ z11)).trans z11
      have xf11 := (hbX.frozen (p := ⟨w.heap.size, 11, none⟩) (World.block_lt_of_cell? _ _ z11)).trans zf11
      clear z0 z1 z2 z3 z4 z5 z6 z7 z8 z9 z10 z11 zf0 zf1 zf2 zf3 zf4 zf5 zf6 zf7 zf8 zf9 zf10 zf11
      have g11 := (hbX.cell (World.block_lt_of_cell? _ _ d11)).trans d11
      have hbwX := hbw.trans (hbX.mono hbw.size)
      have bX : wr.heap.size < X.heap.size := World.block_lt_of_cell? _ _ e0
      have bw : w.heap.size < wr.heap.size := by omega
      clear hX hI hb hbX d0 d1 d2 d3 d4 d5 d6 d7 d8 d9 d10 d11
      by_cases hbig : 4294967296 ≤ n11
      · go_wp2
        have HE : c = #[.int .i64 0, .int .i64 0, .int .i64 0, .int .i64 0, .int .i64 0, .int .i64 0, .int .i64 0, .int .i64 0, .int .i64 0, .int .i64 0, .int .i64 0, .int .u32 0] ∧ code = 17 := by
          rcases HOUT.out with ⟨_, h1, h2⟩ | ⟨h1, _⟩
          · exact ⟨h1, h2⟩
          · omega
        obtain ⟨rfl, rfl⟩ := HE
        exact bodyPost_ret (v := .tuple #[.agg #[.int .i64 0, .int .i64 0, .int .i64 0, .int .i64 0, .int .i64 0, .int .i64 0, .int .i64 0, .int .i64 0, .int .i64 0, .int .i64 0, .int .i64 0, .int .u32 0], .int .i64 17]) (by simp [results, Try.results8, go_sem, x0, x1, x2, x3, x4, x5, x6, x7, x8, x9, x10, x11]) rfl ⟨rfl, below_set12 hbwX w.heap.size (Nat.le_refl _) _ _ _ _ _ _ _ _ _ _ _ _⟩
      · have hbig' : ¬ 4294967296 ≤ n11 := hbig
        go_wp2_with fail
        refine Calls.mono (HR.out _) ?_
        rintro e w3 ⟨rfl, hb3⟩
        have y0 := (hb3.cell (World.block_lt_of_cell? _ _ x0)).trans x0
        have yf0 := (hb3.frozen (p := ⟨w.heap.size, 0, none⟩) (World.block_lt_of_cell? _ _ x0)).trans xf0
        have y1 := (hb3.cell (World.block_lt_of_cell? _ _ x1)).trans x1
        have yf1 := (hb3.frozen (p := ⟨w.heap.size, 1, none⟩) (World.block_lt_of_cell? _ _ x1)).trans xf1
        have y2 := (hb3.cell (World.block_lt_of_cell? _ _ x2)).trans x2
        have yf2 := (hb3.frozen (p := ⟨w.heap.size, 2, none⟩) (World.block_lt_of_cell? _ _ x2)).trans xf2
        have y3 := (hb3.cell (World.block_lt_of_cell? _ _ x3)).trans x3
        have yf3 := (hb3.frozen (p := ⟨w.heap.size, 3, none⟩) (World.block_lt_of_cell? _ _ x3)).trans xf3
        have y4 := (hb3.cell (World.block_lt_of_cell? _ _ x4)).trans x4
        have yf4 := (hb3.frozen (p := ⟨w.heap.size, 4, none⟩) (World.block_lt_of_cell? _ _ x4)).trans xf4
        have y5 := (hb3.cell (World.block_lt_of_cell? _ _ x5)).trans x5
        have yf5 := (hb3.frozen (p := ⟨w.heap.size, 5, none⟩) (World.block_lt_of_cell? _ _ x5)).trans xf5
        have y6 := (hb3.cell (World.block_lt_of_cell? _ _ x6)).trans x6
        have yf6 := (hb3.frozen (p := ⟨w.heap.size, 6, none⟩) (World.block_lt_of_cell? _ _ x6)).trans xf6
        have y7 := (hb3.cell (World.block_lt_of_cell? _ _ x7)).trans x7
        have yf7 := (hb3.frozen (p := ⟨w.heap.size, 7, none⟩) (World.block_lt_of_cell? _ _ x7)).trans xf7
        have y8 := (hb3.cell (World.block_lt_of_cell? _ _ x8)).trans x8
        have yf8 := (hb3.frozen (p := ⟨w.heap.size, 8, none⟩) (World.block_lt_of_cell? _ _ x8)).trans xf8
        have y9 := (hb3.cell (World.block_lt_of_cell? _ _ x9)).trans x9
        have yf9 := (hb3.frozen (p := ⟨w.heap.size, 9, none⟩) (World.block_lt_of_cell? _ _ x9)).trans xf9
        have y10 := (hb3.cell (World.block_lt_of_cell? _ _ x10)).trans x10
        have yf10 := (hb3.frozen (p := ⟨w.heap.size, 10, none⟩) (World.block_lt_of_cell? _ _ x10)).trans xf10
        have y11 := (hb3.cell (World.block_lt_of_cell? _ _ x11)).trans x11
        have yf11 := (hb3.frozen (p := ⟨w.heap.size, 11, none⟩) (World.block_lt_of_cell? _ _ x11)).trans xf11
        clear x0 x1 x2 x3 x4 x5 x6 x7 x8 x9 x10 x11 xf0 xf1 xf2 xf3 xf4 xf5 xf6 xf7 xf8 xf9 xf10 xf11
        have m0 := (hb3.cell (World.block_lt_of_cell? _ _ e0)).trans e0
        have m1 := (hb3.cell (World.block_lt_of_cell? _ _ e1)).trans e1
        have m2 := (hb3.cell (World.block_lt_of_cell? _ _ e2)).trans e2
        have m3 := (hb3.cell (World.block_lt_of_cell? _ _ e3)).trans e3
        have m4 := (hb3.cell (World.block_lt_of_cell? _ _ e4)).trans e4
        have m5 := (hb3.cell (World.block_lt_of_cell? _ _ e5)).trans e5
        have m6 := (hb3.cell (World.block_lt_of_cell? _ _ e6)).trans e6
        have m7 := (hb3.cell (World.block_lt_of_cell? _ _ e7)).trans e7
        have m8 := (hb3.cell (World.block_lt_of_cell? _ _ e8)).trans e8
        have m9 := (hb3.cell (World.block_lt_of_cell? _ _ e9)).trans e9
        have m10 := (hb3.cell (World.block_lt_of_cell? _ _ e10)).trans e10
        have m11 := (hb3.cell (World.block_lt_of_cell? _ _ e11)).trans e11
        clear e0 e1 e2 e3 e4 e5 e6 e7 e8 e9 e10 e11
        have hbw3 := hbwX.trans (hb3.mono hbwX.size)
        clear hb3
        cases r with
        | true =>
          go_wp2
          have HE : c = #[.int .i64 n0, .int .i64 n1, .int .i64 n2, .int .i64 n3, .int .i64 n4, .int .i64 n5, .int .i64 n6, .int .i64 n7, .int .i64 n8, .int .i64 n9, .int .i64 n10, .int .u32 I] ∧ code = 0 := by
            rcases HOUT.out with ⟨h1 | h1, _⟩ | ⟨_, _, h1, h2⟩
            · omega
            · cases h1
            · exact ⟨h1, h2⟩
          obtain ⟨rfl, rfl⟩ := HE
          exact bodyPost_ret (v := .tuple #[.agg #[.int .i64 n0, .int .i64 n1, .int .i64 n2, .int .i64 n3, .int .i64 n4, .int .i64 n5, .int .i64 n6, .int .i64 n7, .int .i64 n8, .int .i64 n9, .int .i64 n10, .int .u32 I], .int .i64 0]) (by simp [results, Try.results8, go_sem, y0, y1, y2, y3, y4, y5, y6, y7, y8, y9, y10, y11]) rfl ⟨rfl, below_set12 hbw3 w.heap.size (Nat.le_refl _) _ _ _ _ _ _ _ _ _ _ _ _⟩
        | false =>
          go_wp2
          have HE : c = #[.int .i64 0, .int .i64 0, .int .i64 0, .int .i64 0, .int .i64 0, .int .i64 0, .int .i64 0, .int .i64 0, .int .i64 0, .int .i64 0, .int .i64 0, .int .u32 0] ∧ code = 17 := by
            rcases HOUT.out with ⟨_, h1, h2⟩ | ⟨_, h1, _⟩
            · exact ⟨h1, h2⟩
            · cases h1
          obtain ⟨rfl, rfl⟩ := HE
          exact bodyPost_ret (v := .tuple #[.agg #[.int .i64 0, .int .i64 0, .int .i64 0, .int .i64 0, .int .i64 0, .int .i64 0, .int .i64 0, .int .i64 0, .int .i64 0, .int .i64 0, .int .i64 0, .int .u32 0], .int .i64 17]) (by simp [results, Try.results8, go_sem, y0, y1, y2, y3, y4, y5, y6, y7, y8, y9, y10, y11]) rfl ⟨rfl, below_set12 hbw3 w.heap.size (Nat.le_refl _) _ _ _ _ _ _ _ _ _ _ _ _⟩

end Go.Proofs.Ytjiaiaclmceeeaa
