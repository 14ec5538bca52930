import Derived.Test.YtjiaiaclmceeeaaImplParse
namespace Go.Proofs.Ytjiaiaclmceeeaa
open Go.ChangeShapes Go.WideShapes Go.ChangeAt Go.RowKit
set_option linter.unusedVariables false

/-- The array of the numbers read so far. -/
def Fld (w : World) (B : Nat) (s : ByteArray) (k : Nat) : Prop := (∀ j, j < 12 → w.cell? ⟨B, j, none⟩ = some (.int .i64 (if j < k then val s (j + 1) else 0))) ∧ ∀ j, w.frozen? ⟨B, j, none⟩ = false
theorem Fld.moved {w w' : World} {B : Nat} {s : ByteArray} {k : Nat} (h : Fld w B s k) (hb : Below w.heap.size w w') : Fld w' B s k :=
  ⟨fun j hj => (hb.cell (World.block_lt_of_cell? _ _ (h.1 j hj))).trans (h.1 j hj), fun j => (hb.frozen (p := ⟨B, j, none⟩) (show B < _ from World.block_lt_of_cell? _ ⟨B, 0, none⟩ (h.1 0 (by omega)))).trans (h.2 j)⟩
theorem Fld.put {w : World} {B : Nat} {s : ByteArray} {k : Nat} (h : Fld w B s k) (hk : k < 12) (D : Int) (hD : val s (k + 1) = D) : Fld (w.setCell ⟨B, k, none⟩ (.int .i64 D)) B s (k + 1) := by
  refine ⟨fun j hj => ?_, fun j => ?_⟩
  · by_cases e : j = k
    · subst e
      rw [if_pos (by omega), hD]
      have hh := h.1 j hj
      simp [go_sem, hh]
    · have e' : ¬ k = j := fun x => e x.symm
      rw [World.cell?_setCell_other w ⟨B, k, none⟩ ⟨B, j, none⟩ _ (fun x => e' (by cases x; rfl)), h.1 j hj]
      by_cases e2 : j < k
      · rw [if_pos e2, if_pos (by omega)]
      · rw [if_neg e2, if_neg (by omega)]
  · simpa using h.2 j

set_option maxRecDepth 100000 in
set_option maxHeartbeats 1000000 in
theorem impl_nums (s : ByteArray) (hn : s.size ≤ 1048576) (hg : Good s) (h : (wordsOf s).length = 13) (h0 : word s 0 = conf) (hz : ∀ i, i < 13 → (word s i).size ≤ 9223372036854775807) (hfull : ∀ i, i < 13 → 1 ≤ (word s i).size) (r : Bool) (hr : Cfg (val s 1) (val s 2) (val s 3) (val s 4) (val s 5) (val s 6) (val s 7) (val s 8) (val s 9) (val s 10) (val s 11) (val s 12 % 4294967296) 12 r) (c : Array Value) (code : Int) (hx : (¬ (∀ j, 1 ≤ j → j ≤ 12 → NumOK (word s j)) ∧ c = #[.int .i64 0, .int .i64 0, .int .i64 0, .int .i64 0, .int .i64 0, .int .i64 0, .int .i64 0, .int .i64 0, .int .i64 0, .int .i64 0, .int .i64 0, .int .u32 0] ∧ code = 16) ∨ ((∀ j, 1 ≤ j → j ≤ 12 → NumOK (word s j)) ∧ Out s r c code)) : Cfgs 9 s c code := by
  have HSZ : Hid _ := hz
  have HFU : Hid _ := hfull
  have HR : Hid (Cfg (val s 1) (val s 2) (val s 3) (val s 4) (val s 5) (val s 6) (val s 7) (val s 8) (val s 9) (val s 10) (val s 11) (val s 12 % 4294967296) 12 r) := hr
  have HX : Hid _ := hx
  clear hz hr hx hfull
  intro w
  obtain ⟨W, hW⟩ : ∃ W, W = w.alloc (.cells #[.int .i64 0, .int .i64 0, .int .i64 0, .int .i64 0, .int .i64 0, .int .i64 0, .int .i64 0, .int .i64 0, .int .i64 0, .int .i64 0, .int .i64 0, .int .u32 0] 26) := ⟨_, rfl⟩
  have hbW : Below w.heap.size w W := by rw [hW]; exact (Below.refl _ _).alloc (Nat.le_refl _) _
  have z0 : W.cell? ⟨w.heap.size, 0, none⟩ = some (.int .i64 0) := by rw [hW]; simp
  have zf0 : W.frozen? ⟨w.heap.size, 0, none⟩ = false := by rw [hW]; simp
  have z1 : W.cell? ⟨w.heap.size, 1, none⟩ = some (.int .i64 0) := by rw [hW]; simp
  have zf1 : W.frozen? ⟨w.heap.size, 1, none⟩ = false := by rw [hW]; simp
  have z2 : W.cell? ⟨w.heap.size, 2, none⟩ = some (.int .i64 0) := by rw [hW]; simp
  have zf2 : W.frozen? ⟨w.heap.size, 2, none⟩ = false := by rw [hW]; simp
  have z3 : W.cell? ⟨w.heap.size, 3, none⟩ = some (.int .i64 0) := by rw [hW]; simp
  have zf3 : W.frozen? ⟨w.heap.size, 3, none⟩ = false := by rw [hW]; simp
  have z4 : W.cell? ⟨w.heap.size, 4, none⟩ = some (.int .i64 0) := by rw [hW]; simp
  have zf4 : W.frozen? ⟨w.heap.size, 4, none⟩ = false := by rw [hW]; simp
  have z5 : W.cell? ⟨w.heap.size, 5, none⟩ = some (.int .i64 0) := by rw [hW]; simp
  have zf5 : W.frozen? ⟨w.heap.size, 5, none⟩ = false := by rw [hW]; simp
  have z6 : W.cell? ⟨w.heap.size, 6, none⟩ = some (.int .i64 0) := by rw [hW]; simp
  have zf6 : W.frozen? ⟨w.heap.size, 6, none⟩ = false := by rw [hW]; simp
  have z7 : W.cell? ⟨w.heap.size, 7, none⟩ = some (.int .i64 0) := by rw [hW]; simp
  have zf7 : W.frozen? ⟨w.heap.size, 7, none⟩ = false := by rw [hW]; simp
  have z8 : W.cell? ⟨w.heap.size, 8, none⟩ = some (.int .i64 0) := by rw [hW]; simp
  have zf8 : W.frozen? ⟨w.heap.size, 8, none⟩ = false := by rw [hW]; simp
  have z9 : W.cell? ⟨w.heap.size, 9, none⟩ = some (.int .i64 0) := by rw [hW]; simp
  have zf9 : W.frozen? ⟨w.heap.size, 9, none⟩ = false := by rw [hW]; simp
  have z10 : W.cell? ⟨w.heap.size, 10, none⟩ = some (.int .i64 0) := by rw [hW]; simp
  have zf10 : W.frozen? ⟨w.heap.size, 10, none⟩ = false := by rw [hW]; simp
  have z11 : W.cell? ⟨w.heap.size, 11, none⟩ = some (.int .u32 0) := by rw [hW]; simp
  have zf11 : W.frozen? ⟨w.heap.size, 11, none⟩ = false := by rw [hW]; simp
  go_enter Try.func9, Try.ntmps9
  go_wp2_with fail
  rw [← hW]
  refine Calls.mono (implCut s _ hn) ?_
  rintro e w1 ⟨⟨_, av, cp, rfl, ho⟩ | ⟨h, _⟩, hb1⟩
  rotate_left
  · exact absurd hg h
  clear hW
  have y0 := (hb1.cell (World.block_lt_of_cell? _ _ z0)).trans z0
  have yf0 := (hb1.frozen (p := ⟨w.heap.size, 0, none⟩) (World.block_lt_of_cell? _ _ z0)).trans zf0
  have y1 := (hb1.cell (World.block_lt_of_cell? _ _ z1)).trans z1
  have yf1 := (hb1.frozen (p := ⟨w.heap.size, 1, none⟩) (World.block_lt_of_cell? _ _ z1)).trans zf1
  have y2 := (hb1.cell (World.block_lt_of_cell? _ _ z2)).trans z2
  have yf2 := (hb1.frozen (p := ⟨w.heap.size, 2, none⟩) (World.block_lt_of_cell? _ _ z2)).trans zf2
  have y3 := (hb1.cell (World.block_lt_of_cell? _ _ z3)).trans z3
  have yf3 := (hb1.frozen (p := ⟨w.heap.size, 3, none⟩) (World.block_lt_of_cell? _ _ z3)).trans zf3
  have y4 := (hb1.cell (World.block_lt_of_cell? _ _ z4)).trans z4
  have yf4 := (hb1.frozen (p := ⟨w.heap.size, 4, none⟩) (World.block_lt_of_cell? _ _ z4)).trans zf4
  have y5 := (hb1.cell (World.block_lt_of_cell? _ _ z5)).trans z5
  have yf5 := (hb1.frozen (p := ⟨w.heap.size, 5, none⟩) (World.block_lt_of_cell? _ _ z5)).trans zf5
  have y6 := (hb1.cell (World.block_lt_of_cell? _ _ z6)).trans z6
  have yf6 := (hb1.frozen (p := ⟨w.heap.size, 6, none⟩) (World.block_lt_of_cell? _ _ z6)).trans zf6
  have y7 := (hb1.cell (World.block_lt_of_cell? _ _ z7)).trans z7
  have yf7 := (hb1.frozen (p := ⟨w.heap.size, 7, none⟩) (World.block_lt_of_cell? _ _ z7)).trans zf7
  have y8 := (hb1.cell (World.block_lt_of_cell? _ _ z8)).trans z8
  have yf8 := (hb1.frozen (p := ⟨w.heap.size, 8, none⟩) (World.block_lt_of_cell? _ _ z8)).trans zf8
  have y9 := (hb1.cell (World.block_lt_of_cell? _ _ z9)).trans z9
  have yf9 := (hb1.frozen (p := ⟨w.heap.size, 9, none⟩) (World.block_lt_of_cell? _ _ z9)).trans zf9
  have y10 := (hb1.cell (World.block_lt_of_cell? _ _ z10)).trans z10
  have yf10 := (hb1.frozen (p := ⟨w.heap.size, 10, none⟩) (World.block_lt_of_cell? _ _ z10)).trans zf10
  have y11 := (hb1.cell (World.block_lt_of_cell? _ _ z11)).trans z11
  have yf11 := (hb1.frozen (p := ⟨w.heap.size, 11, none⟩) (World.block_lt_of_cell? _ _ z11)).trans zf11
  clear z0 z1 z2 z3 z4 z5 z6 z7 z8 z9 z10 z11 zf0 zf1 zf2 zf3 zf4 zf5 zf6 zf7 zf8 zf9 zf10 zf11
  have hbw1 := hbW.trans (hb1.mono hbW.size)
  have bl : w.heap.size < w1.heap.size := World.block_lt_of_cell? _ _ y0
  have hS := LieS.ofRow ho
  rcases hS with hS | ⟨b, off, rfl, hc⟩
  · simp [hS] at h
  have q0 := hc 0 (by omega)
  simp only [Nat.add_zero] at q0
  obtain ⟨u, hu⟩ : ∃ u, u = word s 0 := ⟨_, rfl⟩
  rw [show (wordsOf s).getD 0 ⟨#[]⟩ = u from hu.symm] at q0
  rw [← hu] at h0
  have h1 : (u.toList == [99, 111, 110, 102, 105, 103]) = true := by rw [h0, conf_list]; rfl
  have HC : Hid (∀ i, i < 13 → w1.cell? ⟨b, off + i, none⟩ = some (.string (word s i))) := fun i hi => hc i (by omega)
  rw [h]
  clear hu hc ho h0 hb1
  obtain ⟨W1, hW1⟩ : ∃ x, x = w1.alloc (.cells #[.int .i64 0, .int .i64 0, .int .i64 0, .int .i64 0, .int .i64 0, .int .i64 0, .int .i64 0, .int .i64 0, .int .i64 0, .int .i64 0, .int .i64 0, .int .i64 0] 42) := ⟨_, rfl⟩
  have hbF : Below w1.heap.size w1 W1 := by rw [hW1]; exact (Below.refl _ _).alloc (Nat.le_refl _) _
  have hF0 : Fld W1 w1.heap.size s 0 := by
    rw [hW1]
    refine ⟨fun j hj => ?_, fun j => ?_⟩
    · rw [if_neg (by omega)]
      rcases (show j = 0 ∨ j = 1 ∨ j = 2 ∨ j = 3 ∨ j = 4 ∨ j = 5 ∨ j = 6 ∨ j = 7 ∨ j = 8 ∨ j = 9 ∨ j = 10 ∨ j = 11 by omega) with rfl | rfl | rfl | rfl | rfl | rfl | rfl | rfl | rfl | rfl | rfl | rfl <;> simp
    · simp
  go_wp2
  rw [← hW1]
  go_loopw [30] (fun i wr => ∃ k : Nat, k ≤ 12 ∧ i = .int .i64 k ∧ Hid (∀ j, 1 ≤ j → j ≤ k → NumOK (word s j)) ∧ Fld wr w1.heap.size s k ∧ Below w1.heap.size w1 wr) (fun i _ => 12 - (intOf i).toNat)
  case atStart => exact ⟨0, Nat.zero_le _, rfl, (fun j h1 h2 => by omega : ∀ j, 1 ≤ j → j ≤ 0 → NumOK (word s j)), hF0, hbF⟩
  case round =>
    clear hF0 hbF hW1
    obtain ⟨k, hk, rfl, HO, hF, hb⟩ := hrel
    have hbw := hbw1.trans (hb.mono hbw1.size)
    have sz := hb.size
    have z0 := (hb.cell (World.block_lt_of_cell? _ _ y0)).trans y0
    have zf0 := (hb.frozen (p := ⟨w.heap.size, 0, none⟩) (World.block_lt_of_cell? _ _ y0)).trans yf0
    have z1 := (hb.cell (World.block_lt_of_cell? _ _ y1)).trans y1
    have zf1 := (hb.frozen (p := ⟨w.heap.size, 1, none⟩) (World.block_lt_of_cell? _ _ y1)).trans yf1
    have z2 := (hb.cell (World.block_lt_of_cell? _ _ y2)).trans y2
    have zf2 := (hb.frozen (p := ⟨w.heap.size, 2, none⟩) (World.block_lt_of_cell? _ _ y2)).trans yf2
    have z3 := (hb.cell (World.block_lt_of_cell? _ _ y3)).trans y3
    have zf3 := (hb.frozen (p := ⟨w.heap.size, 3, none⟩) (World.block_lt_of_cell? _ _ y3)).trans yf3
    have z4 := (hb.cell (World.block_lt_of_cell? _ _ y4)).trans y4
    have zf4 := (hb.frozen (p := ⟨w.heap.size, 4, none⟩) (World.block_lt_of_cell? _ _ y4)).trans yf4
    have z5 := (hb.cell (World.block_lt_of_cell? _ _ y5)).trans y5
    have zf5 := (hb.frozen (p := ⟨w.heap.size, 5, none⟩) (World.block_lt_of_cell? _ _ y5)).trans yf5
    have z6 := (hb.cell (World.block_lt_of_cell? _ _ y6)).trans y6
    have zf6 := (hb.frozen (p := ⟨w.heap.size, 6, none⟩) (World.block_lt_of_cell? _ _ y6)).trans yf6
    have z7 := (hb.cell (World.block_lt_of_cell? _ _ y7)).trans y7
    have zf7 := (hb.frozen (p := ⟨w.heap.size, 7, none⟩) (World.block_lt_of_cell? _ _ y7)).trans yf7
    have z8 := (hb.cell (World.block_lt_of_cell? _ _ y8)).trans y8
    have zf8 := (hb.frozen (p := ⟨w.heap.size, 8, none⟩) (World.block_lt_of_cell? _ _ y8)).trans yf8
    have z9 := (hb.cell (World.block_lt_of_cell? _ _ y9)).trans y9
    have zf9 := (hb.frozen (p := ⟨w.heap.size, 9, none⟩) (World.block_lt_of_cell? _ _ y9)).trans yf9
    have z10 := (hb.cell (World.block_lt_of_cell? _ _ y10)).trans y10
    have zf10 := (hb.frozen (p := ⟨w.heap.size, 10, none⟩) (World.block_lt_of_cell? _ _ y10)).trans yf10
    have z11 := (hb.cell (World.block_lt_of_cell? _ _ y11)).trans y11
    have zf11 := (hb.frozen (p := ⟨w.heap.size, 11, none⟩) (World.block_lt_of_cell? _ _ y11)).trans yf11
    clear y0 y1 y2 y3 y4 y5 y6 y7 y8 y9 y10 y11 yf0 yf1 yf2 yf3 yf4 yf5 yf6 yf7 yf8 yf9 yf10 yf11
    have bF : w1.heap.size < wr.heap.size := World.block_lt_of_cell? _ _ (hF.1 0 (by omega))
    by_cases hlt : k < 12
    · have hki : (k : Int) < 12 := by omega
      have q := HC.out (1 + k) (by omega)
      have q' := (hb.cell (World.block_lt_of_cell? _ _ q)).trans q
      have hsz : (word s (1 + k)).size ≤ 9223372036854775807 := HSZ.out (1 + k) (by omega)
      have hfu : 1 ≤ (word s (1 + k)).size := HFU.out (1 + k) (by omega)
      obtain ⟨wd, hwd⟩ : ∃ x, x = word s (1 + k) := ⟨_, rfl⟩
      rw [← hwd] at q' hsz hfu
      have HWD : Hid (wd = word s (k + 1)) := by unfold Hid; rw [hwd, Nat.add_comm]
      clear hwd q
      rcases num_cases wd hsz with ⟨hok, _, hnum⟩ | ⟨hno, _, hnum⟩
      · have HN : Hid _ := hnum
        have HV : Hid (val s (k + 1) = ((dig wd wd.size : Nat) : Int)) := by unfold Hid val; rw [HWD.out]
        have HO2 : Hid (∀ j, 1 ≤ j → j ≤ k + 1 → NumOK (word s j)) := fun j h1 h2 => by
          by_cases e : j = k + 1
          · rw [e, ← HWD.out]; exact hok
          · exact HO.out j h1 (by omega)
        obtain ⟨D, hD⟩ : ∃ D : Int, D = ((dig wd wd.size : Nat) : Int) := ⟨_, rfl⟩
        rw [← hD] at HN HV
        clear hnum hok hD HO
        go_wp2_with fail
        refine Calls.mono (HN.out _) ?_
        rintro e w2 ⟨rfl, hb2⟩
        have hF2 := hF.moved hb2
        have hbb := hb.trans (hb2.mono hb.size)
        have c0 := hF2.1 k hlt
        rw [if_neg (by omega)] at c0
        have cf0 := hF2.2 k
        have hput := hF2.put hlt D HV.out
        have hbp := hbb.setCell (p := ⟨w1.heap.size, k, none⟩) (Nat.le_refl _) (.int .i64 D)
        clear hb2 hb hF
        go_wp2
        go_roundw
        case rel => exact ⟨k + 1, by omega, by go_num, HO2, hput, hbp⟩
        case measure => simp [intOf]; omega
      · have HN : Hid _ := hnum hfu
        have HF : Hid (¬ ∀ j, 1 ≤ j → j ≤ 12 → NumOK (word s j)) := fun hh => hno (by rw [HWD.out]; exact hh (k + 1) (by omega) (by omega))
        clear hnum hno HO
        go_wp2_with fail
        refine Calls.mono (HN.out _) ?_
        rintro e w2 ⟨rfl, hb2⟩
        have x0 := (hb2.cell (World.block_lt_of_cell? _ _ z0)).trans z0
        have xf0 := (hb2.frozen (p := ⟨w.heap.size, 0, none⟩) (World.block_lt_of_cell? _ _ z0)).trans zf0
        have x1 := (hb2.cell (World.block_lt_of_cell? _ _ z1)).trans z1
        have xf1 := (hb2.frozen (p := ⟨w.heap.size, 1, none⟩) (World.block_lt_of_cell? _ _ z1)).trans zf1
        have x2 := (hb2.cell (World.block_lt_of_cell? _ _ z2)).trans z2
        have xf2 := (hb2.frozen (p := ⟨w.heap.size, 2, none⟩) (World.block_lt_of_cell? _ _ z2)).trans zf2
        have x3 := (hb2.cell (World.block_lt_of_cell? _ _ z3)).trans z3
        have xf3 := (hb2.frozen (p := ⟨w.heap.size, 3, none⟩) (World.block_lt_of_cell? _ _ z3)).trans zf3
        have x4 := (hb2.cell (World.block_lt_of_cell? _ _ z4)).trans z4
        have xf4 := (hb2.frozen (p := ⟨w.heap.size, 4, none⟩) (World.block_lt_of_cell? _ _ z4)).trans zf4
        have x5 := (hb2.cell (World.block_lt_of_cell? _ _ z5)).trans z5
        have xf5 := (hb2.frozen (p := ⟨w.heap.size, 5, none⟩) (World.block_lt_of_cell? _ _ z5)).trans zf5
        have x6 := (hb2.cell (World.block_lt_of_cell? _ _ z6)).trans z6
        have xf6 := (hb2.frozen (p := ⟨w.heap.size, 6, none⟩) (World.block_lt_of_cell? _ _ z6)).trans zf6
        have x7 := (hb2.cell (World.block_lt_of_cell? _ _ z7)).trans z7
        have xf7 := (hb2.frozen (p := ⟨w.heap.size, 7, none⟩) (World.block_lt_of_cell? _ _ z7)).trans zf7
        have x8 := (hb2.cell (World.block_lt_of_cell? _ _ z8)).trans z8
        have xf8 := (hb2.frozen (p := ⟨w.heap.size, 8, none⟩) (World.block_lt_of_cell? _ _ z8)).trans zf8
        have x9 := (hb2.cell (World.block_lt_of_cell? _ _ z9)).trans z9
        have xf9 := (hb2.frozen (p := ⟨w.heap.size, 9, none⟩) (World.block_lt_of_cell? _ _ z9)).trans zf9
        have x10 := (hb2.cell (World.block_lt_of_cell? _ _ z10)).trans z10
        have xf10 := (hb2.frozen (p := ⟨w.heap.size, 10, none⟩) (World.block_lt_of_cell? _ _ z10)).trans zf10
        have x11 := (hb2.cell (World.block_lt_of_cell? _ _ z11)).trans z11
        have xf11 := (hb2.frozen (p := ⟨w.heap.size, 11, none⟩) (World.block_lt_of_cell? _ _ z11)).trans zf11
        clear z0 z1 z2 z3 z4 z5 z6 z7 z8 z9 z10 z11 zf0 zf1 zf2 zf3 zf4 zf5 zf6 zf7 zf8 zf9 zf10 zf11
        have hbw2 := hbw.trans (hb2.mono hbw.size)
        clear hb2 hb hF
        rcases HX.out with ⟨_, rfl, rfl⟩ | ⟨hall, _⟩
        · go_wp2
          exact bodyPost_ret (v := .tuple #[.agg #[.int .i64 0, .int .i64 0, .int .i64 0, .int .i64 0, .int .i64 0, .int .i64 0, .int .i64 0, .int .i64 0, .int .i64 0, .int .i64 0, .int .i64 0, .int .u32 0], .int .i64 16]) (by simp [results, Try.results9, go_sem, x0, x1, x2, x3, x4, x5, x6, x7, x8, x9, x10, x11]) rfl ⟨rfl, below_set12 hbw2 w.heap.size (Nat.le_refl _) _ _ _ _ _ _ _ _ _ _ _ _⟩
        · exact absurd hall HF.out
    · obtain rfl : k = 12 := by omega
      rcases HX.out with ⟨hno, _⟩ | ⟨_, hout⟩
      · exact absurd HO.out hno
      have HOUT : Hid _ := hout
      have hb12 := bounds_of HO.out
      have d0 : wr.cell? ⟨w1.heap.size, 0, none⟩ = some (.int .i64 (val s 1)) := hF.1 0 (by omega)
      have d1 : wr.cell? ⟨w1.heap.size, 1, none⟩ = some (.int .i64 (val s 2)) := hF.1 1 (by omega)
      have d2 : wr.cell? ⟨w1.heap.size, 2, none⟩ = some (.int .i64 (val s 3)) := hF.1 2 (by omega)
      have d3 : wr.cell? ⟨w1.heap.size, 3, none⟩ = some (.int .i64 (val s 4)) := hF.1 3 (by omega)
      have d4 : wr.cell? ⟨w1.heap.size, 4, none⟩ = some (.int .i64 (val s 5)) := hF.1 4 (by omega)
      have d5 : wr.cell? ⟨w1.heap.size, 5, none⟩ = some (.int .i64 (val s 6)) := hF.1 5 (by omega)
      have d6 : wr.cell? ⟨w1.heap.size, 6, none⟩ = some (.int .i64 (val s 7)) := hF.1 6 (by omega)
      have d7 : wr.cell? ⟨w1.heap.size, 7, none⟩ = some (.int .i64 (val s 8)) := hF.1 7 (by omega)
      have d8 : wr.cell? ⟨w1.heap.size, 8, none⟩ = some (.int .i64 (val s 9)) := hF.1 8 (by omega)
      have d9 : wr.cell? ⟨w1.heap.size, 9, none⟩ = some (.int .i64 (val s 10)) := hF.1 9 (by omega)
      have d10 : wr.cell? ⟨w1.heap.size, 10, none⟩ = some (.int .i64 (val s 11)) := hF.1 10 (by omega)
      have d11 : wr.cell? ⟨w1.heap.size, 11, none⟩ = some (.int .i64 (val s 12)) := hF.1 11 (by omega)
      unfold Out cfgOf at HOUT
      have t0 := hb12 1 (by omega) (by omega)
      obtain ⟨n0, hn0⟩ : ∃ n, n = val s 1 := ⟨_, rfl⟩
      rw [← hn0] at d0 t0
      have t1 := hb12 2 (by omega) (by omega)
      obtain ⟨n1, hn1⟩ : ∃ n, n = val s 2 := ⟨_, rfl⟩
      rw [← hn1] at d1 t1
      have t2 := hb12 3 (by omega) (by omega)
      obtain ⟨n2, hn2⟩ : ∃ n, n = val s 3 := ⟨_, rfl⟩
      rw [← hn2] at d2 t2
      have t3 := hb12 4 (by omega) (by omega)
      obtain ⟨n3, hn3⟩ : ∃ n, n = val s 4 := ⟨_, rfl⟩
      rw [← hn3] at d3 t3
      have t4 := hb12 5 (by omega) (by omega)
      obtain ⟨n4, hn4⟩ : ∃ n, n = val s 5 := ⟨_, rfl⟩
      rw [← hn4] at d4 t4
      have t5 := hb12 6 (by omega) (by omega)
      obtain ⟨n5, hn5⟩ : ∃ n, n = val s 6 := ⟨_, rfl⟩
      rw [← hn5] at d5 t5
      have t6 := hb12 7 (by omega) (by omega)
      obtain ⟨n6, hn6⟩ : ∃ n, n = val s 7 := ⟨_, rfl⟩
      rw [← hn6] at d6 t6
      have t7 := hb12 8 (by omega) (by omega)
      obtain ⟨n7, hn7⟩ : ∃ n, n = val s 8 := ⟨_, rfl⟩
      rw [← hn7] at d7 t7
      have t8 := hb12 9 (by omega) (by omega)
      obtain ⟨n8, hn8⟩ : ∃ n, n = val s 9 := ⟨_, rfl⟩
      rw [← hn8] at d8 t8
      have t9 := hb12 10 (by omega) (by omega)
      obtain ⟨n9, hn9⟩ : ∃ n, n = val s 10 := ⟨_, rfl⟩
      rw [← hn9] at d9 t9
      have t10 := hb12 11 (by omega) (by omega)
      obtain ⟨n10, hn10⟩ : ∃ n, n = val s 11 := ⟨_, rfl⟩
      rw [← hn10] at d10 t10
      have t11 := hb12 12 (by omega) (by omega)
      obtain ⟨n11, hn11⟩ : ∃ n, n = val s 12 := ⟨_, rfl⟩
      rw [← hn11] at d11 t11
      rw [← hn0, ← hn1, ← hn2, ← hn3, ← hn4, ← hn5, ← hn6, ← hn7, ← hn8, ← hn9, ← hn10, ← hn11] at HR
      rw [← hn0, ← hn1, ← hn2, ← hn3, ← hn4, ← hn5, ← hn6, ← hn7, ← hn8, ← hn9, ← hn10, ← hn11] at HOUT
      clear HX HO hF hout hb12 hn0 hn1 hn2 hn3 hn4 hn5 hn6 hn7 hn8 hn9 hn10 hn11
      go_wp2_with fail
      refine Calls.mono (configOf_is n0 n1 n2 n3 n4 n5 n6 n7 n8 n9 n10 n11 _) ?_
      rintro e w3 ⟨rfl, hb3⟩
      obtain ⟨I, hI⟩ : ∃ I, I = n11 % 4294967296 := ⟨_, rfl⟩
      rw [← hI] at HR HOUT ⊢
      clear hI
      have x0 := (hb3.cell (World.block_lt_of_cell? _ _ z0)).trans z0
      have xf0 := (hb3.frozen (p := ⟨w.heap.size, 0, none⟩) (World.block_lt_of_cell? _ _ z0)).trans zf0
      have x1 := (hb3.cell (World.block_lt_of_cell? _ _ z1)).trans z1
      have xf1 := (hb3.frozen (p := ⟨w.heap.size, 1, none⟩) (World.block_lt_of_cell? _ _ z1)).trans zf1
      have x2 := (hb3.cell (World.block_lt_of_cell? _ _ z2)).trans z2
      have xf2 := (hb3.frozen (p := ⟨w.heap.size, 2, none⟩) (World.block_lt_of_cell? _ _ z2)).trans zf2
      have x3 := (hb3.cell (World.block_lt_of_cell? _ _ z3)).trans z3
      have xf3 := (hb3.frozen (p := ⟨w.heap.size, 3, none⟩) (World.block_lt_of_cell? _ _ z3)).trans zf3
      have x4 := (hb3.cell (World.block_lt_of_cell? _ _ z4)).trans z4
      have xf4 := (hb3.frozen (p := ⟨w.heap.size, 4, none⟩) (World.block_lt_of_cell? _ _ z4)).trans zf4
      have x5 := (hb3.cell (World.block_lt_of_cell? _ _ z5)).trans z5
      have xf5 := (hb3.frozen (p := ⟨w.heap.size, 5, none⟩) (World.block_lt_of_cell? _ _ z5)).trans zf5
      have x6 := (hb3.cell (World.block_lt_of_cell? _ _ z6)).trans z6
      have xf6 := (hb3.frozen (p := ⟨w.heap.size, 6, none⟩) (World.block_lt_of_cell? _ _ z6)).trans zf6
      have x7 := (hb3.cell (World.block_lt_of_cell? _ _ z7)).trans z7
      have xf7 := (hb3.frozen (p := ⟨w.heap.size, 7, none⟩) (World.block_lt_of_cell? _ _ z7)).trans zf7
      have x8 := (hb3.cell (World.block_lt_of_cell? _ _ z8)).trans z8
      have xf8 := (hb3.frozen (p := ⟨w.heap.size, 8, none⟩) (World.block_lt_of_cell? _ _ z8)).trans zf8
      have x9 := (hb3.cell (World.block_lt_of_cell? _ _ z9)).trans z9
      have xf9 := (hb3.frozen (p := ⟨w.heap.size, 9, none⟩) (World.block_lt_of_cell? _ _ z9)).trans zf9
      have x10 := (hb3.cell (World.block_lt_of_cell? _ _ z10)).trans z10
      have xf10 := (hb3.frozen (p := ⟨w.heap.size, 10, none⟩) (World.block_lt_of_cell? _ _ z10)).trans zf10
      have x11 := (hb3.cell (World.block_lt_of_cell? _ _ z11)).trans z11
      have xf11 := (hb3.frozen (p := ⟨w.heap.size, 11, none⟩) (World.block_lt_of_cell? _ _ z11)).trans zf11
      clear z0 z1 z2 z3 z4 z5 z6 z7 z8 z9 z10 z11 zf0 zf1 zf2 zf3 zf4 zf5 zf6 zf7 zf8 zf9 zf10 zf11
      have g11 := (hb3.cell (World.block_lt_of_cell? _ _ d11)).trans d11
      have hbw3 := hbw.trans (hb3.mono hbw.size)
      have b3 : wr.heap.size ≤ w3.heap.size := hb3.size
      clear hb hb3 d0 d1 d2 d3 d4 d5 d6 d7 d8 d9 d10 d11
      obtain ⟨X, hX⟩ : ∃ X, X = w3.alloc (.cells #[.int .i64 n0, .int .i64 n1, .int .i64 n2, .int .i64 n3, .int .i64 n4, .int .i64 n5, .int .i64 n6, .int .i64 n7, .int .i64 n8, .int .i64 n9, .int .i64 n10, .int .u32 I] 26) := ⟨_, rfl⟩
      have hbX : Below w3.heap.size w3 X := by rw [hX]; exact (Below.refl _ _).alloc (Nat.le_refl _) _
      go_wp2_with fail
      rw [← hX]
      have e0 : X.cell? ⟨w3.heap.size, 0, none⟩ = some (.int .i64 n0) := by rw [hX]; simp
      have e1 : X.cell? ⟨w3.heap.size, 1, none⟩ = some (.int .i64 n1) := by rw [hX]; simp
      have e2 : X.cell? ⟨w3.heap.size, 2, none⟩ = some (.int .i64 n2) := by rw [hX]; simp
      have e3 : X.cell? ⟨w3.heap.size, 3, none⟩ = some (.int .i64 n3) := by rw [hX]; simp
      have e4 : X.cell? ⟨w3.heap.size, 4, none⟩ = some (.int .i64 n4) := by rw [hX]; simp
      have e5 : X.cell? ⟨w3.heap.size, 5, none⟩ = some (.int .i64 n5) := by rw [hX]; simp
      have e6 : X.cell? ⟨w3.heap.size, 6, none⟩ = some (.int .i64 n6) := by rw [hX]; simp
      have e7 : X.cell? ⟨w3.heap.size, 7, none⟩ = some (.int .i64 n7) := by rw [hX]; simp
      have e8 : X.cell? ⟨w3.heap.size, 8, none⟩ = some (.int .i64 n8) := by rw [hX]; simp
      have e9 : X.cell? ⟨w3.heap.size, 9, none⟩ = some (.int .i64 n9) := by rw [hX]; simp
      have e10 : X.cell? ⟨w3.heap.size, 10, none⟩ = some (.int .i64 n10) := by rw [hX]; simp
      have e11 : X.cell? ⟨w3.heap.size, 11, none⟩ = some (.int .u32 I) := by rw [hX]; simp
      have z0 := (hbX.cell (World.block_lt_of_cell? _ _ x0)).trans x0
      have zf0 := (hbX.frozen (p := ⟨w.heap.size, 0, none⟩) (World.block_lt_of_cell? _ _ x0)).trans xf0
      have z1 := (hbX.cell (World.block_lt_of_cell? _ _ x1)).trans x1
      have zf1 := (hbX.frozen (p := ⟨w.heap.size, 1, none⟩) (World.block_lt_of_cell? _ _ x1)).trans xf1
      have z2 := (hbX.cell (World.block_lt_of_cell? _ _ x2)).trans x2
      have zf2 := (hbX.frozen (p := ⟨w.heap.size, 2, none⟩) (World.block_lt_of_cell? _ _ x2)).trans xf2
      have z3 := (hbX.cell (World.block_lt_of_cell? _ _ x3)).trans x3
      have zf3 := (hbX.frozen (p := ⟨w.heap.size, 3, none⟩) (World.block_lt_of_cell? _ _ x3)).trans xf3
      have z4 := (hbX.cell (World.block_lt_of_cell? _ _ x4)).trans x4
      have zf4 := (hbX.frozen (p := ⟨w.heap.size, 4, none⟩) (World.block_lt_of_cell? _ _ x4)).trans xf4
      have z5 := (hbX.cell (World.block_lt_of_cell? _ _ x5)).trans x5
      have zf5 := (hbX.frozen (p := ⟨w.heap.size, 5, none⟩) (World.block_lt_of_cell? _ _ x5)).trans xf5
      have z6 := (hbX.cell (World.block_lt_of_cell? _ _ x6)).trans x6
      have zf6 := (hbX.frozen (p := ⟨w.heap.size, 6, none⟩) (World.block_lt_of_cell? _ _ x6)).trans xf6
      have z7 := (hbX.cell (World.block_lt_of_cell? _ _ x7)).trans x7
      have zf7 := (hbX.frozen (p := ⟨w.heap.size, 7, none⟩) (World.block_lt_of_cell? _ _ x7)).trans xf7
      have z8 := (hbX.cell (World.block_lt_of_cell? _ _ x8)).trans x8
      have zf8 := (hbX.frozen (p := ⟨w.heap.size, 8, none⟩) (World.block_lt_of_cell? _ _ x8)).trans xf8
      have z9 := (hbX.cell (World.block_lt_of_cell? _ _ x9)).trans x9
      have zf9 := (hbX.frozen (p := ⟨w.heap.size, 9, none⟩) (World.block_lt_of_cell? _ _ x9)).trans xf9
      have z10 := (hbX.cell (World.block_lt_of_cell? _ _ x10)).trans x10
      have zf10 := (hbX.frozen (p := ⟨w.heap.size, 10, none⟩) (World.block_lt_of_cell? _ _ x10)).trans xf10
      have z11 := (hbX.cell (World.block_lt_of_cell? _ _ x11)).trans x11
      have zf11 := (hbX.frozen (p := ⟨w.heap.size, 11, none⟩) (World.block_lt_of_cell? _ _ x11)).trans xf11
      clear x0 x1 x2 x3 x4 x5 x6 x7 x8 x9 x10 x11 xf0 xf1 xf2 xf3 xf4 xf5 xf6 xf7 xf8 xf9 xf10 xf11
      have g11' := (hbX.cell (World.block_lt_of_cell? _ _ g11)).trans g11
      have hbwX := hbw3.trans (hbX.mono hbw3.size)
      clear hX hbX g11
      refine Calls.mono (HR.out _) ?_
      rintro e w4 ⟨rfl, hb4⟩
      have y0 := (hb4.cell (World.block_lt_of_cell? _ _ z0)).trans z0
      have yf0 := (hb4.frozen (p := ⟨w.heap.size, 0, none⟩) (World.block_lt_of_cell? _ _ z0)).trans zf0
      have y1 := (hb4.cell (World.block_lt_of_cell? _ _ z1)).trans z1
      have yf1 := (hb4.frozen (p := ⟨w.heap.size, 1, none⟩) (World.block_lt_of_cell? _ _ z1)).trans zf1
      have y2 := (hb4.cell (World.block_lt_of_cell? _ _ z2)).trans z2
      have yf2 := (hb4.frozen (p := ⟨w.heap.size, 2, none⟩) (World.block_lt_of_cell? _ _ z2)).trans zf2
      have y3 := (hb4.cell (World.block_lt_of_cell? _ _ z3)).trans z3
      have yf3 := (hb4.frozen (p := ⟨w.heap.size, 3, none⟩) (World.block_lt_of_cell? _ _ z3)).trans zf3
      have y4 := (hb4.cell (World.block_lt_of_cell? _ _ z4)).trans z4
      have yf4 := (hb4.frozen (p := ⟨w.heap.size, 4, none⟩) (World.block_lt_of_cell? _ _ z4)).trans zf4
      have y5 := (hb4.cell (World.block_lt_of_cell? _ _ z5)).trans z5
      have yf5 := (hb4.frozen (p := ⟨w.heap.size, 5, none⟩) (World.block_lt_of_cell? _ _ z5)).trans zf5
      have y6 := (hb4.cell (World.block_lt_of_cell? _ _ z6)).trans z6
      have yf6 := (hb4.frozen (p := ⟨w.heap.size, 6, none⟩) (World.block_lt_of_cell? _ _ z6)).trans zf6
      have y7 := (hb4.cell (World.block_lt_of_cell? _ _ z7)).trans z7
      have yf7 := (hb4.frozen (p := ⟨w.heap.size, 7, none⟩) (World.block_lt_of_cell? _ _ z7)).trans zf7
      have y8 := (hb4.cell (World.block_lt_of_cell? _ _ z8)).trans z8
      have yf8 := (hb4.frozen (p := ⟨w.heap.size, 8, none⟩) (World.block_lt_of_cell? _ _ z8)).trans zf8
      have y9 := (hb4.cell (World.block_lt_of_cell? _ _ z9)).trans z9
      have yf9 := (hb4.frozen (p := ⟨w.heap.size, 9, none⟩) (World.block_lt_of_cell? _ _ z9)).trans zf9
      have y10 := (hb4.cell (World.block_lt_of_cell? _ _ z10)).trans z10
      have yf10 := (hb4.frozen (p := ⟨w.heap.size, 10, none⟩) (World.block_lt_of_cell? _ _ z10)).trans zf10
      have y11 := (hb4.cell (World.block_lt_of_cell? _ _ z11)).trans z11
      have yf11 := (hb4.frozen (p := ⟨w.heap.size, 11, none⟩) (World.block_lt_of_cell? _ _ z11)).trans zf11
      clear z0 z1 z2 z3 z4 z5 z6 z7 z8 z9 z10 z11 zf0 zf1 zf2 zf3 zf4 zf5 zf6 zf7 zf8 zf9 zf10 zf11
      have m0 := (hb4.cell (World.block_lt_of_cell? _ _ e0)).trans e0
      have m1 := (hb4.cell (World.block_lt_of_cell? _ _ e1)).trans e1
      have m2 := (hb4.cell (World.block_lt_of_cell? _ _ e2)).trans e2
      have m3 := (hb4.cell (World.block_lt_of_cell? _ _ e3)).trans e3
      have m4 := (hb4.cell (World.block_lt_of_cell? _ _ e4)).trans e4
      have m5 := (hb4.cell (World.block_lt_of_cell? _ _ e5)).trans e5
      have m6 := (hb4.cell (World.block_lt_of_cell? _ _ e6)).trans e6
      have m7 := (hb4.cell (World.block_lt_of_cell? _ _ e7)).trans e7
      have m8 := (hb4.cell (World.block_lt_of_cell? _ _ e8)).trans e8
      have m9 := (hb4.cell (World.block_lt_of_cell? _ _ e9)).trans e9
      have m10 := (hb4.cell (World.block_lt_of_cell? _ _ e10)).trans e10
      have m11 := (hb4.cell (World.block_lt_of_cell? _ _ e11)).trans e11
      clear e0 e1 e2 e3 e4 e5 e6 e7 e8 e9 e10 e11
      have g := (hb4.cell (World.block_lt_of_cell? _ _ g11')).trans g11'
      have hbw4 := hbwX.trans (hb4.mono hbwX.size)
      clear hb4 g11'
      cases r with
      | false =>
        go_wp2
        have HE : c = #[.int .i64 0, .int .i64 0, .int .i64 0, .int .i64 0, .int .i64 0, .int .i64 0, .int .i64 0, .int .i64 0, .int .i64 0, .int .i64 0, .int .i64 0, .int .u32 0] ∧ code = 17 := by
          rcases HOUT.out with ⟨_, h1, h2⟩ | ⟨_, h1, _⟩
          · exact ⟨h1, h2⟩
          · cases h1
        obtain ⟨rfl, rfl⟩ := HE
        exact bodyPost_ret (v := .tuple #[.agg #[.int .i64 0, .int .i64 0, .int .i64 0, .int .i64 0, .int .i64 0, .int .i64 0, .int .i64 0, .int .i64 0, .int .i64 0, .int .i64 0, .int .i64 0, .int .u32 0], .int .i64 17]) (by simp [results, Try.results9, go_sem, y0, y1, y2, y3, y4, y5, y6, y7, y8, y9, y10, y11]) rfl ⟨rfl, below_set12 hbw4 w.heap.size (Nat.le_refl _) _ _ _ _ _ _ _ _ _ _ _ _⟩
      | true =>
        by_cases hbig : 4294967295 < n11
        · go_wp2
          have HE : c = #[.int .i64 0, .int .i64 0, .int .i64 0, .int .i64 0, .int .i64 0, .int .i64 0, .int .i64 0, .int .i64 0, .int .i64 0, .int .i64 0, .int .i64 0, .int .u32 0] ∧ code = 17 := by
            rcases HOUT.out with ⟨_, h1, h2⟩ | ⟨h1, _⟩
            · exact ⟨h1, h2⟩
            · omega
          obtain ⟨rfl, rfl⟩ := HE
          exact bodyPost_ret (v := .tuple #[.agg #[.int .i64 0, .int .i64 0, .int .i64 0, .int .i64 0, .int .i64 0, .int .i64 0, .int .i64 0, .int .i64 0, .int .i64 0, .int .i64 0, .int .i64 0, .int .u32 0], .int .i64 17]) (by simp [results, Try.results9, go_sem, y0, y1, y2, y3, y4, y5, y6, y7, y8, y9, y10, y11]) rfl ⟨rfl, below_set12 hbw4 w.heap.size (Nat.le_refl _) _ _ _ _ _ _ _ _ _ _ _ _⟩
        · have hbig' : ¬ 4294967295 < n11 := hbig
          go_wp2
          have HE : c = #[.int .i64 n0, .int .i64 n1, .int .i64 n2, .int .i64 n3, .int .i64 n4, .int .i64 n5, .int .i64 n6, .int .i64 n7, .int .i64 n8, .int .i64 n9, .int .i64 n10, .int .u32 I] ∧ code = 0 := by
            rcases HOUT.out with ⟨h1 | h1, _⟩ | ⟨_, _, h1, h2⟩
            · omega
            · cases h1
            · exact ⟨h1, h2⟩
          obtain ⟨rfl, rfl⟩ := HE
          exact bodyPost_ret (v := .tuple #[.agg #[.int .i64 n0, .int .i64 n1, .int .i64 n2, .int .i64 n3, .int .i64 n4, .int .i64 n5, .int .i64 n6, .int .i64 n7, .int .i64 n8, .int .i64 n9, .int .i64 n10, .int .u32 I], .int .i64 0]) (by simp [results, Try.results9, go_sem, y0, y1, y2, y3, y4, y5, y6, y7, y8, y9, y10, y11]) rfl ⟨rfl, below_set12 hbw4 w.heap.size (Nat.le_refl _) _ _ _ _ _ _ _ _ _ _ _ _⟩
end Go.Proofs.Ytjiaiaclmceeeaa
