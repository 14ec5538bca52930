import Derived.Test.YthgggmkljnghmaaDoorFrameTurn
import Derived.Test.YthgggmkljnghmaaDoorDecLaw
import Derived.Test.YthgggmkljnghmaaDoorSplit3
import Derived.Test.YthgggmkljnghmaaDoorDrawF5
import Derived.Deep.RegionHeld3
import Derived.Deep.Cut
import Derived.Deep.CutRange
import Derived.Deep.RegionWith
namespace Go.Proofs.YthgggmkljnghmaaDoor
open Go.ChangeShapes Go.WideShapes Go.ChangeAt Go.RowKit
set_option linter.unusedVariables false

theorem bad_not0 {zs : List Int} {c : Int} (h : Bad zs c) : ¬ c = 0 := by
  rcases h with ⟨_, rfl⟩ | ⟨_, _, rfl⟩ | ⟨_, _, _, rfl⟩ <;> omega

theorem row_none2 {w : World} {base : Nat} {e : TypeId} {size : Nat} {av : Option Addr} {n cap : Nat} {xs : List Value} (h : w.ownsRow base e size (.slice av n cap) n xs) : (av = none → cap = 0) ∧ n ≤ cap := by
  rcases h.2 with ⟨h1, h2⟩ | ⟨g, c, cur, h1, _, _, h3, _⟩
  · simp only [Value.slice.injEq] at h1
    obtain ⟨rfl, rfl, rfl⟩ := h1
    exact ⟨fun _ => rfl, Nat.le_refl _⟩
  · simp only [Value.slice.injEq] at h1
    obtain ⟨rfl, _, rfl⟩ := h1
    exact ⟨fun h => (by cases h), h3⟩

theorem bit8 (t : Nat) (h : t ≤ 7) : 1 ≤ (2 : Int) ^ t % 256 ∧ (2 : Int) ^ t % 256 ≤ 255 := by
  rcases (show t = 0 ∨ t = 1 ∨ t = 2 ∨ t = 3 ∨ t = 4 ∨ t = 5 ∨ t = 6 ∨ t = 7 by omega) with rfl | rfl | rfl | rfl | rfl | rfl | rfl | rfl <;> decide

theorem below_undrew2 {a w : World} (h : Below a.drew.heap.size a.drew w) : Below a.heap.size a w := ⟨h.os, h.tape, h.output, h.size, h.block⟩

set_option maxHeartbeats 4000000 in
set_option maxRecDepth 100000 in
/-- Where the drawn bytes are no frame. -/
theorem frames_bad (a0 : Option Addr) (zs0 : List Int) (n0 cap0 : Nat) (a1 : Option Addr) (n1 cap1 : Nat) (w : World) (h0 : zs0.length = n0) (hz0 : Ints .u8 w a0 zs0) (hv0 : ∀ x ∈ zs0, 0 ≤ x ∧ x ≤ 255) (hg : Laid w) (hl0 : n0 ≤ 1048576) (hl1 : n1 ≤ 1048576)
    (c : Int) (hbad : Bad (decodeF zs0) c) :
    Calls Tryd.prog 6 #[.slice a0 n0 cap0, .slice a1 n1 cap1] w fun e w' => e = .returned (.bool true) ∧ Below w.heap.size w w' := by
  have hd1 : decide (1048576 < (n0 : Int)) = false := by simp; omega
  have hd2 : decide (1048576 < (n1 : Int)) = false := by simp; omega
  have hc0 := bad_not0 hbad
  have hcb : (c != 0) = true := by simpa using hc0
  have hce : (c != c) = false := by simp
  go_enter Tryd.func6, Tryd.ntmps6
  go_wp2_with fail
  refine (drawDecode_at w a0 zs0 n0 cap0 h0 hz0 hv0 (by omega)).mono ?_
  rintro e w1 ⟨ys, av1, cp1, rfl, HD1, hyl, hyv, hyi, hy1, hy2, hb1⟩
  go_wp2_with fail
  refine (specDecode av1 ys ys.length cp1 w1 hyi rfl hyv hy2 (by omega)).mono ?_
  rintro e w2 ⟨hb2, ⟨c', hc', rfl⟩ | ⟨hgood, _⟩⟩
  rotate_left
  · exact absurd hgood (fun h => bad_good (by rw [← HD1.out]; exact hbad) h)
  obtain rfl : c' = c := bad_one hc' (by rw [← HD1.out]; exact hbad)
  have hb12 := hb1.trans (hb2.mono hb1.size)
  unfold zeroFrame
  obtain ⟨V2, hV2⟩ : ∃ x, x = w2.alloc (.cells #[.int .i64 0, .int .i64 0, .int .u32 0, .int .u64 0, .int .i64 0, .slice none 0 0] 30) := ⟨_, rfl⟩
  have hbV : Below w.heap.size w V2 := by rw [hV2]; exact hb12.alloc hb12.size _
  clear hyi hy1 hy2 hb1 hb2 hb12 hyv hyl
  go_wp2_with fail
  rw [← hV2]
  clear hV2
  refine (drawDecode_at V2 a0 zs0 n0 cap0 h0 (hz0.moved hbV) hv0 (by omega)).mono ?_
  rintro e w3 ⟨ys3, av3, cp3, rfl, HD3, hyl, hyv, hyi, hy1, hy2, hb3⟩
  have hbW := hbV.trans (hb3.mono hbV.size)
  go_wp2_with fail
  refine (implDecode av3 ys3 ys3.length cp3 w3 (hg.moved hbW) hyi rfl hyv hy1 hy2 (by omega)).mono ?_
  rintro e w4 ⟨hb4, ⟨c4, hc4, rfl⟩ | ⟨hgood, _⟩⟩
  rotate_left
  · exact absurd hgood (fun h => bad_good (by rw [← HD3.out]; exact hbad) h)
  obtain rfl : c4 = c' := bad_one hc4 (by rw [← HD3.out]; exact hbad)
  have hb5 := hbW.trans (hb4.mono hbW.size)
  unfold zeroFrame
  clear hyi hy1 hy2 hb3 hb4 hyv hyl hbW hbV
  go_wp2_with fail
  refine (lFrame_same 0 0 0 0 0 none none [] 0 0 0 _ (.inl rfl) (.inl rfl) rfl).mono ?_
  rintro e w6 ⟨rfl, hb6⟩
  go_wp2
  go_ret
  exact ⟨rfl, (hb5.alloc hb5.size _).trans (hb6.mono (by have := hb5.size; simp; omega))⟩

set_option maxHeartbeats 4000000 in
set_option maxRecDepth 100000 in
/-- Where the drawn bytes are a frame. -/
theorem frames_good (a0 : Option Addr) (zs0 : List Int) (n0 cap0 : Nat) (a1 : Option Addr) (zs1 : List Int) (n1 cap1 : Nat) (w : World) (h0 : zs0.length = n0) (hz0 : Ints .u8 w a0 zs0) (hv0 : ∀ x ∈ zs0, 0 ≤ x ∧ x ≤ 255) (h1 : zs1.length = n1) (hz1 : Ints .u8 w a1 zs1) (hv1 : ∀ x ∈ zs1, 0 ≤ x ∧ x ≤ 255) (hg : Laid w) (hl0 : n0 ≤ 1048576) (hl1 : n1 ≤ 1048576)
    (hgd : Good (decodeF zs0)) :
    Calls Tryd.prog 6 #[.slice a0 n0 cap0, .slice a1 n1 cap1] w fun e w' => e = .returned (.bool true) ∧ Below w.heap.size w w' := by
  have hd1 : decide (1048576 < (n0 : Int)) = false := by simp; omega
  have hd2 : decide (1048576 < (n1 : Int)) = false := by simp; omega
  have H0 : Hid (zs0.length = n0) := h0
  have H1 : Hid (zs1.length = n1) := h1
  clear h0 h1
  go_enter Tryd.func6, Tryd.ntmps6
  go_wp2_with fail
  refine (drawDecode_at w a0 zs0 n0 cap0 H0.out hz0 hv0 (by omega)).mono ?_
  rintro e w1 ⟨ys, av1, cp1, rfl, HD1, hyl, hyv, hyi, hy1, hy2, hb1⟩
  have hgood : Good ys := by rw [← HD1.out]; exact hgd
  go_wp2_with fail
  refine (specDecode av1 ys ys.length cp1 w1 hyi rfl hyv hy2 (by omega)).mono ?_
  rintro e w2 ⟨hb2, ⟨c', hc', rfl⟩ | ⟨_, av2, cp2, ho2, rfl⟩⟩
  · exact absurd hgood (fun h => bad_good hc' h)
  have hb12 := hb1.trans (hb2.mono hb1.size)
  unfold frameAt
  have hpl : ((ys.drop 18).take (szOf ys)).length = szOf ys := by have := hgood.1; simp; omega
  have hpv : ∀ x ∈ (ys.drop 18).take (szOf ys), 0 ≤ x ∧ x ≤ 255 := fun x hx => hyv x (List.mem_of_mem_drop (List.mem_of_mem_take hx))
  have hV := hgood.2.2.2
  have b4 := fld_lt hyv 4 4 4294967296 rfl
  have b8 := fld_lt hyv 8 8 18446744073709551616 rfl
  have hag := again hyv hgood.1 hgood.2.1 hgood.2.2.1
  obtain ⟨m, HM⟩ : ∃ m, Hid (ys.length = m) := ⟨_, rfl⟩
  have hm22 : Hid (22 + szOf ys = m) := by have := HM.out; have := hgood.1; unfold Hid; omega
  obtain ⟨k1, hk1⟩ : ∃ k1, Hid (k1 = fld ys 1 1) := ⟨_, rfl⟩
  obtain ⟨k2, hk2⟩ : ∃ k2, Hid (k2 = fld ys 2 1) := ⟨_, rfl⟩
  obtain ⟨k3, hk3⟩ : ∃ k3, Hid (k3 = fld ys 4 4) := ⟨_, rfl⟩
  obtain ⟨k4, hk4⟩ : ∃ k4, Hid (k4 = fld ys 8 8) := ⟨_, rfl⟩
  obtain ⟨k5, hk5⟩ : ∃ k5, Hid (k5 = fld ys 16 2) := ⟨_, rfl⟩
  obtain ⟨sz, hsz⟩ : ∃ sz, Hid (sz = szOf ys) := ⟨_, rfl⟩
  obtain ⟨ps, hps⟩ : ∃ ps, Hid (ps = (ys.drop 18).take (szOf ys)) := ⟨_, rfl⟩
  rw [← hps.out] at hpl hpv hag ho2
  rw [← hsz.out] at hpl hV hm22 ho2
  rw [← hk1.out, ← hk2.out, ← hk3.out, ← hk4.out, ← hk5.out] at hV hag
  rw [← hk3.out] at b4
  rw [← hk4.out] at b8
  rw [← hk1.out, ← hk2.out, ← hk3.out, ← hk4.out, ← hk5.out, ← hsz.out]
  obtain ⟨V2, hV2⟩ : ∃ x, x = w2.alloc (.cells #[.int .i64 k1, .int .i64 k2, .int .u32 k3, .int .u64 k4, .int .i64 k5, .slice av2 sz cp2] 30) := ⟨_, rfl⟩
  have hbV : Below w.heap.size w V2 := by rw [hV2]; exact hb12.alloc hb12.size _
  have hbV2 : Below w2.heap.size w2 V2 := by rw [hV2]; exact (Below.refl _ _).alloc (Nat.le_refl _) _
  have hF2 : V2.heap[w2.heap.size]? = some (.cells #[.int .i64 k1, .int .i64 k2, .int .u32 k3, .int .u64 k4, .int .i64 k5, .slice av2 sz cp2] 30) := by rw [hV2]; exact alloc_block _ _ _ rfl
  have sV : w2.heap.size < V2.heap.size := by rw [hV2]; simp
  have i2 : Ints .u8 V2 av2 ps := (Ints.row ho2).moved hbV2
  have r2 := row_none2 ho2
  have s12 := hb12.size
  clear hyi hy1 hy2 hb1 hb2 hb12 ho2
  go_wp2_with fail
  rw [← hV2]
  clear hV2
  refine (drawDecode_at V2 a0 zs0 n0 cap0 H0.out (hz0.moved hbV) hv0 (by omega)).mono ?_
  rintro e w3 ⟨ys3, av3, cp3, rfl, HD3, hyl3, hyv3, hyi, hy1, hy2, hb3⟩
  obtain rfl : ys = ys3 := HD1.out.symm.trans HD3.out
  have hbW := hbV.trans (hb3.mono hbV.size)
  have hbX : Below V2.heap.size V2 w3 := hb3
  go_wp2_with fail
  refine (implDecode av3 ys ys.length cp3 w3 (hg.moved hbW) hyi rfl hyv hy1 hy2 (by omega)).mono ?_
  rintro e w4 ⟨hb4, ⟨c', hc', rfl⟩ | ⟨_, av4, cp4, ho4, rfl⟩⟩
  · exact absurd hgood (fun h => bad_good hc' h)
  unfold frameAt
  rw [← hps.out] at ho4
  rw [← hsz.out] at ho4
  rw [← hk1.out, ← hk2.out, ← hk3.out, ← hk4.out, ← hk5.out, ← hsz.out]
  have hb24 := hbX.trans (hb4.mono hbX.size)
  obtain ⟨V4, hV4⟩ : ∃ x, x = w4.alloc (.cells #[.int .i64 k1, .int .i64 k2, .int .u32 k3, .int .u64 k4, .int .i64 k5, .slice av4 sz cp4] 30) := ⟨_, rfl⟩
  have hbU : Below V2.heap.size V2 V4 := by rw [hV4]; exact hb24.alloc hb24.size _
  have hbV4 : Below w4.heap.size w4 V4 := by rw [hV4]; exact (Below.refl _ _).alloc (Nat.le_refl _) _
  have hF4 : V4.heap[w4.heap.size]? = some (.cells #[.int .i64 k1, .int .i64 k2, .int .u32 k3, .int .u64 k4, .int .i64 k5, .slice av4 sz cp4] 30) := by rw [hV4]; exact alloc_block _ _ _ rfl
  have sV4 : w4.heap.size < V4.heap.size := by rw [hV4]; simp
  have i4 : Ints .u8 V4 av4 ps := (Ints.row ho4).moved hbV4
  have hF24 := (hbU.block _ sV).trans hF2
  have i24 := i2.moved hbU
  have s24 := hb24.size
  have hbw4 := hbV.trans (hbU.mono hbV.size)
  obtain ⟨⟨f0, f1, f2, f3, f4, f5⟩, _⟩ := six_at ((hb24.block _ sV).trans hF2)
  have nn1 : ¬ w2.heap.size = w4.heap.size := by omega
  have nn2 : ¬ w4.heap.size = w2.heap.size := by omega
  have hlt4 : w2.heap.size < w4.heap.size := by omega
  clear hyi hy1 hy2 hb3 hb4 ho4 hbX hb24 hyv3 hyl3 hbW hF2 i2
  have henc := implEncode_good k1 k2 k3 k4 k5 av2 ps sz cp2 V4 (by unfold Valid at hV; omega) (by unfold Valid at hV; omega) (by unfold Valid at hV; omega) (by unfold Valid at hV; omega) (by omega) (by omega) (by omega) (by omega) (by unfold Valid at hV; omega) (by unfold Valid at hV; omega) (by unfold Valid at hV; omega) hpl i24 hpv r2.1 hV
  rw [hag, hm22.out] at henc
  go_wp2_with fail
  rw [← hV4]
  clear hV4
  refine henc.mono ?_
  rintro e w5 ⟨av5, cp5, rfl, ho5, hb5⟩
  clear henc f0 f1 f2 f3 f4 f5
  have i25 := i24.moved hb5
  have i45 := i4.moved hb5
  have hF25 := (hb5.block _ (by omega)).trans hF24
  have hF45 := (hb5.block _ sV4).trans hF4
  have hbw5 := hbw4.trans (hb5.mono hbw4.size)
  have s5 := hb5.size
  obtain ⟨⟨f0, f1, f2, f3, f4, f5⟩, _⟩ := six_at hF25
  obtain ⟨⟨g0, g1, g2, g3, g4, g5⟩, _⟩ := six_at hF45
  have HPL : Hid _ := hpl
  clear hpl
  have L1 := lFrame_same k1 k2 k3 k4 k5 av4 av2 ps sz cp4 cp2 w5.drew (i45.moved ((Below.refl _ _).drew)) (i25.moved ((Below.refl _ _).drew)) HPL.out
  have ib5 : Ints .u8 w5 av5 ys := Ints.row ho5
  have hlg := HM.out
  have sb5 := toString_any av5 ys m cp5 w5 ib5 HM.out
  have sb5d := toString_any av5 ys m cp5 w5.drew (ib5.moved ((Below.refl _ _).drew)) HM.out
  obtain ⟨SS, hSS⟩ : ∃ SS, Hid (SS = strOf ys) := ⟨_, rfl⟩
  rw [← hSS.out] at sb5 sb5d
  have HS12 : Hid (∀ W : World, Below w5.heap.size w5 W → (fun w' => w'.cell? ⟨w2.heap.size, 0, none⟩ = some (.int .i64 k1) ∧ w'.cell? ⟨w2.heap.size, 1, none⟩ = some (.int .i64 k2) ∧ w'.cell? ⟨w2.heap.size, 2, none⟩ = some (.int .u32 k3) ∧ w'.cell? ⟨w2.heap.size, 3, none⟩ = some (.int .u64 k4) ∧ w'.cell? ⟨w2.heap.size, 4, none⟩ = some (.int .i64 k5) ∧ w'.cell? ⟨w2.heap.size, 5, none⟩ = some (.slice av2 sz cp2) ∧ w'.cell? ⟨w4.heap.size, 0, none⟩ = some (.int .i64 k1) ∧ w'.cell? ⟨w4.heap.size, 1, none⟩ = some (.int .i64 k2) ∧ w'.cell? ⟨w4.heap.size, 2, none⟩ = some (.int .u32 k3) ∧ w'.cell? ⟨w4.heap.size, 3, none⟩ = some (.int .u64 k4) ∧ w'.cell? ⟨w4.heap.size, 4, none⟩ = some (.int .i64 k5) ∧ w'.cell? ⟨w4.heap.size, 5, none⟩ = some (.slice av4 sz cp4) ∧ (convert 24 9 (.slice av5 m cp5)).run Tryd.prog w' = .ok (.string SS) w') W) := fun W hW => ⟨(hW.cell (World.block_lt_of_cell? w5 _ f0)).trans f0, (hW.cell (World.block_lt_of_cell? w5 _ f1)).trans f1, (hW.cell (World.block_lt_of_cell? w5 _ f2)).trans f2, (hW.cell (World.block_lt_of_cell? w5 _ f3)).trans f3, (hW.cell (World.block_lt_of_cell? w5 _ f4)).trans f4, (hW.cell (World.block_lt_of_cell? w5 _ f5)).trans f5, (hW.cell (World.block_lt_of_cell? w5 _ g0)).trans g0, (hW.cell (World.block_lt_of_cell? w5 _ g1)).trans g1, (hW.cell (World.block_lt_of_cell? w5 _ g2)).trans g2, (hW.cell (World.block_lt_of_cell? w5 _ g3)).trans g3, (hW.cell (World.block_lt_of_cell? w5 _ g4)).trans g4, (hW.cell (World.block_lt_of_cell? w5 _ g5)).trans g5, by rw [hSS.out]; exact toString_any av5 ys m cp5 W (ib5.moved hW) HM.out⟩
  have HGOOD : Hid (Good ys) := hgood
  clear hlg hgood hag hpv hV hgd
  go_upto_region 10 with fail
  go_cut [65] from 50 to 65 (fun c wx => c = .bool false ∧ Below w5.heap.size w5 wx)
  case first =>
    go_region_with (first
        | (go_at_call 23; with_reducible (refine Calls.mono L1 ?_); rintro e w6 ⟨rfl, hb6⟩; obtain ⟨f0a, f1a, f2a, f3a, f4a, f5a, g0a, g1a, g2a, g3a, g4a, g5a, sb6⟩ := HS12.out w6 (below_undrew2 hb6); have hbw6 := hbw5.trans ((below_undrew2 hb6).mono hbw5.size); have ib6 := ib5.moved (below_undrew2 hb6); have L2 := drawDecode_at w6 a0 zs0 n0 cap0 H0.out (hz0.moved hbw6) hv0 (by omega))
        | (go_at_call 20; with_reducible (refine Calls.mono L2 ?_); rintro e w7 ⟨ys7, av7, cp7, rfl, HD7, hyl7, hyv7, hyi7, hy17, hy27, hb7⟩; obtain rfl : ys = ys7 := HD1.out.symm.trans HD7.out; obtain ⟨f0b, f1b, f2b, f3b, f4b, f5b, g0b, g1b, g2b, g3b, g4b, g5b, sb7⟩ := HS12.out w7 ((below_undrew2 hb6).trans (hb7.mono (below_undrew2 hb6).size)); have sd7 := toString_any av7 ys ys.length cp7 w7 hyi7 rfl; rw [← hSS.out] at sd7))
    all_goals
      go_wp2_with fail
      go_meet
      case rel => exact ⟨rfl, (below_undrew2 hb6).trans (hb7.mono (below_undrew2 hb6).size)⟩
  case rest =>
    obtain ⟨rfl, hbc⟩ := hcut
    clear L1 f0 f1 f2 f3 f4 f5 g0 g1 g2 g3 g4 g5 sb5 sb5d HS12 hSS
    have ibc := ib5.moved hbc
    have hbwc := hbw5.trans (hbc.mono hbw5.size)
    have hm1 : 22 ≤ m := by have := hm22.out; omega
    have hm2 : m ≤ 1000 := by have := HM.out; omega
    have hcp5 := (row_none2 ho5).2
    have hi1 : (4 : Int) ≤ (m : Int) := by omega
    have hi2 : (m : Int) - 4 ≤ (cp5 : Int) := by omega
    have hi3 : ((m : Int) - 4).toNat = m - 4 := by omega
    have hi4 : wrap64 ((m : Int) - 4) = (m : Int) - 4 := by unfold wrap64; omega
    have hcop := lCopy_any av5 (ys.take (m - 4)) (m - 4) cp5 wc (ibc.take _) (by have := HM.out; simp; omega) (by omega)
    go_wp2_with fail
    refine hcop.mono ?_
    rintro e w8 ⟨av8, cp8, rfl, ho8, hb8⟩
    clear hcop
    have hcrc := implCrc av8 (ys.take (m - 4)) cp8 w8 (Ints.row ho8) (fun x hx => hyv x (List.mem_of_mem_take hx)) (by have := HM.out; simp; omega)
    rw [show (ys.take (m - 4)).length = m - 4 by have := HM.out; simp; omega] at hcrc
    have ib8 := ibc.moved hb8
    have hbw8 := hbwc.trans (hb8.mono hbwc.size)
    go_wp2_with fail
    refine hcrc.mono ?_
    rintro e w9 ⟨rfl, rfl⟩
    clear hcrc
    obtain ⟨S, hS⟩ : ∃ S, Hid (S = crcOf (ys.take (m - 4))) := ⟨_, rfl⟩
    rw [← hS.out]
    obtain ⟨y0, y1, y2, y3⟩ := sum_bytes hyv HGOOD.out HM.out
    rw [← hS.out] at y0 y1 y2 y3
    have hSf : 0 ≤ S ∧ S ≤ 4294967295 := by rw [hS.out]; exact xor32 _ _
    obtain ⟨g5, rfl⟩ : ∃ g, av5 = some ⟨g, 0, none⟩ := by
      rcases ho5.2 with ⟨h1, h2⟩ | ⟨g, c, cur, h1, _⟩
      · omega
      · simp only [Value.slice.injEq] at h1
        exact ⟨g, h1.1⟩
    have cl5 := fun j hj => (cell8 ho5 j hj).1
    have lt5 := (ho5.lt g5 rfl).2
    have cl9 : ∀ j, j < m → w9.cell? ⟨g5, j, none⟩ = some (.int .u8 (ys.getD j 0)) := fun j hj => by rw [hb8.cell (Nat.lt_of_lt_of_le lt5 hbc.size), hbc.cell lt5]; exact cl5 j hj
    have p0 := cl9 (m - 4) (by omega)
    have p1 := cl9 (m - 3) (by omega)
    have p2 := cl9 (m - 2) (by omega)
    have p3 := cl9 (m - 1) (by omega)
    rw [y0] at p0
    rw [y1] at p1
    rw [y2] at p2
    rw [y3] at p3
    have HCL : Hid (∀ j, j < m → w9.cell? ⟨g5, j, none⟩ = some (.int .u8 (ys.getD j 0))) := cl9
    have hj3 : ((m : Int) - 3).toNat = m - 3 := by omega
    have hj2 : ((m : Int) - 2).toNat = m - 2 := by omega
    have hj1 : ((m : Int) - 1).toNat = m - 1 := by omega
    have hk3 : wrap64 ((m : Int) - 3) = (m : Int) - 3 := by unfold wrap64; omega
    have hk2 : wrap64 ((m : Int) - 2) = (m : Int) - 2 := by unfold wrap64; omega
    have hk1' : wrap64 ((m : Int) - 1) = (m : Int) - 1 := by unfold wrap64; omega
    have hm3 : (3 : Int) ≤ (m : Int) := by omega
    have hm2' : (2 : Int) ≤ (m : Int) := by omega
    have hm1' : (1 : Int) ≤ (m : Int) := by omega
    obtain ⟨s0, s1⟩ := hSf
    clear cl9 cl5 y0 y1 y2 y3 s0 s1
    go_wp2
    clear p0 p1 p2 p3 hj3 hj2 hj1 hk3 hk2 hk1' hm3 hm2' hm1' hi1 hi2 hi3 hi4
    go_loopw [12] (fun i wr => ∃ k : Nat, k ≤ 30 ∧ k ≤ n1 ∧ i = .int .i64 k ∧ Below w9.heap.size w9 wr) (fun i _ => 30 - (intOf i).toNat)
    case atStart => exact ⟨0, by omega, by omega, rfl, Below.refl _ _⟩
    case round =>
      obtain ⟨k, hk30, hkn, rfl, hbr⟩ := hrel
      by_cases hlt : k < 30
      · by_cases hlt2 : k < n1
        · rcases hz1 with h | ⟨bc, off, rfl, hc⟩
          · have := H1.out; simp [h] at this; omega
          obtain ⟨c, hn, d0, d1, hcell⟩ := byteAt hv1 hc (by rw [H1.out]; exact hlt2)
          have hltc : bc < w.heap.size := World.block_lt_of_cell? w _ hcell
          have hbwr := hbw8.trans (hbr.mono hbw8.size)
          have hcr : wr.cell? ⟨bc, off + k, none⟩ = some (.int .u8 c) := by rw [hbwr.cell hltc]; exact hcell
          have ibr := ib8.moved hbr
          have hcop := lCopy_any (some ⟨g5, 0, none⟩) ys m cp5 wr ibr HM.out (by omega)
          clear hc hcell hn
          go_wp2_with fail
          refine hcop.mono ?_
          rintro e w10 ⟨av10, cp10, rfl, ho10, hb10⟩
          clear hcop
          obtain ⟨g10, rfl⟩ : ∃ g, av10 = some ⟨g, 0, none⟩ := by
            rcases ho10.2 with ⟨h1, h2⟩ | ⟨g, c, cur, h1, _⟩
            · omega
            · simp only [Value.slice.injEq] at h1
              exact ⟨g, h1.1⟩
          have hcr10 : w10.cell? ⟨bc, off + k, none⟩ = some (.int .u8 c) := by rw [hb10.cell (World.block_lt_of_cell? wr _ hcr)]; exact hcr
          obtain ⟨J, hJ, hJm⟩ : ∃ J : Nat, (c + 53 * (k : Int)) % (m : Int) = (J : Int) ∧ J < m := by
            have h1 := Int.emod_nonneg (c + 53 * (k : Int)) (show (m : Int) ≠ 0 by omega)
            have h2 := Int.emod_lt_of_pos (c + 53 * (k : Int)) (show (0 : Int) < (m : Int) by omega)
            exact ⟨((c + 53 * (k : Int)) % (m : Int)).toNat, by omega, by omega⟩
          obtain ⟨p10, q10⟩ := cell8 ho10 J hJm
          obtain ⟨y, hy⟩ : ∃ y, Hid (ys.getD J 0 = y) := ⟨_, rfl⟩
          have hyb : 0 ≤ y ∧ y ≤ 255 := by
            rw [← hy.out, List.getD_eq_getElem?_getD, List.getElem?_eq_getElem (by rw [HM.out]; exact hJm)]
            exact hyv _ (List.getElem_mem _)
          rw [hy.out] at p10
          have hJm2 : (J : Int) < (m : Int) := by omega
          have nbc : ¬ bc = g10 := by have := (ho10.lt g10 rfl).1; have := hbwr.size; omega
          have nbd : ¬ g10 = bc := fun h => nbc h.symm
          have hst := fun X => stored8 ho10 J X
          have hlt10 := ho10.lt g10 rfl
          have hbX : ∀ X, Below wr.heap.size wr (w10.setCell ⟨g10, J, none⟩ (.int .u8 X)) := fun X => hb10.setCell hlt10.1 _
          go_wp2
          go_region
          all_goals
            have hX1 := xor8 y (2 ^ (c % 8).toNat % 256)
            have hd8 := bit8 (c % 8).toNat (by omega)
            have hX2 := xor8_ne hyb.1 hyb.2 hd8.1 hd8.2
            go_wp2_with fail
            obtain ⟨X, hX⟩ : ∃ X, X = bits .xor .u8 y (2 ^ (c % 8).toNat % 256) := ⟨_, rfl⟩
            rw [← hX] at hX1 hX2 ⊢
            clear hX hd8
            have hstX := hst X
            have hbXX := (hbX X).drew
            have hnot : ¬ Good (ys.set J X) := turned_bad hyv HGOOD.out (by rw [HM.out]; exact hJm) hX1.1 hX1.2 (by rw [hy.out]; exact hX2)
            refine (implDecode (some ⟨g10, 0, none⟩) (ys.set J X) m cp10 _ (hg.moved (hbwr.trans (hbXX.mono hbwr.size))) ((Ints.row hstX).moved ((Below.refl _ _).drew)) (by rw [List.length_set]; exact HM.out) (set_fits hyv hX1) (fun h => by cases h) (row_none2 hstX).2 (by omega)).mono ?_
            rintro e w12 ⟨hb12, ⟨c3, hc3, rfl⟩ | ⟨hgg, _⟩⟩
            rotate_left
            · exact absurd hgg hnot
            have hc30 : (c3 == 0) = false := by simpa using bad_not0 hc3
            have hb12' := hbr.trans ((hbXX.trans (hb12.mono hbXX.size)).mono hbr.size)
            unfold zeroFrame
            clear hst hbX hstX hbXX hnot hc3
            go_wp2
            go_roundw
            case rel => exact ⟨k + 1, by omega, by omega, by go_num, hb12'.alloc hb12'.size _⟩
            case measure => simp [intOf]; omega
        · go_wp2
          go_ret
          exact ⟨rfl, hbw8.trans (hbr.mono hbw8.size)⟩
      · go_wp2
        go_ret
        exact ⟨rfl, hbw8.trans (hbr.mono hbw8.size)⟩
end Go.Proofs.YthgggmkljnghmaaDoor
