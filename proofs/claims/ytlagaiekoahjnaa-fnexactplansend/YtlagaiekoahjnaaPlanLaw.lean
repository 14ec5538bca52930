import Derived.Test.YtlagaiekoahjnaaPlanBoth
import Derived.Test.YtlagaiekoahjnaaPlanRows3
import Derived.Test.YtlagaiekoahjnaaMapLawAck
namespace Go.Proofs.Ytlagaiekoahjnaa
open Go.ChangeShapes Go.WideShapes Go.ChangeAt Go.RowKit
set_option linter.unusedVariables false

theorem at12 {w : World} {b : Nat} {e : TypeId} {v0 v1 v2 v3 v4 v5 v6 v7 v8 v9 v10 v11 : Value} (h : w.heap[b]? = some (.cells #[v0, v1, v2, v3, v4, v5, v6, v7, v8, v9, v10, v11] e)) : w.cell? ⟨b, 0, none⟩ = some v0 ∧ w.cell? ⟨b, 1, none⟩ = some v1 ∧ w.cell? ⟨b, 2, none⟩ = some v2 ∧ w.cell? ⟨b, 3, none⟩ = some v3 ∧ w.cell? ⟨b, 4, none⟩ = some v4 ∧ w.cell? ⟨b, 5, none⟩ = some v5 ∧ w.cell? ⟨b, 6, none⟩ = some v6 ∧ w.cell? ⟨b, 7, none⟩ = some v7 ∧ w.cell? ⟨b, 8, none⟩ = some v8 ∧ w.cell? ⟨b, 9, none⟩ = some v9 ∧ w.cell? ⟨b, 10, none⟩ = some v10 ∧ w.cell? ⟨b, 11, none⟩ = some v11 := by simp [World.cell?, h]
theorem at7 {w : World} {b : Nat} {e : TypeId} {v0 v1 v2 v3 v4 v5 v6 : Value} (h : w.heap[b]? = some (.cells #[v0, v1, v2, v3, v4, v5, v6] e)) : w.cell? ⟨b, 0, none⟩ = some v0 ∧ w.cell? ⟨b, 1, none⟩ = some v1 ∧ w.cell? ⟨b, 2, none⟩ = some v2 ∧ w.cell? ⟨b, 3, none⟩ = some v3 ∧ w.cell? ⟨b, 4, none⟩ = some v4 ∧ w.cell? ⟨b, 5, none⟩ = some v5 ∧ w.cell? ⟨b, 6, none⟩ = some v6 := by simp [World.cell?, h]
theorem alloc_block (w : World) (o : Obj) (b : Nat) (h : b = w.heap.size) : (w.alloc o).heap[b]? = some o := by subst h; show (w.heap.push o)[w.heap.size]? = _; simp
theorem size_alloc (w : World) (o : Obj) : w.heap.size < (w.alloc o).heap.size := by simp
theorem blk_grown {w w' : World} {row : Option Nat} {b : Nat} {o : Obj} (h : w.heap[b]? = some o) (hl : b < w.heap.size) (hg : w.grownBy w' row) (hr : ∀ k, row = some k → k ≠ b) : w'.heap[b]? = some o :=
  (hg.block b hl (fun e => hr b e.symm rfl)).trans h
theorem row_grown {w w' : World} {row : Option Nat} {base : Nat} {e : TypeId} {size : Nat} {v : Value} {n : Nat} {xs : List Value} (h : w.ownsRow base e size v n xs) (hg : w.grownBy w' row) (hr : ∀ k j, row = some k → v.ownBlock = some j → k ≠ j) : w'.ownsRow base e size v n xs := by
  refine h.kept hg ?_
  cases hv : v.ownBlock with
  | none => exact .inl rfl
  | some j =>
    cases row with
    | none => exact .inr (by simp)
    | some k => exact .inr (by have := hr k j rfl hv; simp; omega)

set_option maxRecDepth 100000 in
set_option maxHeartbeats 2000000 in
theorem lawPlan (pol tur : Int) (pa : Option Addr) (pk : List Int) (pc : Nat) (va : Option Addr) (V : Vws) (vc : Nat) (ma : Option Addr) (S : Mps) (mc : Nat) (mx mp wt ed cl fm pl : Int) (w : World) (hP : Ints .i64 w pa pk) (hV : LieV w va V) (hS : LieM w ma S) (hfV : FitsV V) (hfS : FitsM S) (hpm : pk.length ≤ 9223372036854775807) (hvm : V.length ≤ 9223372036854775807) (hms : S.length ≤ 9223372036854775807) (m0 : 0 ≤ mp) (w0 : 0 ≤ wt) (e0 : 0 ≤ ed) :
    Calls Try.prog 7 #[.agg #[.int .i64 pol, .int .i64 tur, .slice pa pk.length pc, .slice va V.length vc, .slice ma S.length mc, .int .i64 mx, .int .u64 mp, .int .u64 wt, .int .u64 ed, .int .i64 cl, .int .i64 fm, .int .i64 pl]] w fun e w' => e = .returned (.bool true) ∧ Below w.heap.size w w' := by
  obtain ⟨kd, pcx, of, ln, T, tn, us, c, hT, hspec, himpl⟩ := bothPlan pol tur pk V S mx mp wt ed cl fm pl hfV hfS hvm hpm hms m0 w0 e0
  have HSP : Hid (GivesB 27 pol tur pk V S mx mp wt ed cl fm pl kd pcx of ln T tn us c) := hspec
  have HIM : Hid (GivesB 28 pol tur pk V S mx mp wt ed cl fm pl kd pcx of ln T tn us c) := himpl
  clear hspec himpl
  obtain ⟨W, hW⟩ : ∃ W, W = w.alloc (.cells #[.int .i64 pol, .int .i64 tur, .slice pa pk.length pc, .slice va V.length vc, .slice ma S.length mc, .int .i64 mx, .int .u64 mp, .int .u64 wt, .int .u64 ed, .int .i64 cl, .int .i64 fm, .int .i64 pl] 61) := ⟨_, rfl⟩
  have hbW : Below w.heap.size w W := by rw [hW]; exact (Below.refl _ _).alloc (Nat.le_refl _) _
  have bA : W.heap[w.heap.size]? = some (.cells #[.int .i64 pol, .int .i64 tur, .slice pa pk.length pc, .slice va V.length vc, .slice ma S.length mc, .int .i64 mx, .int .u64 mp, .int .u64 wt, .int .u64 ed, .int .i64 cl, .int .i64 fm, .int .i64 pl] 61) := by rw [hW]; exact alloc_block _ _ _ rfl
  have lA : w.heap.size < W.heap.size := by rw [hW]; exact size_alloc _ _
  have hPW := hP.moved hbW
  have hVW := hV.moved hbW
  have hSW := hS.moved hbW
  clear hP hV hS
  go_enter Try.func7, Try.ntmps7
  go_wp2_with fail
  rw [← hW]
  refine Calls.mono (szSched_any pol tur pa pk pc va V vc ma S mc mx mp wt ed cl fm pl W hpm hvm hms) ?_
  rintro e ws ⟨c9, rfl, himp, c90, c91, hB⟩
  clear hW
  obtain ⟨f0, f1, f2, f3, f4, f5, f6, f7, f8, f9, f10, f11⟩ := at12 ((hB.block _ lA).trans bA)
  by_cases hneg : c9 < 0
  · go_wp2
    go_ret
    exact ⟨rfl, hbW.trans (hB.mono hbW.size)⟩
  obtain ⟨lp, lv, ls⟩ := himp (by omega)
  have hneg' : ¬ c9 < 0 := hneg
  clear himp hneg
  go_wp2_with fail
  refine Calls.mono (toSched_any pol tur pa pk pc va V vc ma S mc mx mp wt ed cl fm pl _ (hPW.moved hB) (hVW.moved hB) (hSW.moved hB) hfV hfS lp lv ls) ?_
  rintro e w1 ⟨p0, p1, p2, rfl, C1⟩
  clear f0 f1 f2 f3 f4 f5 f6 f7 f8 f9 f10 f11
  have hB := hB.trans (C1.be.mono hB.size)
  go_wp2_with fail
  refine Calls.mono (HSP.out _ _ _ _ _ _ (Nat.le_refl _) (by omega) (by simp) w1 (Ints.ofRow C1.r0) (LieV.ofRow rfl C1.r1) (LieM.ofRow rfl C1.r2)) ?_
  rintro e w2 ⟨av0, cp0, rfl, hr0, hb2⟩
  have hr0 := owned_base hr0 hB.size
  have lt0 : ∀ k, (Value.slice av0 T.length cp0).ownBlock = some k → k < w2.heap.size := fun k hk => (hr0.lt k hk).2
  have hB := hB.trans (hb2.mono hB.size)
  clear C1 hb2 HSP
  have lA2 : w.heap.size < w2.heap.size := Nat.lt_of_lt_of_le lA hB.size
  have anA : ¬ w.heap.size = w2.heap.size := by omega
  have amA : ¬ w2.heap.size = w.heap.size := by omega
  obtain ⟨f0, f1, f2, f3, f4, f5, f6, f7, f8, f9, f10, f11⟩ := at12 ((hB.block _ lA).trans bA)
  obtain ⟨V2, hV2⟩ : ∃ x, x = w2.alloc (.cells #[.int .i64 kd, .int .i64 pcx, .int .u64 of, .int .i64 ln, .slice av0 T.length cp0, .int .i64 tn, .int .i64 us] 51) := ⟨_, rfl⟩
  have hb : Below w2.heap.size w2 V2 := by rw [hV2]; exact (Below.refl _ _).alloc (Nat.le_refl _) _
  have bw : V2.heap[w2.heap.size]? = some (.cells #[.int .i64 kd, .int .i64 pcx, .int .u64 of, .int .i64 ln, .slice av0 T.length cp0, .int .i64 tn, .int .i64 us] 51) := by rw [hV2]; exact alloc_block _ _ _ rfl
  have lw : w2.heap.size < V2.heap.size := by rw [hV2]; exact size_alloc _ _
  go_wp2_with fail
  rw [← hV2]
  clear hV2
  have hr0 := owned_kept hr0 hb
  have hB := hB.trans (hb.mono hB.size)
  clear hb
  have lV2 := lw
  have sV2 := hB.size
  have hD : Below V2.heap.size V2 V2 := Below.refl _ _
  clear f0 f1 f2 f3 f4 f5 f6 f7 f8 f9 f10 f11
  clear anA amA lA2
  refine Calls.mono (toSched_any pol tur pa pk pc va V vc ma S mc mx mp wt ed cl fm pl _ (hPW.moved hB) (hVW.moved hB) (hSW.moved hB) hfV hfS lp lv ls) ?_
  rintro e w3 ⟨g0, g1, g2, rfl, C3⟩
  have gg0 := C3.ge
  have gg1 := C3.l1
  have gg2 := C3.l2
  have gg3 := C3.lt
  have x0r := C3.r0
  have x1r := C3.r1
  have x2r := C3.r2
  have hr0 := owned_kept hr0 C3.be
  have bw := (C3.be.block _ lw).trans bw
  have lw := Nat.lt_of_lt_of_le lw C3.be.size
  have hB := hB.trans (C3.be.mono hB.size)
  have hD := hD.trans (C3.be.mono hD.size)
  clear C3
  have lA2 : w.heap.size < w3.heap.size := Nat.lt_of_lt_of_le lA hB.size
  obtain ⟨V3, hV3⟩ : ∃ x, x = w3.alloc (.cells #[.int .i64 pol, .int .i64 tur, .slice (some ⟨g0, 0, none⟩) pk.length pk.length, .slice (some ⟨g1, 0, none⟩) V.length V.length, .slice (some ⟨g2, 0, none⟩) S.length S.length, .int .i64 mx, .int .u64 mp, .int .u64 wt, .int .u64 ed, .int .i64 cl, .int .i64 fm, .int .i64 pl] 48) := ⟨_, rfl⟩
  have hb : Below w3.heap.size w3 V3 := by rw [hV3]; exact (Below.refl _ _).alloc (Nat.le_refl _) _
  have bx : V3.heap[w3.heap.size]? = some (.cells #[.int .i64 pol, .int .i64 tur, .slice (some ⟨g0, 0, none⟩) pk.length pk.length, .slice (some ⟨g1, 0, none⟩) V.length V.length, .slice (some ⟨g2, 0, none⟩) S.length S.length, .int .i64 mx, .int .u64 mp, .int .u64 wt, .int .u64 ed, .int .i64 cl, .int .i64 fm, .int .i64 pl] 48) := by rw [hV3]; exact alloc_block _ _ _ rfl
  have lx : w3.heap.size < V3.heap.size := by rw [hV3]; exact size_alloc _ _
  go_wp2_with fail
  rw [← hV3]
  clear hV3
  have hr0 := owned_kept hr0 hb
  have x0r := owned_kept x0r hb
  have x1r := owned_kept x1r hb
  have x2r := owned_kept x2r hb
  have bw := (hb.block _ lw).trans bw
  have lw := Nat.lt_of_lt_of_le lw hb.size
  have hB := hB.trans (hb.mono hB.size)
  have hD := hD.trans (hb.mono hD.size)
  clear hb
  have lV3 := lx
  clear lA2
  refine Calls.mono (HIM.out _ _ _ _ _ _ (Nat.le_refl _) (by omega) (by simp) V3 (Ints.ofRow x0r) (LieV.ofRow rfl x1r) (LieM.ofRow rfl x2r)) ?_
  rintro e w4 ⟨av1, cp1, rfl, hr1, hb4⟩
  have ge1 : ∀ k, (Value.slice av1 T.length cp1).ownBlock = some k → V3.heap.size ≤ k := fun k hk => (hr1.lt k hk).1
  have lt1 : ∀ k, (Value.slice av1 T.length cp1).ownBlock = some k → k < w4.heap.size := fun k hk => (hr1.lt k hk).2
  have s4 := hb4.size
  have hr0 := owned_kept hr0 hb4
  have x0r := owned_kept x0r hb4
  have x1r := owned_kept x1r hb4
  have x2r := owned_kept x2r hb4
  have bw := (hb4.block _ lw).trans bw
  have lw := Nat.lt_of_lt_of_le lw hb4.size
  have bx := (hb4.block _ lx).trans bx
  have lx := Nat.lt_of_lt_of_le lx hb4.size
  have hB := hB.trans (hb4.mono hB.size)
  have hD := hD.trans (hb4.mono hD.size)
  clear hb4
  obtain ⟨p0, p1, p2, p3, p4, p5, p6⟩ := at7 bw
  have anW : ¬ w2.heap.size = w4.heap.size := by omega
  have amW : ¬ w4.heap.size = w2.heap.size := by omega
  obtain ⟨V4, hV4⟩ : ∃ x, x = w4.alloc (.cells #[.int .i64 kd, .int .i64 pcx, .int .u64 of, .int .i64 ln, .slice av1 T.length cp1, .int .i64 tn, .int .i64 us] 51) := ⟨_, rfl⟩
  have hb : Below w4.heap.size w4 V4 := by rw [hV4]; exact (Below.refl _ _).alloc (Nat.le_refl _) _
  have bg : V4.heap[w4.heap.size]? = some (.cells #[.int .i64 kd, .int .i64 pcx, .int .u64 of, .int .i64 ln, .slice av1 T.length cp1, .int .i64 tn, .int .i64 us] 51) := by rw [hV4]; exact alloc_block _ _ _ rfl
  have lg : w4.heap.size < V4.heap.size := by rw [hV4]; exact size_alloc _ _
  go_wp2_with fail
  rw [← hV4]
  clear hV4
  have hr0 := owned_kept hr0 hb
  have x0r := owned_kept x0r hb
  have x1r := owned_kept x1r hb
  have x2r := owned_kept x2r hb
  have hr1 := owned_kept hr1 hb
  have bw := (hb.block _ lw).trans bw
  have lw := Nat.lt_of_lt_of_le lw hb.size
  have bx := (hb.block _ lx).trans bx
  have lx := Nat.lt_of_lt_of_le lx hb.size
  have hB := hB.trans (hb.mono hB.size)
  have hD := hD.trans (hb.mono hD.size)
  clear hb
  clear p0 p1 p2 p3 p4 p5 p6
  clear anW amW
  refine Calls.mono (eqPlan_same kd pcx of ln T tn us av1 av0 cp1 cp0 _ (Ints.ofRow hr1) (Ints.ofRow hr0) (by omega)) ?_
  rintro e w5 ⟨rfl, hb5⟩
  have hr0 := owned_kept hr0 hb5
  have x0r := owned_kept x0r hb5
  have x1r := owned_kept x1r hb5
  have x2r := owned_kept x2r hb5
  have hr1 := owned_kept hr1 hb5
  have bw := (hb5.block _ lw).trans bw
  have lw := Nat.lt_of_lt_of_le lw hb5.size
  have bx := (hb5.block _ lx).trans bx
  have lx := Nat.lt_of_lt_of_le lx hb5.size
  have bg := (hb5.block _ lg).trans bg
  have lg := Nat.lt_of_lt_of_le lg hb5.size
  have hB := hB.trans (hb5.mono hB.size)
  have hD := hD.trans (hb5.mono hD.size)
  clear hb5
  obtain ⟨f0, f1, f2, f3, f4, f5, f6, f7, f8, f9, f10, f11⟩ := at12 ((hB.block _ lA).trans bA)
  obtain ⟨x0, x1, x2, x3, x4, x5, x6, x7, x8, x9, x10, x11⟩ := at12 bx
  go_wp2_with fail
  go_region_held3 (fun w' => w'.cell? ⟨w.heap.size, 0, none⟩ = some (.int .i64 pol) ∧ w'.cell? ⟨w.heap.size, 1, none⟩ = some (.int .i64 tur) ∧ w'.cell? ⟨w.heap.size, 2, none⟩ = some (.slice pa pk.length pc) ∧ w'.cell? ⟨w.heap.size, 3, none⟩ = some (.slice va V.length vc) ∧ w'.cell? ⟨w.heap.size, 4, none⟩ = some (.slice ma S.length mc) ∧ w'.cell? ⟨w.heap.size, 5, none⟩ = some (.int .i64 mx) ∧ w'.cell? ⟨w.heap.size, 6, none⟩ = some (.int .u64 mp) ∧ w'.cell? ⟨w.heap.size, 7, none⟩ = some (.int .u64 wt) ∧ w'.cell? ⟨w.heap.size, 8, none⟩ = some (.int .u64 ed) ∧ w'.cell? ⟨w.heap.size, 9, none⟩ = some (.int .i64 cl) ∧ w'.cell? ⟨w.heap.size, 10, none⟩ = some (.int .i64 fm) ∧ w'.cell? ⟨w.heap.size, 11, none⟩ = some (.int .i64 pl) ∧ w'.cell? ⟨w3.heap.size, 0, none⟩ = some (.int .i64 pol) ∧ w'.cell? ⟨w3.heap.size, 1, none⟩ = some (.int .i64 tur) ∧ w'.cell? ⟨w3.heap.size, 2, none⟩ = some (.slice (some ⟨g0, 0, none⟩) pk.length pk.length) ∧ w'.cell? ⟨w3.heap.size, 3, none⟩ = some (.slice (some ⟨g1, 0, none⟩) V.length V.length) ∧ w'.cell? ⟨w3.heap.size, 4, none⟩ = some (.slice (some ⟨g2, 0, none⟩) S.length S.length) ∧ w'.cell? ⟨w3.heap.size, 5, none⟩ = some (.int .i64 mx) ∧ w'.cell? ⟨w3.heap.size, 6, none⟩ = some (.int .u64 mp) ∧ w'.cell? ⟨w3.heap.size, 7, none⟩ = some (.int .u64 wt) ∧ w'.cell? ⟨w3.heap.size, 8, none⟩ = some (.int .u64 ed) ∧ w'.cell? ⟨w3.heap.size, 9, none⟩ = some (.int .i64 cl) ∧ w'.cell? ⟨w3.heap.size, 10, none⟩ = some (.int .i64 fm) ∧ w'.cell? ⟨w3.heap.size, 11, none⟩ = some (.int .i64 pl))
    (first | go_keep | exact ⟨by assumption, by assumption, by assumption, by assumption, by assumption, by assumption, by assumption, by assumption, by assumption, by assumption, by assumption, by assumption, by assumption, by assumption, by assumption, by assumption, by assumption, by assumption, by assumption, by assumption, by assumption, by assumption, by assumption, by assumption⟩)
    (first
      | (go_at_call 31; refine Calls.mono (toSched_any pol tur pa pk pc va V vc ma S mc mx mp wt ed cl fm pl _ (hPW.moved hB.drew) (hVW.moved hB.drew) (hSW.moved hB.drew) hfV hfS lp lv ls) ?_; rintro e w6 ⟨q0, q1, q2, rfl, C6⟩; have hr0 := owned_kept (w := World.drew _) hr0 C6.be; have x0r := owned_kept (w := World.drew _) x0r C6.be; have x1r := owned_kept (w := World.drew _) x1r C6.be; have x2r := owned_kept (w := World.drew _) x2r C6.be; have hr1 := owned_kept (w := World.drew _) hr1 C6.be; have bw := (C6.be.block _ lw).trans bw; have lw := Nat.lt_of_lt_of_le lw (show (World.heap _).size ≤ _ from C6.be.size); have bx := (C6.be.block _ lx).trans bx; have lx := Nat.lt_of_lt_of_le lx (show (World.heap _).size ≤ _ from C6.be.size); have bg := (C6.be.block _ lg).trans bg; have lg := Nat.lt_of_lt_of_le lg (show (World.heap _).size ≤ _ from C6.be.size); have hB := hB.drew.trans (C6.be.mono hB.size); have hD := hD.drew.trans (C6.be.mono hD.size); obtain ⟨c0, c1, c2, c3, c4, c5, c6, c7, c8, c9, c10, c11⟩ := at12 ((hB.block _ lA).trans bA); obtain ⟨d0, d1, d2, d3, d4, d5, d6, d7, d8, d9, d10, d11⟩ := at12 bx)
      | (go_at_call 33; refine Calls.mono (eqSched_same pol tur _ pk _ _ V _ _ S _ mx mp wt ed cl fm pl _ _ _ _ _ _ _ (Ints.ofRow x0r) (Ints.ofRow C6.r0) (LieV.ofRow rfl x1r) (LieV.ofRow rfl C6.r1) (LieM.ofRow rfl x2r) (LieM.ofRow rfl C6.r2) hfV hfS lp lv ls) ?_; rintro e w7 ⟨rfl, hb7⟩; have hr0 := owned_kept hr0 hb7; have x0r := owned_kept x0r hb7; have x1r := owned_kept x1r hb7; have x2r := owned_kept x2r hb7; have hr1 := owned_kept hr1 hb7; have bw := (hb7.block _ lw).trans bw; have lw := Nat.lt_of_lt_of_le lw hb7.size; have bx := (hb7.block _ lx).trans bx; have lx := Nat.lt_of_lt_of_le lx hb7.size; have bg := (hb7.block _ lg).trans bg; have lg := Nat.lt_of_lt_of_le lg hb7.size; have hB := hB.trans (hb7.mono hB.size); have hD := hD.trans (hb7.mono hD.size); obtain ⟨e0, e1, e2, e3, e4, e5, e6, e7, e8, e9, e10, e11⟩ := at12 ((hB.block _ lA).trans bA); obtain ⟨h0, h1, h2, h3, h4, h5, h6, h7, h8, h9, h10, h11⟩ := at12 bx))
  clear f0 f1 f2 f3 f4 f5 f6 f7 f8 f9 f10 f11 x0 x1 x2 x3 x4 x5 x6 x7 x8 x9 x10 x11 c0 c1 c2 c3 c4 c5 c6 c7 c8 c9 c10 c11 d0 d1 d2 d3 d4 d5 d6 d7 d8 d9 d10 d11 e0 e1 e2 e3 e4 e5 e6 e7 e8 e9 e10 e11 h0 h1 h2 h3 h4 h5 h6 h7 h8 h9 h10 h11 C6
  obtain ⟨x0, x1, x2, x3, x4, x5, x6, x7, x8, x9, x10, x11⟩ := at12 bx
  go_wp2_with fail
  have gl : g2 < w7.heap.size := by omega
  refine Calls.mono (markSched_any pol tur pk V S mx mp wt ed cl fm pl V2 _ g0 g1 g2 ⟨gg0, gg1, gg2, gl, x0r, x1r, x2r, hD⟩ lp lv ls) ?_
  rintro e w8 ⟨k8, v8, y1, y2, rfl, hk8, G1, G2, G3⟩
  clear x0 x1 x2 x3 x4 x5 x6 x7 x8 x9 x10 x11
  have z1 := G1.size
  have z2 := G2.size
  have z3 := G3.size
  have z0 : w7.heap.size < (w7.alloc v8).heap.size := size_alloc _ _
  have hr0 := row_grown (row_grown (row_grown (hr0.alloc v8) G1 (fun k j hk hj => by have := lt0 j hj; simp at hk; omega)) G2 (fun k j hk hj => by have := lt0 j hj; simp at hk; omega)) G3 (fun k j hk hj => by have := lt0 j hj; simp at hk; omega)
  have hr1 := row_grown (row_grown (row_grown (hr1.alloc v8) G1 (fun k j hk hj => by have := ge1 j hj; simp at hk; omega)) G2 (fun k j hk hj => by have := ge1 j hj; simp at hk; omega)) G3 (fun k j hk hj => by have := ge1 j hj; simp at hk; omega)
  have bw := blk_grown (blk_grown (blk_grown (((Below.refl _ _).alloc (Nat.le_refl _) v8 : Below w7.heap.size w7 (w7.alloc v8)).block _ lw |>.trans bw) (by omega) G1 (fun k hk => by simp at hk; omega)) (by omega) G2 (fun k hk => by simp at hk; omega)) (by omega) G3 (fun k hk => by simp at hk; omega)
  have lw : w2.heap.size < w8.heap.size := by omega
  have bg := blk_grown (blk_grown (blk_grown (((Below.refl _ _).alloc (Nat.le_refl _) v8 : Below w7.heap.size w7 (w7.alloc v8)).block _ lg |>.trans bg) (by omega) G1 (fun k hk => by simp at hk; omega)) (by omega) G2 (fun k hk => by simp at hk; omega)) (by omega) G3 (fun k hk => by simp at hk; omega)
  have lg : w4.heap.size < w8.heap.size := by omega
  have hs := hB.size
  have hB := (((hB.alloc hs v8).grown G1 (by omega) (fun k hk => by simp at hk; omega)).grown G2 (by omega) (fun k hk => by simp at hk; omega)).grown G3 (by omega) (fun k hk => by simp at hk; omega)
  clear hs G1 G2 G3 hD x0r x1r x2r bx lx gl
  have z8 : w7.heap.size < w8.heap.size := by omega
  clear z0 z1 z2 z3
  have hk8a : ¬ k8 < 0 := by omega
  obtain ⟨p0, p1, p2, p3, p4, p5, p6⟩ := at7 bw
  obtain ⟨q0, q1, q2, q3, q4, q5, q6⟩ := at7 bg
  go_wp2_with fail
  refine Calls.mono (eqPlan_same kd pcx of ln T tn us av1 av0 cp1 cp0 _ (Ints.ofRow hr1) (Ints.ofRow hr0) (by omega)) ?_
  rintro e w9 ⟨rfl, hb9⟩
  have hr0 := owned_kept hr0 hb9
  have hr1 := owned_kept hr1 hb9
  have bw := (hb9.block _ lw).trans bw
  have lw := Nat.lt_of_lt_of_le lw hb9.size
  have bg := (hb9.block _ lg).trans bg
  have lg := Nat.lt_of_lt_of_le lg hb9.size
  have hB := hB.trans (hb9.mono hB.size)
  clear hb9
  clear p0 p1 p2 p3 p4 p5 p6
  clear q0 q1 q2 q3 q4 q5 q6
  obtain ⟨q0, q1, q2, q3, q4, q5, q6⟩ := at7 bg
  go_wp2_with fail
  refine Calls.mono (markPlan_any kd pcx of ln T tn us av1 cp1 _ _ hr1 (by omega)) ?_
  rintro e w10 ⟨rfl, hr1m, v10, G⟩
  clear q0 q1 q2 q3 q4 q5 q6
  have z0 : w9.heap.size < (w9.alloc v10).heap.size := size_alloc _ _
  have z1 := G.size
  have hr0 := row_grown (hr0.alloc v10) G (fun k j hk hj => by have := lt0 j hj; have := ge1 k hk; omega)
  have bw := blk_grown (((Below.refl _ _).alloc (Nat.le_refl _) v10 : Below w9.heap.size w9 (w9.alloc v10)).block _ lw |>.trans bw) (by omega) G (fun k hk => by have := ge1 k hk; omega)
  have bg := blk_grown (((Below.refl _ _).alloc (Nat.le_refl _) v10 : Below w9.heap.size w9 (w9.alloc v10)).block _ lg |>.trans bg) (by omega) G (fun k hk => by have := lt1 k hk; omega)
  have lw : w2.heap.size < w10.heap.size := by omega
  have lg : w4.heap.size < w10.heap.size := by omega
  have hs := hB.size
  have hB := (hB.alloc hs v10).grown G (by omega) (fun k hk => by have := ge1 k hk; omega)
  clear hs G z0 z1 hr1
  obtain ⟨q0, q1, q2, q3, q4, q5, q6⟩ := at7 bg
  go_wp2_with fail
  refine Calls.mono (heldPlan_any kd pcx of ln T.length tn us av1 cp1 _ (Ints.ofRow hr1m) (by omega)) ?_
  rintro e w11 ⟨rfl, hb11⟩
  clear q0 q1 q2 q3 q4 q5 q6
  clear hr1m bg
  have hr0 := owned_kept hr0 hb11
  have bw := (hb11.block _ lw).trans bw
  have lw := Nat.lt_of_lt_of_le lw hb11.size
  have hB := hB.trans (hb11.mono hB.size)
  clear hb11
  have hq : ¬ (1 : Int) + (T.length : Int) < 0 := by omega
  obtain ⟨f0, f1, f2, f3, f4, f5, f6, f7, f8, f9, f10, f11⟩ := at12 ((hB.block _ lA).trans bA)
  go_wp2_with fail
  refine Calls.mono (toSched_any pol tur pa pk pc va V vc ma S mc mx mp wt ed cl fm pl _ (hPW.moved hB) (hVW.moved hB) (hSW.moved hB) hfV hfS lp lv ls) ?_
  rintro e w12 ⟨g0, g1, g2, rfl, C12⟩
  clear f0 f1 f2 f3 f4 f5 f6 f7 f8 f9 f10 f11
  have hr0 := owned_kept hr0 C12.be
  have bw := (C12.be.block _ lw).trans bw
  have lw := Nat.lt_of_lt_of_le lw C12.be.size
  have hB := hB.trans (C12.be.mono hB.size)
  go_wp2_with fail
  refine Calls.mono (HIM.out _ _ _ _ _ _ (Nat.le_refl _) (by omega) (by simp) w12 (Ints.ofRow C12.r0) (LieV.ofRow rfl C12.r1) (LieM.ofRow rfl C12.r2)) ?_
  rintro e w13 ⟨av2, cp2, rfl, hr2, hb13⟩
  have hr0 := owned_kept hr0 hb13
  have bw := (hb13.block _ lw).trans bw
  have lw := Nat.lt_of_lt_of_le lw hb13.size
  have hB := hB.trans (hb13.mono hB.size)
  clear hb13 C12
  obtain ⟨p0, p1, p2, p3, p4, p5, p6⟩ := at7 bw
  have anW : ¬ w2.heap.size = w13.heap.size := by omega
  have amW : ¬ w13.heap.size = w2.heap.size := by omega
  obtain ⟨V13, hV13⟩ : ∃ x, x = w13.alloc (.cells #[.int .i64 kd, .int .i64 pcx, .int .u64 of, .int .i64 ln, .slice av2 T.length cp2, .int .i64 tn, .int .i64 us] 51) := ⟨_, rfl⟩
  have hb : Below w13.heap.size w13 V13 := by rw [hV13]; exact (Below.refl _ _).alloc (Nat.le_refl _) _
  have bh : V13.heap[w13.heap.size]? = some (.cells #[.int .i64 kd, .int .i64 pcx, .int .u64 of, .int .i64 ln, .slice av2 T.length cp2, .int .i64 tn, .int .i64 us] 51) := by rw [hV13]; exact alloc_block _ _ _ rfl
  have lh : w13.heap.size < V13.heap.size := by rw [hV13]; exact size_alloc _ _
  go_wp2_with fail
  rw [← hV13]
  clear hV13
  have hr0 := owned_kept hr0 hb
  have hr2 := owned_kept hr2 hb
  have bw := (hb.block _ lw).trans bw
  have lw := Nat.lt_of_lt_of_le lw hb.size
  have hB := hB.trans (hb.mono hB.size)
  clear hb
  clear p0 p1 p2 p3 p4 p5 p6
  refine Calls.mono (eqPlan_same kd pcx of ln T tn us av2 av0 cp2 cp0 _ (Ints.ofRow hr2) (Ints.ofRow hr0) (by omega)) ?_
  rintro e w14 ⟨rfl, hb14⟩
  have hr0 := owned_kept hr0 hb14
  have hr2 := owned_kept hr2 hb14
  have bw := (hb14.block _ lw).trans bw
  have lw := Nat.lt_of_lt_of_le lw hb14.size
  have bh := (hb14.block _ lh).trans bh
  have lh := Nat.lt_of_lt_of_le lh hb14.size
  have hB := hB.trans (hb14.mono hB.size)
  clear hb14
  go_wp2
  go_ret
  exact ⟨rfl, hbW.trans (hB.mono hbW.size)⟩
end Go.Proofs.Ytlagaiekoahjnaa
