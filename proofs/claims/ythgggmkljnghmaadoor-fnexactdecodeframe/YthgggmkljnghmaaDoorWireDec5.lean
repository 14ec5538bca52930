import Derived.Test.YthgggmkljnghmaaDoorWireDec4
import Derived.Test.YthgggmkljnghmaaDoorEncLaw
namespace Go.Proofs.YthgggmkljnghmaaDoor
open Go.ChangeShapes Go.WideShapes Go.ChangeAt Go.RowKit
set_option linter.unusedVariables false

theorem l1Get_at (x : Int) (a : Option Addr) (zs : List Int) (L cap p m : Nat) (w : World) (hx : x = (p : Int)) (hz : Ints .u8 w a zs) (hL : zs.length = L) (hzv : ∀ x ∈ zs, 0 ≤ x ∧ x ≤ 255) (hp : p + m ≤ L) (hm : m ≤ 8) (hl : L ≤ 1048576) (y : Int) (hy : fld zs p m = y) :
    Calls Tryd.prog 32 #[.slice a L cap, .int .i64 x, .int .i64 m] w fun e w' => e = .returned (.int .u64 y) ∧ w' = w := by
  subst hx hy
  exact l1Get_any a zs L cap p m w hz hL hzv hp hm hl

theorem l1Get_int (x y : Int) (a : Option Addr) (zs : List Int) (L cap : Nat) (w : World) (hz : Ints .u8 w a zs) (hL : zs.length = L) (hzv : ∀ x ∈ zs, 0 ≤ x ∧ x ≤ 255) (hl : L ≤ 1048576) (hx : 0 ≤ x) (hy : 0 ≤ y) (hp : x + y ≤ L) (hm : y ≤ 8) :
    Calls Tryd.prog 32 #[.slice a L cap, .int .i64 x, .int .i64 y] w fun e w' => e = .returned (.int .u64 (fld zs x.toNat y.toNat)) ∧ w' = w := by
  have := l1Get_any a zs L cap x.toNat y.toNat w hz hL hzv (by omega) (by omega) hl
  rw [Int.toNat_of_nonneg hx, Int.toNat_of_nonneg hy] at this
  exact this

set_option maxHeartbeats 2000000 in
set_option maxRecDepth 100000 in
theorem specDecode_size (a : Option Addr) (zs : List Int) (L cap : Nat) (w : World) (hz : Ints .u8 w a zs) (hL : zs.length = L) (hzv : ∀ x ∈ zs, 0 ≤ x ∧ x ≤ 255) (hl : L ≤ 1048576) (hne : zs.length ≠ 22 + szOf zs) :
    Calls Tryd.prog 16 #[.slice a L cap] w (Decodes zs w) := by
  have hfin : ∀ w', Below w.heap.size w w' → Decodes zs w (.returned (.tuple #[.agg #[.int .i64 0, .int .i64 0, .int .u32 0, .int .u64 0, .int .i64 0, .slice none 0 0], .int .i64 2])) w' := fun w' h => ⟨h, .inl ⟨2, .inl ⟨hne, rfl⟩, rfl⟩⟩
  have hb0 := (Below.refl w.heap.size w).alloc (Nat.le_refl _) (.cells #[.int .i64 0, .int .i64 0, .int .u32 0, .int .u64 0, .int .i64 0, .slice none 0 0] 30)
  by_cases h22 : L < 22
  · have hd1 : decide ((L : Int) < 22) = true := by simp; omega
    go_enter Tryd.func16, Tryd.ntmps16
    go_wp2
    exact bodyPost_ret (v := .tuple #[.agg #[.int .i64 0, .int .i64 0, .int .u32 0, .int .u64 0, .int .i64 0, .slice none 0 0], .int .i64 2]) (by simp [results, Tryd.results16, go_sem]) rfl (hfin _ hb0)
  · rcases hz with h | ⟨b, off, rfl, hcz⟩
    · simp [h] at hL; omega
    obtain ⟨c, hnc, c0, c1, hcell⟩ := byteAt hzv hcz (show 3 < zs.length by omega)
    have hc3 : szOf zs = c.toNat := by unfold szOf; rw [fld_one 3 (by omega), hnc.out]
    have hcA := (World.cell?_alloc_past (w := w) (.cells #[.int .i64 0, .int .i64 0, .int .u32 0, .int .u64 0, .int .i64 0, .slice none 0 0] 30) b (off + 3) (World.block_lt_of_cell? w ⟨b, off + 3, none⟩ hcell)).trans hcell
    have hd1 : decide ((L : Int) < 22) = false := by simp; omega
    have hd2 : ((L : Int) != 22 + c) = true := by simp; omega
    clear hcz hcell
    go_enter Tryd.func16, Tryd.ntmps16
    go_wp2
    exact bodyPost_ret (v := .tuple #[.agg #[.int .i64 0, .int .i64 0, .int .u32 0, .int .u64 0, .int .i64 0, .slice none 0 0], .int .i64 2]) (by simp [results, Tryd.results16, go_sem]) rfl (hfin _ hb0)

set_option maxHeartbeats 40000000 in
set_option maxRecDepth 100000 in
theorem specDecode_sized (a : Option Addr) (zs : List Int) (L cap : Nat) (w : World) (hz : Ints .u8 w a zs) (hL : zs.length = L) (hzv : ∀ x ∈ zs, 0 ≤ x ∧ x ≤ 255) (hcap : L ≤ cap) (hl : L ≤ 1048576) (heq : zs.length = 22 + szOf zs) :
    Calls Tryd.prog 16 #[.slice a L cap] w (Decodes zs w) := by
  have hzM : ∀ o, Ints .u8 (w.alloc o) a zs := fun o => hz.moved ((Below.refl _ _).alloc (Nat.le_refl _) _)
  have hb0 := (Below.refl w.heap.size w).alloc (Nat.le_refl _) (.cells #[.int .i64 0, .int .i64 0, .int .u32 0, .int .u64 0, .int .i64 0, .slice none 0 0] 30)
  obtain ⟨sz, hsz⟩ : ∃ sz, szOf zs = sz := ⟨_, rfl⟩
  have hsz2 : sz ≤ 255 := by have := fld_lt hzv 3 1 256 rfl; unfold szOf at hsz; omega
  rcases hz with h | ⟨b, off, rfl, hcz⟩
  · simp [h] at heq; omega
  obtain ⟨c, hnc, c0, c1, hcell⟩ := byteAt hzv hcz (show 3 < zs.length by omega)
  obtain ⟨kd, hnk, kd0, kd1, hcell1⟩ := byteAt hzv hcz (show 1 < zs.length by omega)
  obtain ⟨pt, hnp, pt0, pt1, hcell2⟩ := byteAt hzv hcz (show 2 < zs.length by omega)
  have hc3 : szOf zs = c.toNat := by unfold szOf; rw [fld_one 3 (by omega), hnc.out]
  have hkd : Hid (fld zs 1 1 = kd) := by unfold Hid; rw [fld_one 1 (by omega), hnk.out]
  have hpt : Hid (fld zs 2 1 = pt) := by unfold Hid; rw [fld_one 2 (by omega), hnp.out]
  have hbl : b < w.heap.size := World.block_lt_of_cell? w ⟨b, off + 3, none⟩ hcell
  have hcA := (World.cell?_alloc_past (w := w) (.cells #[.int .i64 0, .int .i64 0, .int .u32 0, .int .u64 0, .int .i64 0, .slice none 0 0] 30) b (off + 3) hbl).trans hcell
  have hcA1 := (World.cell?_alloc_past (w := w) (.cells #[.int .i64 0, .int .i64 0, .int .u32 0, .int .u64 0, .int .i64 0, .slice none 0 0] 30) b (off + 1) hbl).trans hcell1
  have hcA2 := (World.cell?_alloc_past (w := w) (.cells #[.int .i64 0, .int .i64 0, .int .u32 0, .int .u64 0, .int .i64 0, .slice none 0 0] 30) b (off + 2) hbl).trans hcell2
  have hd1 : decide ((L : Int) < 22) = false := by simp; omega
  have hd2 : ((L : Int) != 22 + c) = false := by simp; omega
  have hL2 : L - 4 = 18 + sz := by omega
  have hL3 : 4 ≤ L := by omega
  have hL4 : L = 22 + sz := by omega
  have HL4 : Hid _ := hL4
  have hLge : 22 ≤ L := by omega
  have hcap0 : ¬ cap = 0 := by omega
  have hwr : IntKind.i64.wrap ((L : Int) - 4) = (L : Int) - 4 := by rw [IntKind.wrap_i64]; omega
  have hi4 : (4 : Int) ≤ (L : Int) := by omega
  have hi5 : (L : Int) ≤ (cap : Int) + 4 := by omega
  have hi1 : (0 : Int) ≤ (L : Int) - 4 := by omega
  have hi2 : (L : Int) - 4 ≤ (cap : Int) := by omega
  have hi3 : ((L : Int) - 4).toNat = 18 + sz := by omega
  have hzA : Ints .u8 (w.alloc (.cells #[.int .i64 0, .int .i64 0, .int .u32 0, .int .u64 0, .int .i64 0, .slice none 0 0] 30)) (some ⟨b, off, none⟩) zs := hzM _
  have htl : (zs.take (18 + sz)).length = 18 + sz := by simp; omega
  have hcr := fun X h => specCrc (some ⟨b, off, none⟩) (zs.take (18 + sz)) cap X h (fun x hx => hzv x (List.mem_of_mem_take hx)) (by omega)
  rw [htl] at hcr
  obtain ⟨cr, hcrE⟩ : ∃ x, Hid (crcOf (zs.take (18 + sz)) = x) := ⟨_, rfl⟩
  rw [hcrE.out] at hcr
  obtain ⟨sm, hsm⟩ : ∃ x, Hid (fld zs (18 + sz) 4 = x) := ⟨_, rfl⟩
  have bsm := fld_lt hzv (18 + sz) 4 4294967296 rfl
  rw [hsm.out] at bsm
  have HEQ : Hid _ := heq
  have HL : Hid _ := hL
  have HSZ : Hid _ := hsz
  clear hcz hcell hcell1 hcell2 hL4 heq hsz hc3 hnc hnk hnp hzM hL htl
  have hwsm : IntKind.u32.wrap sm = sm := by rw [IntKind.wrap_u32]; omega
  have hRb : (w.alloc (.cells #[.int .i64 0, .int .i64 0, .int .u32 0, .int .u64 0, .int .i64 0, .slice none 0 0] 30)).drew.heap[w.heap.size]? = some (.cells #[.int .i64 0, .int .i64 0, .int .u32 0, .int .u64 0, .int .i64 0, .slice none 0 0] 30) := alloc_block w _ _ rfl
  by_cases hsc : sm = cr
  · subst hsc
    have hsumOk : Hid (SumOk zs) := by unfold Hid SumOk; rw [HSZ.out, hsm.out, hcrE.out]
    go_enter Tryd.func16, Tryd.ntmps16
    go_wp2
    go_region_held3 (fun w' => w'.cell? ⟨b, off + 1, none⟩ = some (.int .u8 kd) ∧ w'.cell? ⟨b, off + 2, none⟩ = some (.int .u8 pt))
      (first | go_keep | exact ⟨by assumption, by assumption⟩)
      (first
        | (go_at_call 32; refine (l1Get_at ((L : Int) - 4) _ zs L cap (18 + sz) 4 _ (by have := HL4.out; omega) (hzA.moved ((Below.refl _ _).drew)) HL.out hzv (by have := HL4.out; omega) (by omega) hl sm hsm.out).mono ?_; rintro e w2 ⟨rfl, rfl⟩)
        | (go_at_call 33; refine (hcr _ ((hzA.moved ((Below.refl _ _).drew)).take _)).mono ?_; rintro e w3 ⟨rfl, rfl⟩))
    obtain ⟨V, hV⟩ : ∃ V, V = (w.alloc (.cells #[.int .i64 0, .int .i64 0, .int .u32 0, .int .u64 0, .int .i64 0, .slice none 0 0] 30)).drew := ⟨_, rfl⟩
    have hzV : Ints .u8 V (some ⟨b, off, none⟩) zs := by rw [hV]; exact hzA.moved ((Below.refl _ _).drew)
    have hBV : Below w.heap.size w V := by rw [hV]; exact hb0.drew
    have hsV : V.heap.size = w.heap.size + 1 := by rw [hV]; show (w.alloc (.cells #[.int .i64 0, .int .i64 0, .int .u32 0, .int .u64 0, .int .i64 0, .slice none 0 0] 30)).heap.size = _; simp
    have v1 : V.cell? ⟨b, off + 1, none⟩ = some (.int .u8 kd) := by rw [hV]; exact hcA1
    have v2 : V.cell? ⟨b, off + 2, none⟩ = some (.int .u8 pt) := by rw [hV]; exact hcA2
    rw [← hV] at hRb
    rw [← hV]
    clear hV hzA hcA hcA1 hcA2 hb0 hcr
    have bsq := fld_lt hzv 4 4 4294967296 rfl
    have bof := fld_lt hzv 8 8 18446744073709551616 rfl
    have bwi := fld_lt hzv 16 2 65536 rfl
    have hwsq : IntKind.u32.wrap (fld zs 4 4) = fld zs 4 4 := by rw [IntKind.wrap_u32]; omega
    have hwwi : IntKind.i64.wrap (fld zs 16 2) = fld zs 16 2 := by rw [IntKind.wrap_i64]; omega
    have hn1 : 1 < L := by omega
    have hn2 : 2 < L := by omega
    have hI1 : (1 : Int) < (L : Int) := by omega
    have hI2 : (2 : Int) < (L : Int) := by omega
    have hzVd : Ints .u8 V.drew (some ⟨b, off, none⟩) zs := hzV.moved ((Below.refl _ _).drew)
    have hzVe : Ints .u8 (V.alloc (.cells #[.int .i64 0, .int .i64 0, .int .u32 0, .int .u64 0, .int .i64 0, .slice none 0 0] 30)).drew (some ⟨b, off, none⟩) zs := hzV.moved (((Below.refl _ _).alloc (Nat.le_refl _) _).drew)
    obtain ⟨V2, hV2⟩ : ∃ x, x = (V.alloc (.cells #[.int .i64 kd, .int .i64 pt, .int .u32 (fld zs 4 4), .int .u64 (fld zs 8 8), .int .i64 (fld zs 16 2), .slice none 0 0] 30)).drew := ⟨_, rfl⟩
    have hbVV : Below V.heap.size V V2 := by rw [hV2]; exact ((Below.refl _ _).alloc (Nat.le_refl _) _).drew
    have hBV2 : Below w.heap.size w V2 := hBV.trans (hbVV.mono hBV.size)
    have hR2 : V2.heap[w.heap.size]? = some (.cells #[.int .i64 0, .int .i64 0, .int .u32 0, .int .u64 0, .int .i64 0, .slice none 0 0] 30) := (hbVV.block _ (by omega)).trans hRb
    have hF2 : V2.heap[w.heap.size + 1]? = some (.cells #[.int .i64 kd, .int .i64 pt, .int .u32 (fld zs 4 4), .int .u64 (fld zs 8 8), .int .i64 (fld zs 16 2), .slice none 0 0] 30) := by rw [hV2]; exact alloc_block V _ _ (by omega)
    have hzV2 : Ints .u8 V2 (some ⟨b, off, none⟩) zs := hzV.moved hbVV
    have hcap18 : ¬ cap = 18 := by omega
    have hPl : ((zs.drop 18).take sz).length = sz := by have := HL.out; have := HL4.out; simp; omega
    have HPl : Hid _ := hPl
    clear hPl
    have hzP : Ints .u8 V2 (some ⟨b, off + 18, none⟩) ((zs.drop 18).take sz) := by
      have := (hzV2.drop 18 cap (by have := HL.out; omega)).take sz
      rw [if_neg hcap18] at this
      simpa [Addr.add] using this
    have hyv : ∀ x ∈ (zs.drop 18).take sz, 0 ≤ x ∧ x ≤ 255 := fun x hx => hzv x (List.mem_of_mem_drop (List.mem_of_mem_take hx))
    have hi18 : (18 : Int) ≤ (L : Int) - 4 := by omega
    have hi19 : 18 + sz - 18 = sz := by omega
    have hi20 : (22 : Int) ≤ (L : Int) := by omega
    have hwkd : IntKind.i64.wrap kd = kd := by rw [IntKind.wrap_i64]; omega
    have hwpt : IntKind.i64.wrap pt = pt := by rw [IntKind.wrap_i64]; omega
    have g4 : Calls Tryd.prog 32 #[.slice (some ⟨b, off, none⟩) L cap, .int .i64 4, .int .i64 4] V.drew fun e w' => e = .returned (.int .u64 (fld zs 4 4)) ∧ w' = V.drew := l1Get_any _ zs L cap 4 4 _ hzVd HL.out hzv (by omega) (by omega) hl
    have g8 : Calls Tryd.prog 32 #[.slice (some ⟨b, off, none⟩) L cap, .int .i64 8, .int .i64 8] V.drew fun e w' => e = .returned (.int .u64 (fld zs 8 8)) ∧ w' = V.drew := l1Get_any _ zs L cap 8 8 _ hzVd HL.out hzv (by omega) (by omega) hl
    have g16 : Calls Tryd.prog 32 #[.slice (some ⟨b, off, none⟩) L cap, .int .i64 16, .int .i64 2] V.drew fun e w' => e = .returned (.int .u64 (fld zs 16 2)) ∧ w' = V.drew := l1Get_any _ zs L cap 16 2 _ hzVd HL.out hzv (by omega) (by omega) hl
    have h4 : Calls Tryd.prog 32 #[.slice (some ⟨b, off, none⟩) L cap, .int .i64 4, .int .i64 4] (V.alloc (.cells #[.int .i64 0, .int .i64 0, .int .u32 0, .int .u64 0, .int .i64 0, .slice none 0 0] 30)).drew fun e w' => e = .returned (.int .u64 (fld zs 4 4)) ∧ w' = (V.alloc (.cells #[.int .i64 0, .int .i64 0, .int .u32 0, .int .u64 0, .int .i64 0, .slice none 0 0] 30)).drew := l1Get_any _ zs L cap 4 4 _ hzVe HL.out hzv (by omega) (by omega) hl
    have h8 : Calls Tryd.prog 32 #[.slice (some ⟨b, off, none⟩) L cap, .int .i64 8, .int .i64 8] (V.alloc (.cells #[.int .i64 0, .int .i64 0, .int .u32 0, .int .u64 0, .int .i64 0, .slice none 0 0] 30)).drew fun e w' => e = .returned (.int .u64 (fld zs 8 8)) ∧ w' = (V.alloc (.cells #[.int .i64 0, .int .i64 0, .int .u32 0, .int .u64 0, .int .i64 0, .slice none 0 0] 30)).drew := l1Get_any _ zs L cap 8 8 _ hzVe HL.out hzv (by omega) (by omega) hl
    have h16 : Calls Tryd.prog 32 #[.slice (some ⟨b, off, none⟩) L cap, .int .i64 16, .int .i64 2] (V.alloc (.cells #[.int .i64 0, .int .i64 0, .int .u32 0, .int .u64 0, .int .i64 0, .slice none 0 0] 30)).drew fun e w' => e = .returned (.int .u64 (fld zs 16 2)) ∧ w' = (V.alloc (.cells #[.int .i64 0, .int .i64 0, .int .u32 0, .int .u64 0, .int .i64 0, .slice none 0 0] 30)).drew := l1Get_any _ zs L cap 16 2 _ hzVe HL.out hzv (by omega) (by omega) hl
    go_wp2
    go_region_held3 (fun w' => w'.cell? ⟨b, off + 1, none⟩ = some (.int .u8 kd) ∧ w'.cell? ⟨b, off + 2, none⟩ = some (.int .u8 pt))
      (first | go_keep | exact ⟨by assumption, by assumption⟩)
      (first
        | (go_at_call 32; with_reducible refine Calls.mono g4 ?_; rintro e w2 ⟨rfl, rfl⟩)
        | (go_at_call 32; with_reducible refine Calls.mono g8 ?_; rintro e w2 ⟨rfl, rfl⟩)
        | (go_at_call 32; with_reducible refine Calls.mono g16 ?_; rintro e w2 ⟨rfl, rfl⟩)
        | (go_at_call 32; with_reducible refine Calls.mono h4 ?_; rintro e w2 ⟨rfl, rfl⟩)
        | (go_at_call 32; with_reducible refine Calls.mono h8 ?_; rintro e w2 ⟨rfl, rfl⟩)
        | (go_at_call 32; with_reducible refine Calls.mono h16 ?_; rintro e w2 ⟨rfl, rfl⟩))
    all_goals rw [← hV2]
    all_goals clear hV2 g4 g8 g16 h4 h8 h16 hzVd hzVe v1 v2 hbVV hRb hzV hwsq hwwi hwkd hwpt
    all_goals go_wp2_with fail
    all_goals refine (l1Copy_any (some ⟨b, off + 18, none⟩) ((zs.drop 18).take sz) sz (cap - 18) V2 hzP HPl.out (by omega)).mono ?_
    all_goals rintro e w7 ⟨av, cp, rfl, ho7, hb7⟩
    all_goals have hlR : w.heap.size < V2.heap.size := by have := hBV2.size; have := (Array.getElem?_eq_some_iff.1 hF2).1; omega
    all_goals have hlF : w.heap.size + 1 < V2.heap.size := (Array.getElem?_eq_some_iff.1 hF2).1
    all_goals have hR7 := (hb7.block _ hlR).trans hR2
    all_goals have hF7 := (hb7.block _ hlF).trans hF2
    all_goals obtain ⟨⟨f0, f1, f2, f3, f4, f5⟩, ff⟩ := six_at hF7
    all_goals have ff5 := ff 5
    all_goals clear ff hR2 hF2 hzP
    all_goals go_wp2_with fail
    all_goals
      obtain ⟨W8, hW8⟩ : ∃ x, x = w7.setCell ⟨w.heap.size + 1, 5, none⟩ (.slice av sz cp) := ⟨_, rfl⟩
      rw [← hW8]
      have hs7 := hb7.size
      have hR8 : W8.heap[w.heap.size]? = some (.cells #[.int .i64 0, .int .i64 0, .int .u32 0, .int .u64 0, .int .i64 0, .slice none 0 0] 30) := by rw [hW8, heap_setCell_other _ _ _ _ (by simp)]; exact hR7
      have hF8 : W8.heap[w.heap.size + 1]? = some (.cells #[.int .i64 kd, .int .i64 pt, .int .u32 (fld zs 4 4), .int .u64 (fld zs 8 8), .int .i64 (fld zs 16 2), .slice av sz cp] 30) := by rw [hW8, Go.Joins.block_setCell hF7]; rfl
      have hB8 : Below w.heap.size w W8 := by rw [hW8]; exact (hBV2.trans (hb7.mono hBV2.size)).setCell (show w.heap.size ≤ w.heap.size + 1 by omega) _
      have ho8 : W8.ownsRow V2.heap.size 5 1 (.slice av sz cp) sz (((zs.drop 18).take sz).map (.int .u8)) := by rw [hW8]; exact own_set ho7 hlF
      have hs8 : W8.heap.size = w7.heap.size := by rw [hW8]; simp
      have hz8 : Ints .u8 W8 (some ⟨b, off, none⟩) zs := by
        rcases hzV2 with h0 | ⟨b', off', h1, hc'⟩
        · exact .inl h0
        · simp at h1
          obtain ⟨rfl, rfl⟩ := h1
          refine .inr ⟨b, off, rfl, fun i hi => ?_⟩
          rw [hW8]
          have hx := (hb7.cell (World.block_lt_of_cell? V2 _ (hc' i hi))).trans (hc' i hi)
          exact (World.cell?_of_block (a := ⟨b, off + i, none⟩) (heap_setCell_other w7 ⟨w.heap.size + 1, 5, none⟩ b _ (by simp; omega))).trans hx
      clear hW8 hR7 hF7 f0 f1 f2 f3 f4 f5 ff5 ho7 hb7 hzV2
      have hlR8 : w.heap.size < W8.heap.size := (Array.getElem?_eq_some_iff.1 hR8).1
      have hlF8 : w.heap.size + 1 < W8.heap.size := (Array.getElem?_eq_some_iff.1 hF8).1
      by_cases hv : Valid kd pt (fld zs 4 4) (fld zs 8 8) (fld zs 16 2) sz
      · refine (specEncode_good kd pt (fld zs 4 4) (fld zs 8 8) (fld zs 16 2) av ((zs.drop 18).take sz) sz cp W8 (by omega) (by omega) (by omega) (by omega) (by omega) (by omega) (by omega) (by omega) (by omega) (by omega) (by omega) HPl.out (Ints.row ho8) hyv hv).mono ?_
        rintro e w9 ⟨av', cp', rfl, ho9, hb9⟩
        have hR9 := (hb9.block _ hlR8).trans hR8
        have hF9 := (hb9.block _ hlF8).trans hF8
        have hB9 : Below w.heap.size w w9 := hB8.trans (hb9.mono hB8.size)
        have hfl : (frameBytes kd pt (fld zs 4 4) (fld zs 8 8) (fld zs 16 2) ((zs.drop 18).take sz)).length = 22 + sz := by rw [frameBytes_length, HPl.out]
        have str1 := toString_bytes av' _ (22 + sz) cp' w9 (Ints.row ho9) hfl (by omega)
        have str2 := toString_bytes (some ⟨b, off, none⟩) zs L cap w9 (hz8.moved hb9) HL.out (by omega)
        have ho10 := owned_base (owned_kept ho8 hb9) (show w.heap.size + 1 ≤ V2.heap.size by omega)
        clear hR8 hF8 ho8 ho9 hb9 hz8
        by_cases hmg : fld zs 0 1 = 213
        · have hag := again hzv HEQ.out hsumOk.out hmg
          rw [HSZ.out, hkd.out, hpt.out] at hag
          rw [hag] at str1
          obtain ⟨S, hS⟩ : ∃ S, S = strOf zs := ⟨_, rfl⟩
          rw [← hS] at str1 str2
          clear hag hfl hS
          obtain ⟨⟨r0, r1, r2, r3, r4, r5⟩, rf⟩ := six_at hR9
          have rf0 := rf 0
          have rf1 := rf 1
          have rf2 := rf 2
          have rf3 := rf 3
          have rf4 := rf 4
          have rf5 := rf 5
          obtain ⟨⟨q0, q1, q2, q3, q4, q5⟩, _⟩ := six_at hF9
          clear rf
          go_wp2
          refine bodyPost_ret (v := .tuple #[.agg #[.int .i64 kd, .int .i64 pt, .int .u32 (fld zs 4 4), .int .u64 (fld zs 8 8), .int .i64 (fld zs 16 2), .slice av sz cp], .int .i64 0]) (by simp [results, Tryd.results16, go_sem, r0, r1, r2, r3, r4, r5]) rfl ⟨set6r hB9 (Nat.le_refl _), .inr ⟨⟨HEQ.out, hsumOk.out, hmg, by rw [hkd.out, hpt.out, HSZ.out]; exact hv⟩, av, cp, ?_, ?_⟩⟩
          · rw [HSZ.out]
            exact owned_base (own6r ho10 (by omega)) (by omega)
          · unfold frameAt
            rw [hkd.out, hpt.out, HSZ.out]
        · have hne := strOf_ne (zs := zs) hzv (by have := HL.out; omega) (by rw [hfl]; omega) (again_head kd pt (fld zs 4 4) (fld zs 8 8) (fld zs 16 2) ((zs.drop 18).take sz)) (by rw [← fld_one 0 (by have := HL.out; omega)]; exact hmg)
          obtain ⟨S1, hS1⟩ : ∃ S, S = strOf zs := ⟨_, rfl⟩
          obtain ⟨S2, hS2⟩ : ∃ S, S = strOf (frameBytes kd pt (fld zs 4 4) (fld zs 8 8) (fld zs 16 2) ((zs.drop 18).take sz)) := ⟨_, rfl⟩
          rw [← hS1] at str2 hne
          rw [← hS2] at str1 hne
          have hne3 : (S2.toList == S1.toList) = false := by rw [ByteArray.toList_eq, ByteArray.toList_eq]; exact beq_eq_false_iff_ne.2 (fun h => hne (bytes_inj h))
          clear hfl hS1 hS2 hne
          obtain ⟨⟨r0, r1, r2, r3, r4, r5⟩, rf⟩ := six_at hR9
          have rf0 := rf 0
          have rf1 := rf 1
          have rf2 := rf 2
          have rf3 := rf 3
          have rf4 := rf 4
          have rf5 := rf 5
          obtain ⟨⟨q0, q1, q2, q3, q4, q5⟩, _⟩ := six_at hF9
          clear rf
          go_wp2
          exact bodyPost_ret (v := .tuple #[.agg #[.int .i64 0, .int .i64 0, .int .u32 0, .int .u64 0, .int .i64 0, .slice none 0 0], .int .i64 1]) (by simp [results, Tryd.results16, go_sem, r0, r1, r2, r3, r4, r5]) rfl ⟨set6r hB9 (Nat.le_refl _), .inl ⟨1, .inr (.inr ⟨HEQ.out, hsumOk.out, fun h => hmg h.1, rfl⟩), rfl⟩⟩
      · refine (specEncode_bad kd pt (fld zs 4 4) (fld zs 8 8) (fld zs 16 2) av ((zs.drop 18).take sz) sz cp W8 (by omega) (by omega) (by omega) (by omega) (by omega) (by omega) (by omega) (by omega) (by omega) (by omega) (by omega) hv).mono ?_
        rintro e w9 ⟨rfl, hb9⟩
        have hR9 := (hb9.block _ hlR8).trans hR8
        have hF9 := (hb9.block _ hlF8).trans hF8
        have hB9 : Below w.heap.size w w9 := hB8.trans (hb9.mono hB8.size)
        clear hR8 hF8 ho8 hb9 hz8
        obtain ⟨⟨r0, r1, r2, r3, r4, r5⟩, rf⟩ := six_at hR9
        have rf0 := rf 0
        have rf1 := rf 1
        have rf2 := rf 2
        have rf3 := rf 3
        have rf4 := rf 4
        have rf5 := rf 5
        obtain ⟨⟨q0, q1, q2, q3, q4, q5⟩, _⟩ := six_at hF9
        clear rf
        go_wp2
        exact bodyPost_ret (v := .tuple #[.agg #[.int .i64 0, .int .i64 0, .int .u32 0, .int .u64 0, .int .i64 0, .slice none 0 0], .int .i64 1]) (by simp [results, Tryd.results16, go_sem, r0, r1, r2, r3, r4, r5]) rfl ⟨set6r hB9 (Nat.le_refl _), .inl ⟨1, .inr (.inr ⟨HEQ.out, hsumOk.out, fun h => hv (by have := h.2; rw [hkd.out, hpt.out, HSZ.out] at this; exact this), rfl⟩), rfl⟩⟩
  · have hd3 : (sm != cr) = true := by simpa using hsc
    have hfin : ∀ w', Below w.heap.size w w' → Decodes zs w (.returned (.tuple #[.agg #[.int .i64 0, .int .i64 0, .int .u32 0, .int .u64 0, .int .i64 0, .slice none 0 0], .int .i64 3])) w' := fun w' h => ⟨h, .inl ⟨3, .inr (.inl ⟨HEQ.out, by unfold SumOk; rw [HSZ.out, hsm.out, hcrE.out]; exact hsc, rfl⟩), rfl⟩⟩
    go_enter Tryd.func16, Tryd.ntmps16
    go_wp2
    go_region_held3 (fun w' => w'.cell? ⟨b, off + 1, none⟩ = some (.int .u8 kd) ∧ w'.cell? ⟨b, off + 2, none⟩ = some (.int .u8 pt))
      (first | go_keep | exact ⟨by assumption, by assumption⟩)
      (first
        | (go_at_call 32; refine (l1Get_at ((L : Int) - 4) _ zs L cap (18 + sz) 4 _ (by have := HL4.out; omega) (hzA.moved ((Below.refl _ _).drew)) HL.out hzv (by have := HL4.out; omega) (by omega) hl sm hsm.out).mono ?_; rintro e w2 ⟨rfl, rfl⟩)
        | (go_at_call 33; refine (hcr _ ((hzA.moved ((Below.refl _ _).drew)).take _)).mono ?_; rintro e w3 ⟨rfl, rfl⟩))
    obtain ⟨⟨r0, r1, r2, r3, r4, r5⟩, rf⟩ := six_at hRb
    have rf0 := rf 0
    have rf1 := rf 1
    have rf2 := rf 2
    have rf3 := rf 3
    have rf4 := rf 4
    have rf5 := rf 5
    clear rf
    go_wp2
    exact bodyPost_ret (v := .tuple #[.agg #[.int .i64 0, .int .i64 0, .int .u32 0, .int .u64 0, .int .i64 0, .slice none 0 0], .int .i64 3]) (by simp [results, Tryd.results16, go_sem]) rfl (hfin _ hb0.drew)

theorem specDecode (a : Option Addr) (zs : List Int) (L cap : Nat) (w : World) (hz : Ints .u8 w a zs) (hL : zs.length = L) (hzv : ∀ x ∈ zs, 0 ≤ x ∧ x ≤ 255) (hcap : L ≤ cap) (hl : L ≤ 1048576) :
    Calls Tryd.prog 16 #[.slice a L cap] w (Decodes zs w) := by
  by_cases h : zs.length = 22 + szOf zs
  · exact specDecode_sized a zs L cap w hz hL hzv hcap hl h
  · exact specDecode_size a zs L cap w hz hL hzv hl h
end Go.Proofs.YthgggmkljnghmaaDoor
