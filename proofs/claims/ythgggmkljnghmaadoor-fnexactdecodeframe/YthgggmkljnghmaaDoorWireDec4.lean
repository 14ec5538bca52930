import Derived.Test.YthgggmkljnghmaaDoorWireDec3
namespace Go.Proofs.YthgggmkljnghmaaDoor
open Go.ChangeShapes Go.WideShapes Go.ChangeAt Go.RowKit
set_option linter.unusedVariables false

/-! The bytes of a number and the number of bytes. -/
theorem byteOf_add (x b : Int) (b0 : 0 ≤ b) (b1 : b ≤ 255) (i : Nat) : byteOf (x * 256 + b) (i + 1) = byteOf x i := by
  unfold byteOf
  have e : (2 : Int) ^ (8 * (i + 1)) = 256 * 2 ^ (8 * i) := by rw [show 8 * (i + 1) = 8 + 8 * i by omega, Int.pow_add]; rfl
  rw [e, ← Int.ediv_ediv_of_nonneg (by omega)]
  congr 2
  omega
theorem byteOf_zero (x b : Int) (b0 : 0 ≤ b) (b1 : b ≤ 255) : byteOf (x * 256 + b) 0 = b := by
  unfold byteOf
  simp
  omega
theorem be_snoc (x b : Int) (b0 : 0 ≤ b) (b1 : b ≤ 255) (n : Nat) : be (x * 256 + b) (n + 1) = be x n ++ [b] := by
  unfold be
  rw [List.range_succ, List.map_append]
  congr 1
  · apply List.map_congr_left
    intro j hj
    simp only [List.mem_range] at hj
    rw [show n + 1 - 1 - j = (n - 1 - j) + 1 by omega, byteOf_add x b b0 b1]
  · simp only [List.map_cons, List.map_nil]
    rw [show n + 1 - 1 - n = 0 by omega, byteOf_zero x b b0 b1]
theorem be_ofBe (l : List Int) (h : ∀ x ∈ l, 0 ≤ x ∧ x ≤ 255) : be (ofBe l) l.length = l := by
  have key : ∀ n, n ≤ l.length → be (ofBe (l.take n)) n = l.take n := by
    intro n
    induction n with
    | zero => intro _; simp [be]
    | succ n ih =>
      intro hn
      have hlt : n < l.length := by omega
      have hb := h (l[n]) (List.getElem_mem hlt)
      rw [List.take_succ_eq_append_getElem hlt, ofBe_snoc, be_snoc _ _ hb.1 hb.2, ih (by omega)]
  have := key l.length (Nat.le_refl _)
  rwa [List.take_length] at this
theorem be_fld {zs : List Int} (h : ∀ x ∈ zs, 0 ≤ x ∧ x ≤ 255) (p m : Nat) (hp : p + m ≤ zs.length) : be (fld zs p m) m = (zs.drop p).take m := by
  have hl : ((zs.drop p).take m).length = m := by simp; omega
  have := be_ofBe ((zs.drop p).take m) (fun x hx => h x (List.mem_of_mem_drop (List.mem_of_mem_take hx)))
  rw [hl] at this
  exact this
theorem fld_one {zs : List Int} (p : Nat) (hp : p < zs.length) : fld zs p 1 = zs.getD p 0 := by
  unfold fld
  have : (zs.drop p).take 1 = [zs[p]] := by rw [List.drop_eq_getElem_cons hp]; rfl
  rw [this]
  simp [ofBe, hp]

theorem parts {zs : List Int} (h : ∀ x ∈ zs, 0 ≤ x ∧ x ≤ 255) (sz : Nat) (hL : zs.length = 22 + sz) :
    zs.take (18 + sz) = [zs.getD 0 0, zs.getD 1 0, zs.getD 2 0, zs.getD 3 0] ++ be (fld zs 4 4) 4 ++ be (fld zs 8 8) 8 ++ be (fld zs 16 2) 2 ++ (zs.drop 18).take sz := by
  rw [be_fld h 4 4 (by omega), be_fld h 8 8 (by omega), be_fld h 16 2 (by omega)]
  have s : ∀ (p m r : Nat), (zs.drop p).take (m + r) = (zs.drop p).take m ++ (zs.drop (p + m)).take r := by
    intro p m r
    rw [List.take_add, List.drop_drop]
  have e0 : [zs.getD 0 0, zs.getD 1 0, zs.getD 2 0, zs.getD 3 0] = (zs.drop 0).take 4 := by
    match zs, hL with
    | a :: b :: c :: d :: r, _ => rfl
    | [a, b, c], hL => simp at hL; omega
    | [a, b], hL => simp at hL; omega
    | [a], hL => simp at hL; omega
    | [], hL => simp at hL; omega
  rw [e0]
  have : zs.take (18 + sz) = (zs.drop 0).take (4 + (4 + (8 + (2 + sz)))) := by simp; congr 1; omega
  rw [this, s 0 4, s 4 4, s 8 8, s 16 2]
  simp [List.append_assoc]

/-- The fields laid down again give the bytes back just where the first of them is the magic one. -/
theorem again {zs : List Int} (h : ∀ x ∈ zs, 0 ≤ x ∧ x ≤ 255) (hL : zs.length = 22 + szOf zs) (hsum : SumOk zs) (hmg : fld zs 0 1 = 213) :
    frameBytes (fld zs 1 1) (fld zs 2 1) (fld zs 4 4) (fld zs 8 8) (fld zs 16 2) ((zs.drop 18).take (szOf zs)) = zs := by
  have hp := parts h (szOf zs) hL
  have h0 := fld_one (zs := zs) 0 (by omega)
  have h1 := fld_one (zs := zs) 1 (by omega)
  have h2 := fld_one (zs := zs) 2 (by omega)
  have h3 := fld_one (zs := zs) 3 (by omega)
  have hb3 := (fld_lt h 3 1 256 rfl).1
  have hsz : ((szOf zs : Nat) : Int) = zs.getD 3 0 := by rw [← h3]; unfold szOf; omega
  have hyl : ((zs.drop 18).take (szOf zs)).length = szOf zs := by simp; omega
  have hld : laidDown (fld zs 1 1) (fld zs 2 1) (fld zs 4 4) (fld zs 8 8) (fld zs 16 2) ((zs.drop 18).take (szOf zs)) = zs.take (18 + szOf zs) := by
    unfold laidDown
    rw [hp, hyl, hsz, h1, h2, ← h0, hmg]
  unfold frameBytes
  rw [hld]
  unfold SumOk at hsum
  have hd : (zs.drop (18 + szOf zs)).take 4 = zs.drop (18 + szOf zs) := List.take_of_length_le (by simp; omega)
  rw [← hsum, be_fld h (18 + szOf zs) 4 (by omega), hd, List.take_append_drop]
theorem again_head (k p s o wd : Int) (ys : List Int) : (frameBytes k p s o wd ys).getD 0 0 = 213 := by
  unfold frameBytes laidDown
  simp

/-! Strings of bytes. -/
def strOf (zs : List Int) : ByteArray := zs.foldl (fun r n => r.push (UInt8.ofNat n.toNat)) ByteArray.empty
theorem strOf_data (zs : List Int) : (strOf zs).data.toList = zs.map fun n => UInt8.ofNat n.toNat := by
  have key : ∀ (zs : List Int) (r : ByteArray), (zs.foldl (fun r n => r.push (UInt8.ofNat n.toNat)) r).data.toList = r.data.toList ++ zs.map fun n => UInt8.ofNat n.toNat := by
    intro zs
    induction zs with
    | nil => intro r; simp
    | cons z zs ih => intro r; rw [List.foldl_cons, ih]; simp [ByteArray.push]
  have := key zs ByteArray.empty
  unfold strOf
  simpa using this
theorem strOf_ne {zs ys : List Int} (hz : ∀ x ∈ zs, 0 ≤ x ∧ x ≤ 255) (hl : 0 < zs.length) (hy : 0 < ys.length) (hy0 : ys.getD 0 0 = 213) (h : zs.getD 0 0 ≠ 213) : strOf ys ≠ strOf zs := by
  intro e
  have e1 := congrArg (fun s => s.data.toList) e
  simp only [strOf_data] at e1
  match zs, ys, hl, hy with
  | z :: zs, y :: ys, _, _ =>
    simp at e1 hy0 h
    have h1 := hz z (by simp)
    have e2 := congrArg UInt8.toNat e1.1
    rw [hy0] at e2
    simp at e2
    omega
theorem toString_bytes (a : Option Addr) (zs : List Int) (len cap : Nat) (w : World) (h : Ints .u8 w a zs) (hl : zs.length = len) (h0 : 0 < len) : (convert 24 9 (.slice a len cap)).run Tryd.prog w = .ok (.string (strOf zs)) w := by
  rcases h with h | ⟨b, off, rfl, hc⟩
  · simp [h] at hl; omega
  · rw [run_convert_bytes_string w 24 9 5 _ len cap Tryd.underlying24 Tryd.underlying5 Tryd.underlying9]
    have := run_loadCells_list (P := Tryd.prog) (w := w) ⟨b, off, none⟩ (zs.map (.int .u8)) (ints_cells hc)
    rw [List.length_map, hl] at this
    exact run_bytesToString w _ len cap zs this

theorem l1Get_any (a : Option Addr) (zs : List Int) (L cap p m : Nat) (w : World) (hz : Ints .u8 w a zs) (hL : zs.length = L) (hzv : ∀ x ∈ zs, 0 ≤ x ∧ x ≤ 255) (hp : p + m ≤ L) (hm : m ≤ 8) (hl : L ≤ 1048576) :
    Calls Tryd.prog 32 #[.slice a L cap, .int .i64 p, .int .i64 m] w fun e w' => e = .returned (.int .u64 (fld zs p m)) ∧ w' = w := by
  go_enter Tryd.func32, Tryd.ntmps32
  go_wp2
  go_loop [7, 8] (fun x i => ∃ k : Nat, k ≤ m ∧ i = .int .i64 k ∧ x = .int .u64 (fld zs p k)) (fun _ i => m - (intOf i).toNat)
  case atStart => exact ⟨0, Nat.zero_le _, rfl, rfl⟩
  case round =>
    obtain ⟨k, hk, rfl, rfl⟩ := hrel
    by_cases hlt : k < m
    · rcases hz with h | ⟨b, off, rfl, hcz⟩
      · simp [h] at hL; omega
      · obtain ⟨c, hnc, c0, c1, hcell⟩ := byteAt hzv hcz (show p + k < zs.length by omega)
        have hfit := ofBe_lt ((zs.drop p).take k) (fun x hx => hzv x (List.mem_of_mem_drop (List.mem_of_mem_take hx))) 7 (by simp; omega) 72057594037927936 (by decide)
        have hor := or_byte (ofBe ((zs.drop p).take k)) c hfit.1 (by omega) c0 c1
        have hstep := ofBe_take (zs.drop p) k (by simp; omega)
        have hd : (zs.drop p).getD k 0 = zs.getD (p + k) 0 := by simp
        rw [hd, hnc.out] at hstep
        have HS : Hid (fld zs p (k + 1) = fld zs p k * 256 + c) := hstep
        change 0 ≤ fld zs p k ∧ fld zs p k < _ at hfit
        change bits .or .u64 (fld zs p k * 256) c = fld zs p k * 256 + c at hor
        obtain ⟨X, hX⟩ : ∃ X, fld zs p k = X := ⟨_, rfl⟩
        rw [hX] at hor hfit HS ⊢
        clear hstep hX hcz hzv hd
        go_wp2
        go_round
        case rel => exact ⟨k + 1, by omega, by go_num, by rw [HS.out]⟩
        case measure => simp [intOf]; omega
    · go_wp2
      go_ret
      have : k = m := by omega
      subst this
      exact ⟨rfl, rfl⟩

theorem l1Copy_any (a : Option Addr) (zs : List Int) (n cap : Nat) (w : World) (hz : Ints .u8 w a zs) (hn : zs.length = n) (hl : n ≤ 1048576) :
    Calls Tryd.prog 34 #[.slice a n cap] w fun e w' => ∃ av cp, e = .returned (.slice av n cp) ∧ w'.ownsRow w.heap.size 5 1 (.slice av n cp) n (zs.map (.int .u8)) ∧ Below w.heap.size w w' := by
  have hmade : (w.alloc (.cells #[] 5)).ownsRow w.heap.size 5 1 (.slice (some ⟨w.heap.size, 0, none⟩) 0 0) 0 (([] : List Int).map (.int .u8)) := World.ownsRow_made w #[] 0 (Nat.le_refl _) (by unfold maxLen; omega) rfl
  go_enter Tryd.func34, Tryd.ntmps34
  go_wp2
  go_loopw [3, 4] (fun v i wr => ∃ (k : Nat) (av : Option Addr) (cp : Nat), k ≤ n ∧ i = .int .i64 k ∧ v = .slice av k cp ∧ wr.ownsRow w.heap.size 5 1 (.slice av k cp) k ((zs.take k).map (.int .u8)) ∧ Below w.heap.size w wr) (fun _ i _ => n - (intOf i).toNat)
  case atStart => exact ⟨0, _, _, Nat.zero_le _, rfl, rfl, hmade, (Below.refl _ _).alloc (Nat.le_refl _) _⟩
  case round =>
    clear hmade
    obtain ⟨k, av, cp, hk, rfl, rfl, hown, hb⟩ := hrel
    by_cases hlt : k < n
    · rcases hz with h | ⟨b, off, rfl, hcz⟩
      · simp [h] at hn; omega
      · have hcell := (hb.cell (World.block_lt_of_cell? w _ (hcz k (by omega)))).trans (hcz k (by omega))
        obtain ⟨c, hcc⟩ : ∃ c, zs.getD k 0 = c := ⟨_, rfl⟩
        have hstep : Hid (zs.take (k + 1) = zs.take k ++ [c]) := by
          unfold Hid
          rw [List.take_succ_eq_append_getElem (by omega), ← hcc]
          simp [show k < zs.length by omega]
        rw [hcc] at hcell
        have hsz := hb.size
        clear hcc hcz
        go_wp2_with (at_builtin; refine wpList_app1 _ (by rfl) _ _ 24 5 (by rfl) .u8 1 Tryd.underlying24 info_byte (by decide) w.heap.size av k cp (zs.take k) c (by rfl) (hown.alloc _) ⟨wr.heap.size, 0, none⟩ (by rfl) (by simp) (by omega) (by simp; omega) ?_; intro g cap' w4 ho4 hg4)
        have hb4 := below_grown (hb.alloc hsz _) (hown.alloc _) hg4 (Nat.le_refl _) (by simp; omega)
        go_roundw
        case rel => exact ⟨k + 1, _, _, by omega, by go_num, rfl, by rw [hstep.out]; exact ho4, hb4⟩
        case measure => simp [intOf]; omega
    · go_wp2
      go_ret
      have : k = n := by omega
      subst this
      rw [← hn, List.take_length, hn] at hown
      exact ⟨_, _, rfl, hown, hb⟩
end Go.Proofs.YthgggmkljnghmaaDoor
