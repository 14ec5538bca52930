import Derived.Test.YthgggmkljnghmaaDoorWireDec
import Derived.Test.YthgggmkljnghmaaDoorWireEnc3
import Derived.Deep.RegionHeld3
import Derived.Lib.SmallJoins
namespace Go.Proofs.YthgggmkljnghmaaDoor
open Go.ChangeShapes Go.WideShapes Go.ChangeAt Go.RowKit
set_option linter.unusedVariables false

/-- Field number i of the bytes: m of them from p on. -/
def fld (zs : List Int) (p m : Nat) : Int := ofBe ((zs.drop p).take m)
def szOf (zs : List Int) : Nat := (fld zs 3 1).toNat

theorem fld_lt {zs : List Int} (h : ∀ x ∈ zs, 0 ≤ x ∧ x ≤ 255) (p m N : Nat) (hN : 256 ^ m = N) : 0 ≤ fld zs p m ∧ fld zs p m < N :=
  ofBe_lt _ (fun x hx => h x (List.mem_of_mem_drop (List.mem_of_mem_take hx))) m (by simp; omega) N hN

theorem own_set {w : World} {base d i : Nat} {e : TypeId} {v : Value} {n : Nat} {xs : List Value} {u : Value} (h : w.ownsRow base e 1 v n xs) (hd : d < base) : (w.setCell ⟨d, i, none⟩ u).ownsRow base e 1 v n xs := by
  refine h.kept (grown_set w d i u) ?_
  cases hv : v.ownBlock with
  | none => exact .inl rfl
  | some k =>
    refine .inr fun hk => ?_
    have h1 := (h.lt k hv).1
    have h2 := Option.some.inj hk
    omega

theorem midCell (w : World) (x z : Obj) (v : Value) (t : TypeId) : (((w.alloc x).alloc (.cells #[v] t)).alloc z).cell? ⟨w.heap.size + 1, 0, none⟩ = some v := by
  rw [World.cell?_alloc_past _ _ _ (by simp)]
  exact cell_alloc1 _ _ _ _ (by simp)
theorem midFrozen (w : World) (x z : Obj) (v : Value) (t : TypeId) : (((w.alloc x).alloc (.cells #[v] t)).alloc z).frozen? ⟨w.heap.size + 1, 0, none⟩ = false := by
  have h : (((w.alloc x).alloc (.cells #[v] t)).alloc z).heap[w.heap.size + 1]? = some (.cells #[v] t) := (Below.heap_alloc _ _ _ (by simp)).trans (alloc_block _ _ _ (by simp))
  exact Go.Joins.unfrozen_of_block h 0
theorem midBlocks (w : World) (x z : Obj) (v v' : Value) (t : TypeId) :
    ((((w.alloc x).alloc (.cells #[v] t)).alloc z).setCell ⟨w.heap.size + 1, 0, none⟩ v').heap[w.heap.size]? = some x ∧
    ((((w.alloc x).alloc (.cells #[v] t)).alloc z).setCell ⟨w.heap.size + 1, 0, none⟩ v').heap[w.heap.size + 1]? = some (.cells #[v'] t) ∧
    ((((w.alloc x).alloc (.cells #[v] t)).alloc z).setCell ⟨w.heap.size + 1, 0, none⟩ v').heap[w.heap.size + 1 + 1]? = some z := by
  refine ⟨?_, ?_, ?_⟩
  · rw [heap_setCell_other _ _ _ _ (by simp)]
    exact (Below.heap_alloc _ _ _ (by simp; omega)).trans ((Below.heap_alloc _ _ _ (by simp)).trans (alloc_block _ _ _ rfl))
  · have h : (((w.alloc x).alloc (.cells #[v] t)).alloc z).heap[w.heap.size + 1]? = some (.cells #[v] t) := (Below.heap_alloc _ _ _ (by simp)).trans (alloc_block _ _ _ (by simp))
    rw [Go.Joins.block_setCell h]
    rfl
  · rw [heap_setCell_other _ _ _ _ (by simp)]
    exact alloc_block _ _ _ (by simp)

theorem set6r {B : Nat} {w0 w : World} {c : Nat} {u0 u1 u2 u3 u4 u5 : Value} (h : Below B w0 w) (hc : B ≤ c) :
    Below B w0 ((((((w.setCell ⟨c, 0, none⟩ u0).setCell ⟨c, 1, none⟩ u1).setCell ⟨c, 2, none⟩ u2).setCell ⟨c, 3, none⟩ u3).setCell ⟨c, 4, none⟩ u4).setCell ⟨c, 5, none⟩ u5) :=
  (((((h.setCell hc _).setCell hc _).setCell hc _).setCell hc _).setCell hc _).setCell hc _
theorem own6r {w : World} {base c : Nat} {e : TypeId} {v : Value} {n : Nat} {xs : List Value} {u0 u1 u2 u3 u4 u5 : Value} (h : w.ownsRow base e 1 v n xs) (hc : c < base) :
    ((((((w.setCell ⟨c, 0, none⟩ u0).setCell ⟨c, 1, none⟩ u1).setCell ⟨c, 2, none⟩ u2).setCell ⟨c, 3, none⟩ u3).setCell ⟨c, 4, none⟩ u4).setCell ⟨c, 5, none⟩ u5).ownsRow base e 1 v n xs :=
  own_set (own_set (own_set (own_set (own_set (own_set h hc) hc) hc) hc) hc) hc

def Reads (zs : List Int) (w : World) (e : Ending) (w' : World) : Prop :=
  Below w.heap.size w w' ∧
  ((zs.length < 22 + szOf zs ∧ e = .panicked [{ v := .iface 70 (.agg #[.int .i64 2]), recovered := false }]) ∨
   (22 + szOf zs < zs.length ∧ e = .returned (.tuple #[.agg #[.int .i64 0, .int .i64 0, .int .u32 0, .int .u64 0, .int .i64 0, .slice none 0 0], .iface 70 (.agg #[.int .i64 2])])) ∨
   (zs.length = 22 + szOf zs ∧ fld zs (18 + szOf zs) 4 ≠ crcOf (zs.take (18 + szOf zs)) ∧ e = .returned (.tuple #[.agg #[.int .i64 0, .int .i64 0, .int .u32 0, .int .u64 0, .int .i64 0, .slice none 0 0], .iface 70 (.agg #[.int .i64 3])])) ∨
   (zs.length = 22 + szOf zs ∧ fld zs (18 + szOf zs) 4 = crcOf (zs.take (18 + szOf zs)) ∧ fld zs 0 1 ≠ 213 ∧ e = .returned (.tuple #[.agg #[.int .i64 0, .int .i64 0, .int .u32 0, .int .u64 0, .int .i64 0, .slice none 0 0], .iface 70 (.agg #[.int .i64 1])])) ∨
   (zs.length = 22 + szOf zs ∧ fld zs (18 + szOf zs) 4 = crcOf (zs.take (18 + szOf zs)) ∧ fld zs 0 1 = 213 ∧ ∃ av cp,
     w'.ownsRow w.heap.size 5 1 (.slice av (szOf zs) cp) (szOf zs) (((zs.drop 18).take (szOf zs)).map (.int .u8)) ∧
     ((Valid (fld zs 1 1) (fld zs 2 1) (fld zs 4 4) (fld zs 8 8) (fld zs 16 2) (szOf zs) ∧ e = .returned (.tuple #[.agg #[.int .i64 (fld zs 1 1), .int .i64 (fld zs 2 1), .int .u32 (fld zs 4 4), .int .u64 (fld zs 8 8), .int .i64 (fld zs 16 2), .slice av (szOf zs) cp], .nilIface])) ∨
      (¬ Valid (fld zs 1 1) (fld zs 2 1) (fld zs 4 4) (fld zs 8 8) (fld zs 16 2) (szOf zs) ∧ e = .returned (.tuple #[.agg #[.int .i64 (fld zs 1 1), .int .i64 (fld zs 2 1), .int .u32 (fld zs 4 4), .int .u64 (fld zs 8 8), .int .i64 (fld zs 16 2), .slice av (szOf zs) cp], .iface 70 (.agg #[.int .i64 1])])))))

set_option maxHeartbeats 8000000 in
theorem readFrame_any (a : Option Addr) (zs : List Int) (L cap : Nat) (w : World) (hz : Ints .u8 w a zs) (hL : zs.length = L) (hzv : ∀ x ∈ zs, 0 ≤ x ∧ x ≤ 255) (hno : a = none → cap = 0) (hcap : L ≤ cap) (hl : L ≤ 1048576) :
    Calls Tryd.prog 36 #[.slice a L cap] w (Reads zs w) := by
  have hBelow2 : ∀ (x y : Obj), Below w.heap.size w ((w.alloc x).alloc y) := fun x y => ((Below.refl _ _).alloc (Nat.le_refl _) _).alloc (by simp) _
  have hBelow3 : ∀ (x y z : Obj), Below w.heap.size w (((w.alloc x).alloc y).alloc z) := fun x y z => (((Below.refl _ _).alloc (Nat.le_refl _) _).alloc (by simp) _).alloc (by simp; omega) _
  have hsz0 : ∃ sz : Nat, fld zs 3 1 = (sz : Int) ∧ szOf zs = sz ∧ sz ≤ 255 := ⟨szOf zs, by have := (fld_lt hzv 3 1 256 rfl).1; unfold szOf; omega, rfl, by have := fld_lt hzv 3 1 256 rfl; unfold szOf; omega⟩
  obtain ⟨sz, hsz', hszO, hsz2⟩ := hsz0
  have hsz : Hid _ := hsz'
  clear hsz'
  unfold Reads
  rw [hszO]
  have hi0 : Ints .u8 w a (zs.drop 0) := by simpa using hz
  have hd0 : Hid ((zs.drop 0).length = L) := by unfold Hid; simp; omega
  have HN0 : Hid (a = none → cap = 0) := hno
  have T0 : Hid (L = L + 0 ∧ cap = cap + 0) := ⟨rfl, rfl⟩
  have HL : Hid (zs.length = L) := hL
  clear hno hL
  go_enter Tryd.func36, Tryd.ntmps36
  go_wp2_with fail
  rcases Nat.lt_or_ge L 1 with hs | hs
  · refine (number_short (w.heap.size + 1) a L cap 1 _ (by simp) hs (by omega)).mono ?_
    rintro e w1 ⟨rfl, rfl⟩
    exact ⟨rfl, hBelow2 _ _, .inl ⟨by have := T0.out; have := HL.out; omega, rfl⟩⟩
  obtain ⟨n1, c1, E⟩ : ∃ n' c', Hid (L = n' + 1 ∧ cap = c' + 1) := ⟨L - 1, cap - 1, by unfold Hid; have := T0.out; omega⟩
  obtain ⟨mg, hmg⟩ : ∃ x, Hid (fld zs 0 1 = x) := ⟨_, rfl⟩
  have bmg := fld_lt hzv 0 1 256 rfl
  refine (number_ok (w.heap.size + 1) a (zs.drop 0) L cap 1 n1 c1 _ w (by simp) (by simp [go_sem]) hi0 (hBelow2 _ _) (by omega) hd0.out (fun x hx => hzv x (List.mem_of_mem_drop hx)) E.out.1 (by omega) E.out.2 (by have := T0.out; omega) (by have := T0.out; omega)).mono ?_
  rintro e w1 ⟨a1, rfl, rfl, hnx⟩
  rw [show ofBe ((zs.drop 0).take 1) = fld zs 0 1 from rfl, hmg.out]
  rw [hmg.out] at bmg
  have hi1 : Ints .u8 w a1 (zs.drop 1) := by have := hnx.1 w _ hi0 hd0.out; rwa [List.drop_drop] at this
  have T1 : Hid (L = n1 + 1 ∧ cap = c1 + 1) := by unfold Hid; have := T0.out; have := E.out; omega
  have hd1 : Hid ((zs.drop 1).length = n1) := by unfold Hid; have := HL.out; have := T1.out; simp; omega
  have HN1 : Hid (a1 = none → c1 = 0) := by unfold Hid; intro h0; have := hnx.2 HN0.out h0; have := E.out; omega
  clear hnx hs E
  go_wp2_with fail
  rcases Nat.lt_or_ge n1 1 with hs | hs
  · refine (number_short (w.heap.size + 1) a1 n1 c1 1 _ (midCell _ _ _ _ _) hs (by omega)).mono ?_
    rintro e w1 ⟨rfl, rfl⟩
    exact ⟨rfl, hBelow3 _ _ _, .inl ⟨by have := T1.out; have := HL.out; omega, rfl⟩⟩
  obtain ⟨n2, c2, E⟩ : ∃ n' c', Hid (n1 = n' + 1 ∧ c1 = c' + 1) := ⟨n1 - 1, c1 - 1, by unfold Hid; have := T1.out; omega⟩
  obtain ⟨kd, hkd⟩ : ∃ x, Hid (fld zs 1 1 = x) := ⟨_, rfl⟩
  have bkd := fld_lt hzv 1 1 256 rfl
  refine (number_ok (w.heap.size + 1) a1 (zs.drop 1) n1 c1 1 n2 c2 _ w (midCell _ _ _ _ _) (midFrozen _ _ _ _ _) hi1 (hBelow3 _ _ _) (by omega) hd1.out (fun x hx => hzv x (List.mem_of_mem_drop hx)) E.out.1 (by omega) E.out.2 (by have := T1.out; omega) (by have := T1.out; omega)).mono ?_
  rintro e w1 ⟨a2, rfl, rfl, hnx⟩
  rw [show ofBe ((zs.drop 1).take 1) = fld zs 1 1 from rfl, hkd.out]
  rw [hkd.out] at bkd
  have hi2 : Ints .u8 w a2 (zs.drop 2) := by have := hnx.1 w _ hi1 hd1.out; rwa [List.drop_drop] at this
  have T2 : Hid (L = n2 + 2 ∧ cap = c2 + 2) := by unfold Hid; have := T1.out; have := E.out; omega
  have hd2 : Hid ((zs.drop 2).length = n2) := by unfold Hid; have := HL.out; have := T2.out; simp; omega
  have HN2 : Hid (a2 = none → c2 = 0) := by unfold Hid; intro h0; have := hnx.2 HN1.out h0; have := E.out; omega
  clear hnx hs E
  go_wp2_with fail
  rcases Nat.lt_or_ge n2 1 with hs | hs
  · refine (number_short (w.heap.size + 1) a2 n2 c2 1 _ (midCell _ _ _ _ _) hs (by omega)).mono ?_
    rintro e w1 ⟨rfl, rfl⟩
    exact ⟨rfl, hBelow3 _ _ _, .inl ⟨by have := T2.out; have := HL.out; omega, rfl⟩⟩
  obtain ⟨n3, c3, E⟩ : ∃ n' c', Hid (n2 = n' + 1 ∧ c2 = c' + 1) := ⟨n2 - 1, c2 - 1, by unfold Hid; have := T2.out; omega⟩
  obtain ⟨pt, hpt⟩ : ∃ x, Hid (fld zs 2 1 = x) := ⟨_, rfl⟩
  have bpt := fld_lt hzv 2 1 256 rfl
  refine (number_ok (w.heap.size + 1) a2 (zs.drop 2) n2 c2 1 n3 c3 _ w (midCell _ _ _ _ _) (midFrozen _ _ _ _ _) hi2 (hBelow3 _ _ _) (by omega) hd2.out (fun x hx => hzv x (List.mem_of_mem_drop hx)) E.out.1 (by omega) E.out.2 (by have := T2.out; omega) (by have := T2.out; omega)).mono ?_
  rintro e w1 ⟨a3, rfl, rfl, hnx⟩
  rw [show ofBe ((zs.drop 2).take 1) = fld zs 2 1 from rfl, hpt.out]
  rw [hpt.out] at bpt
  have hi3 : Ints .u8 w a3 (zs.drop 3) := by have := hnx.1 w _ hi2 hd2.out; rwa [List.drop_drop] at this
  have T3 : Hid (L = n3 + 3 ∧ cap = c3 + 3) := by unfold Hid; have := T2.out; have := E.out; omega
  have hd3 : Hid ((zs.drop 3).length = n3) := by unfold Hid; have := HL.out; have := T3.out; simp; omega
  have HN3 : Hid (a3 = none → c3 = 0) := by unfold Hid; intro h0; have := hnx.2 HN2.out h0; have := E.out; omega
  clear hnx hs E
  go_wp2_with fail
  rcases Nat.lt_or_ge n3 1 with hs | hs
  · refine (number_short (w.heap.size + 1) a3 n3 c3 1 _ (midCell _ _ _ _ _) hs (by omega)).mono ?_
    rintro e w1 ⟨rfl, rfl⟩
    exact ⟨rfl, hBelow3 _ _ _, .inl ⟨by have := T3.out; have := HL.out; omega, rfl⟩⟩
  obtain ⟨n4, c4, E⟩ : ∃ n' c', Hid (n3 = n' + 1 ∧ c3 = c' + 1) := ⟨n3 - 1, c3 - 1, by unfold Hid; have := T3.out; omega⟩
  have bsz := fld_lt hzv 3 1 256 rfl
  refine (number_ok (w.heap.size + 1) a3 (zs.drop 3) n3 c3 1 n4 c4 _ w (midCell _ _ _ _ _) (midFrozen _ _ _ _ _) hi3 (hBelow3 _ _ _) (by omega) hd3.out (fun x hx => hzv x (List.mem_of_mem_drop hx)) E.out.1 (by omega) E.out.2 (by have := T3.out; omega) (by have := T3.out; omega)).mono ?_
  rintro e w1 ⟨a4, rfl, rfl, hnx⟩
  rw [show ofBe ((zs.drop 3).take 1) = fld zs 3 1 from rfl, hsz.out]
  rw [hsz.out] at bsz
  have hi4 : Ints .u8 w a4 (zs.drop 4) := by have := hnx.1 w _ hi3 hd3.out; rwa [List.drop_drop] at this
  have T4 : Hid (L = n4 + 4 ∧ cap = c4 + 4) := by unfold Hid; have := T3.out; have := E.out; omega
  have hd4 : Hid ((zs.drop 4).length = n4) := by unfold Hid; have := HL.out; have := T4.out; simp; omega
  have HN4 : Hid (a4 = none → c4 = 0) := by unfold Hid; intro h0; have := hnx.2 HN3.out h0; have := E.out; omega
  clear hnx hs E
  go_wp2_with fail
  rcases Nat.lt_or_ge n4 4 with hs | hs
  · refine (number_short (w.heap.size + 1) a4 n4 c4 4 _ (midCell _ _ _ _ _) hs (by omega)).mono ?_
    rintro e w1 ⟨rfl, rfl⟩
    exact ⟨rfl, hBelow3 _ _ _, .inl ⟨by have := T4.out; have := HL.out; omega, rfl⟩⟩
  obtain ⟨n5, c5, E⟩ : ∃ n' c', Hid (n4 = n' + 4 ∧ c4 = c' + 4) := ⟨n4 - 4, c4 - 4, by unfold Hid; have := T4.out; omega⟩
  obtain ⟨sq, hsq⟩ : ∃ x, Hid (fld zs 4 4 = x) := ⟨_, rfl⟩
  have bsq := fld_lt hzv 4 4 4294967296 rfl
  refine (number_ok (w.heap.size + 1) a4 (zs.drop 4) n4 c4 4 n5 c5 _ w (midCell _ _ _ _ _) (midFrozen _ _ _ _ _) hi4 (hBelow3 _ _ _) (by omega) hd4.out (fun x hx => hzv x (List.mem_of_mem_drop hx)) E.out.1 (by omega) E.out.2 (by have := T4.out; omega) (by have := T4.out; omega)).mono ?_
  rintro e w1 ⟨a5, rfl, rfl, hnx⟩
  rw [show ofBe ((zs.drop 4).take 4) = fld zs 4 4 from rfl, hsq.out]
  rw [hsq.out] at bsq
  have hi5 : Ints .u8 w a5 (zs.drop 8) := by have := hnx.1 w _ hi4 hd4.out; rwa [List.drop_drop] at this
  have T5 : Hid (L = n5 + 8 ∧ cap = c5 + 8) := by unfold Hid; have := T4.out; have := E.out; omega
  have hd5 : Hid ((zs.drop 8).length = n5) := by unfold Hid; have := HL.out; have := T5.out; simp; omega
  have HN5 : Hid (a5 = none → c5 = 0) := by unfold Hid; intro h0; have := hnx.2 HN4.out h0; have := E.out; omega
  clear hnx hs E
  go_wp2_with fail
  rcases Nat.lt_or_ge n5 8 with hs | hs
  · refine (number_short (w.heap.size + 1) a5 n5 c5 8 _ (midCell _ _ _ _ _) hs (by omega)).mono ?_
    rintro e w1 ⟨rfl, rfl⟩
    exact ⟨rfl, hBelow3 _ _ _, .inl ⟨by have := T5.out; have := HL.out; omega, rfl⟩⟩
  obtain ⟨n6, c6, E⟩ : ∃ n' c', Hid (n5 = n' + 8 ∧ c5 = c' + 8) := ⟨n5 - 8, c5 - 8, by unfold Hid; have := T5.out; omega⟩
  obtain ⟨of, hof⟩ : ∃ x, Hid (fld zs 8 8 = x) := ⟨_, rfl⟩
  have bof := fld_lt hzv 8 8 18446744073709551616 rfl
  refine (number_ok (w.heap.size + 1) a5 (zs.drop 8) n5 c5 8 n6 c6 _ w (midCell _ _ _ _ _) (midFrozen _ _ _ _ _) hi5 (hBelow3 _ _ _) (by omega) hd5.out (fun x hx => hzv x (List.mem_of_mem_drop hx)) E.out.1 (by omega) E.out.2 (by have := T5.out; omega) (by have := T5.out; omega)).mono ?_
  rintro e w1 ⟨a6, rfl, rfl, hnx⟩
  rw [show ofBe ((zs.drop 8).take 8) = fld zs 8 8 from rfl, hof.out]
  rw [hof.out] at bof
  have hi6 : Ints .u8 w a6 (zs.drop 16) := by have := hnx.1 w _ hi5 hd5.out; rwa [List.drop_drop] at this
  have T6 : Hid (L = n6 + 16 ∧ cap = c6 + 16) := by unfold Hid; have := T5.out; have := E.out; omega
  have hd6 : Hid ((zs.drop 16).length = n6) := by unfold Hid; have := HL.out; have := T6.out; simp; omega
  have HN6 : Hid (a6 = none → c6 = 0) := by unfold Hid; intro h0; have := hnx.2 HN5.out h0; have := E.out; omega
  clear hnx hs E
  go_wp2_with fail
  rcases Nat.lt_or_ge n6 2 with hs | hs
  · refine (number_short (w.heap.size + 1) a6 n6 c6 2 _ (midCell _ _ _ _ _) hs (by omega)).mono ?_
    rintro e w1 ⟨rfl, rfl⟩
    exact ⟨rfl, hBelow3 _ _ _, .inl ⟨by have := T6.out; have := HL.out; omega, rfl⟩⟩
  obtain ⟨n7, c7, E⟩ : ∃ n' c', Hid (n6 = n' + 2 ∧ c6 = c' + 2) := ⟨n6 - 2, c6 - 2, by unfold Hid; have := T6.out; omega⟩
  obtain ⟨wi, hwi⟩ : ∃ x, Hid (fld zs 16 2 = x) := ⟨_, rfl⟩
  have bwi := fld_lt hzv 16 2 65536 rfl
  refine (number_ok (w.heap.size + 1) a6 (zs.drop 16) n6 c6 2 n7 c7 _ w (midCell _ _ _ _ _) (midFrozen _ _ _ _ _) hi6 (hBelow3 _ _ _) (by omega) hd6.out (fun x hx => hzv x (List.mem_of_mem_drop hx)) E.out.1 (by omega) E.out.2 (by have := T6.out; omega) (by have := T6.out; omega)).mono ?_
  rintro e w1 ⟨a7, rfl, rfl, hnx⟩
  rw [show ofBe ((zs.drop 16).take 2) = fld zs 16 2 from rfl, hwi.out]
  rw [hwi.out] at bwi
  have hi7 : Ints .u8 w a7 (zs.drop 18) := by have := hnx.1 w _ hi6 hd6.out; rwa [List.drop_drop] at this
  have T7 : Hid (L = n7 + 18 ∧ cap = c7 + 18) := by unfold Hid; have := T6.out; have := E.out; omega
  have hd7 : Hid ((zs.drop 18).length = n7) := by unfold Hid; have := HL.out; have := T7.out; simp; omega
  have HN7 : Hid (a7 = none → c7 = 0) := by unfold Hid; intro h0; have := hnx.2 HN6.out h0; have := E.out; omega
  clear hnx hs E
  go_wp2_with fail
  rcases Nat.lt_or_ge n7 sz with hs | hs
  · refine (bytes_short (w.heap.size + 1) a7 n7 c7 sz _ (midCell _ _ _ _ _) hs (by omega)).mono ?_
    rintro e w1 ⟨rfl, rfl⟩
    exact ⟨rfl, hBelow3 _ _ _, .inl ⟨by have := T7.out; have := HL.out; omega, rfl⟩⟩
  obtain ⟨n8, c8, E⟩ : ∃ n' c', Hid (n7 = n' + sz ∧ c7 = c' + sz) := ⟨n7 - sz, c7 - sz, by unfold Hid; have := T7.out; omega⟩
  refine (bytes_ok (w.heap.size + 1) a7 (zs.drop 18) n7 c7 sz n8 c8 _ w (midCell _ _ _ _ _) (midFrozen _ _ _ _ _) hi7 (hBelow3 _ _ _) (by omega) hd7.out HN7.out E.out.1 E.out.2 (by have := T7.out; omega) (by have := T7.out; omega)).mono ?_
  rintro e w8 ⟨a8, av, cp, rfl, ho8, hg8, hnx⟩
  have hi8 : Ints .u8 w a8 (zs.drop (18 + sz)) := by have := hnx.1 w _ hi7 hd7.out; rwa [List.drop_drop] at this
  have T8 : Hid (L = n8 + (18 + sz) ∧ cap = c8 + (18 + sz)) := by unfold Hid; have := T7.out; have := E.out; omega
  have hd8 : Hid ((zs.drop (18 + sz)).length = n8) := by unfold Hid; have := HL.out; have := T8.out; simp; omega
  have hB8 : Below w.heap.size w w8 := ((hBelow3 _ _ _).setCell (by simp) _).grown hg8 (by simp <;> omega) (by simp)
  obtain ⟨m1, m2, m3⟩ := midBlocks w (.cells #[.int .i64 0, .int .i64 0, .int .u32 0, .int .u64 0, .int .i64 0, .slice none 0 0] 30) (.cells #[.int .i64 kd, .int .i64 pt, .int .u32 sq, .int .u64 of, .int .i64 wi, .slice none 0 0] 30) (.slice a7 n7 c7) (.slice a8 n8 c8) 75
  have k1 := (hg8.block w.heap.size (by simp <;> omega) (by simp)).trans m1
  have k2 := (hg8.block (w.heap.size + 1) (by simp <;> omega) (by simp)).trans m2
  have k3 := (hg8.block (w.heap.size + 1 + 1) (by simp) (by simp)).trans m3
  have hs8 : w.heap.size + 3 ≤ w8.heap.size := by have := hg8.size; simp at this; omega
  have ho8 := owned_base ho8 (show w.heap.size + 1 + 1 + 1 ≤ _ by simp)
  clear m1 m2 m3 hg8 hnx hs E hBelow2 hBelow3
  obtain ⟨⟨f0, f1, f2, f3, f4, f5⟩, ff⟩ := six_at k3
  have ff5 := ff 5
  clear ff
  go_wp2_with fail
  obtain ⟨W9, hW9⟩ : ∃ x, x = w8.setCell ⟨w.heap.size + 1 + 1, 5, none⟩ (.slice av sz cp) := ⟨_, rfl⟩
  rw [← hW9]
  have l1 : W9.heap[w.heap.size]? = some (.cells #[.int .i64 0, .int .i64 0, .int .u32 0, .int .u64 0, .int .i64 0, .slice none 0 0] 30) := by rw [hW9, heap_setCell_other _ _ _ _ (by simp <;> omega)]; exact k1
  have l2 : W9.heap[w.heap.size + 1]? = some (.cells #[.slice a8 n8 c8] 75) := by rw [hW9, heap_setCell_other _ _ _ _ (by simp <;> omega)]; exact k2
  have l3 : W9.heap[w.heap.size + 1 + 1]? = some (.cells #[.int .i64 kd, .int .i64 pt, .int .u32 sq, .int .u64 of, .int .i64 wi, .slice av sz cp] 30) := by rw [hW9, Go.Joins.block_setCell k3]; rfl
  have hB9 : Below w.heap.size w W9 := by rw [hW9]; exact hB8.setCell (show w.heap.size ≤ w.heap.size + 1 + 1 by omega) _
  have ho9 : W9.ownsRow (w.heap.size + 1 + 1 + 1) 5 1 (.slice av sz cp) sz (((zs.drop 18).take sz).map (.int .u8)) := by rw [hW9]; exact own_set ho8 (by omega)
  clear k1 k2 k3 f0 f1 f2 f3 f4 f5 ff5 hW9 hB8 ho8 hs8
  have cC := Go.Joins.cell_of_block l2 0
  have cF := Go.Joins.unfrozen_of_block l2 0
  rcases Nat.lt_or_ge n8 4 with hs | hs
  · refine (number_short (w.heap.size + 1) a8 n8 c8 4 W9 cC hs (by omega)).mono ?_
    rintro e w1 ⟨rfl, rfl⟩
    exact ⟨rfl, hB9, .inl ⟨by have := T8.out; have := HL.out; omega, rfl⟩⟩
  obtain ⟨n9, c9, E⟩ : ∃ n' c', Hid (n8 = n' + 4 ∧ c8 = c' + 4) := ⟨n8 - 4, c8 - 4, by unfold Hid; have := T8.out; omega⟩
  obtain ⟨sm, hsm⟩ : ∃ x, Hid (fld zs (18 + sz) 4 = x) := ⟨_, rfl⟩
  have bsm := fld_lt hzv (18 + sz) 4 4294967296 rfl
  refine (number_ok (w.heap.size + 1) a8 (zs.drop (18 + sz)) n8 c8 4 n9 c9 W9 w cC cF hi8 hB9 (by omega) hd8.out (fun x hx => hzv x (List.mem_of_mem_drop hx)) E.out.1 (by omega) E.out.2 (by have := T8.out; omega) (by have := T8.out; omega)).mono ?_
  rintro e w1 ⟨a9, rfl, hw1, hnx⟩
  rw [show ofBe ((zs.drop (18 + sz)).take 4) = fld zs (18 + sz) 4 from rfl, hsm.out]
  rw [hsm.out] at bsm
  have T9 : Hid (L = n9 + (22 + sz)) := by unfold Hid; have := T8.out; have := E.out; omega
  have q1 : w1.heap[w.heap.size]? = some (.cells #[.int .i64 0, .int .i64 0, .int .u32 0, .int .u64 0, .int .i64 0, .slice none 0 0] 30) := by rw [hw1, heap_setCell_other _ _ _ _ (by simp <;> omega)]; exact l1
  have q2 : w1.heap[w.heap.size + 1]? = some (.cells #[.slice a9 n9 c9] 75) := by rw [hw1, Go.Joins.block_setCell l2]; rfl
  have q3 : w1.heap[w.heap.size + 1 + 1]? = some (.cells #[.int .i64 kd, .int .i64 pt, .int .u32 sq, .int .u64 of, .int .i64 wi, .slice av sz cp] 30) := by rw [hw1, heap_setCell_other _ _ _ _ (by simp <;> omega)]; exact l3
  have hB10 : Below w.heap.size w w1 := by rw [hw1]; exact hB9.setCell (show w.heap.size ≤ w.heap.size + 1 by omega) _
  have ho10 : w1.ownsRow (w.heap.size + 1 + 1 + 1) 5 1 (.slice av sz cp) sz (((zs.drop 18).take sz).map (.int .u8)) := by rw [hw1]; exact own_set ho9 (by omega)
  clear hw1 l1 l2 l3 cC cF hB9 ho9 hnx hs E
  obtain ⟨⟨r0, r1, r2, r3, r4, r5⟩, rf⟩ := six_at q1
  have rf0 := rf 0
  have rf1 := rf 1
  have rf2 := rf 2
  have rf3 := rf 3
  have rf4 := rf 4
  have rf5 := rf 5
  obtain ⟨⟨g0, g1, g2, g3, g4, g5⟩, gf⟩ := six_at q3
  have cC : w1.cell? ⟨w.heap.size + 1, 0, none⟩ = some (.slice a9 n9 c9) := Go.Joins.cell_of_block q2 0
  clear rf gf q2
  have hlen1 : w.heap.size < w1.heap.size := World.block_lt_of_cell? w1 _ r0
  rcases Nat.eq_zero_or_pos n9 with hn9 | hn9
  · subst hn9
    have hzt := (hz.moved hB10).take (18 + sz)
    have htl : (zs.take (18 + sz)).length = 18 + sz := by have := T9.out; have := HL.out; simp; omega
    have hcr := implCrc a (zs.take (18 + sz)) cap w1 hzt (fun x hx => hzv x (List.mem_of_mem_take hx)) (by omega)
    rw [htl] at hcr
    obtain ⟨cr, hcrE⟩ : ∃ x, Hid (crcOf (zs.take (18 + sz)) = x) := ⟨_, rfl⟩
    rw [hcrE.out] at hcr
    have hL2 : L - 4 = 18 + sz := by have := T9.out; omega
    have hL3 : 4 ≤ L := by have := T9.out; omega
    have HLE : zs.length = 22 + sz := by have := T9.out; have := HL.out; omega
    by_cases hsc : sm = cr
    · subst hsc
      by_cases hmg2 : mg = 213
      · subst hmg2
        have hck := fun X => checkFrame kd pt sq of wi av sz cp X (by omega) (by omega) (by omega) (by omega) (by omega) (by omega) (by omega) (by omega) (by omega) (by omega) (by omega)
        go_wp2_with (go_at_call 24; refine hcr.mono ?_; rintro e w2 ⟨rfl, hww⟩; have hww' := hww.symm; subst hww')
        by_cases hv : Valid kd pt sq of wi sz
        · go_region_with (first | (go_at_call 29; refine (hck _).mono ?_; intro e2 w2 h2; obtain ⟨rfl, hb2⟩ := h2.yes hv; have u3 : w2.heap[w.heap.size + 1 + 1]? = _ := (hb2.block _ (show w.heap.size + 1 + 1 < w1.heap.size from World.block_lt_of_cell? w1 _ g0)).trans q3; have u1 : w2.heap[w.heap.size]? = _ := (hb2.block _ (show w.heap.size < w1.heap.size from hlen1)).trans q1; obtain ⟨⟨h0, h1, h2, h3, h4, h5⟩, _⟩ := six_at u3; obtain ⟨⟨s0, s1, s2, s3, s4, s5⟩, sf⟩ := six_at u1; have sf0 := sf 0; have sf1 := sf 1; have sf2 := sf 2; have sf3 := sf 3; have sf4 := sf 4; have sf5 := sf 5; have hB11 : Below w.heap.size w w2 := hB10.trans ((show Below w1.heap.size w1 w2 from ⟨hb2.os, hb2.tape, hb2.output, hb2.size, hb2.block⟩).mono hB10.size); have ho11 := owned_kept ho10 (show Below w1.heap.size w1 w2 from ⟨hb2.os, hb2.tape, hb2.output, hb2.size, hb2.block⟩)))
          all_goals go_wp2
          all_goals refine bodyPost_ret (v := .tuple #[.agg #[.int .i64 kd, .int .i64 pt, .int .u32 sq, .int .u64 of, .int .i64 wi, .slice av sz cp], .nilIface]) (by simp [results, Tryd.results36, go_sem, s0, s1, s2, s3, s4, s5]) rfl ⟨set6r hB11 (Nat.le_refl _), .inr (.inr (.inr (.inr ⟨HLE, by rw [hsm.out, hcrE.out], by rw [hmg.out], av, cp, owned_base (own6r ho11 (by omega)) (by omega), ?_⟩)))⟩
          all_goals rw [hkd.out, hpt.out, hsq.out, hof.out, hwi.out]
          all_goals exact .inl ⟨hv, rfl⟩
        · go_region_with (first | (go_at_call 29; refine (hck _).mono ?_; intro e2 w2 h2; obtain ⟨rfl, hb2⟩ := h2.no hv; have u3 : w2.heap[w.heap.size + 1 + 1]? = _ := (hb2.block _ (show w.heap.size + 1 + 1 < w1.heap.size from World.block_lt_of_cell? w1 _ g0)).trans q3; have u1 : w2.heap[w.heap.size]? = _ := (hb2.block _ (show w.heap.size < w1.heap.size from hlen1)).trans q1; obtain ⟨⟨h0, h1, h2, h3, h4, h5⟩, _⟩ := six_at u3; obtain ⟨⟨s0, s1, s2, s3, s4, s5⟩, sf⟩ := six_at u1; have sf0 := sf 0; have sf1 := sf 1; have sf2 := sf 2; have sf3 := sf 3; have sf4 := sf 4; have sf5 := sf 5; have hB11 : Below w.heap.size w w2 := hB10.trans ((show Below w1.heap.size w1 w2 from ⟨hb2.os, hb2.tape, hb2.output, hb2.size, hb2.block⟩).mono hB10.size); have ho11 := owned_kept ho10 (show Below w1.heap.size w1 w2 from ⟨hb2.os, hb2.tape, hb2.output, hb2.size, hb2.block⟩)))
          all_goals go_wp2
          all_goals refine bodyPost_ret (v := .tuple #[.agg #[.int .i64 kd, .int .i64 pt, .int .u32 sq, .int .u64 of, .int .i64 wi, .slice av sz cp], .iface 70 (.agg #[.int .i64 1])]) (by simp [results, Tryd.results36, go_sem, s0, s1, s2, s3, s4, s5]) rfl ⟨set6r hB11 (Nat.le_refl _), .inr (.inr (.inr (.inr ⟨HLE, by rw [hsm.out, hcrE.out], by rw [hmg.out], av, cp, owned_base (own6r ho11 (by omega)) (by omega), ?_⟩)))⟩
          all_goals rw [hkd.out, hpt.out, hsq.out, hof.out, hwi.out]
          all_goals exact .inr ⟨hv, rfl⟩
      · go_wp2_with (go_at_call 24; refine hcr.mono ?_; rintro e w2 ⟨rfl, hww⟩; have hww' := hww.symm; subst hww')
        exact bodyPost_ret (v := .tuple #[.agg #[.int .i64 0, .int .i64 0, .int .u32 0, .int .u64 0, .int .i64 0, .slice none 0 0], .iface 70 (.agg #[.int .i64 1])]) (by simp [results, Tryd.results36, go_sem, r0, r1, r2, r3, r4, r5]) rfl ⟨set6r hB10 (Nat.le_refl _), .inr (.inr (.inr (.inl ⟨HLE, by rw [hsm.out, hcrE.out], by rw [hmg.out]; exact hmg2, rfl⟩)))⟩
    · go_wp2_with (go_at_call 24; refine hcr.mono ?_; rintro e w2 ⟨rfl, hww⟩; have hww' := hww.symm; subst hww')
      exact bodyPost_ret (v := .tuple #[.agg #[.int .i64 0, .int .i64 0, .int .u32 0, .int .u64 0, .int .i64 0, .slice none 0 0], .iface 70 (.agg #[.int .i64 3])]) (by simp [results, Tryd.results36, go_sem, r0, r1, r2, r3, r4, r5]) rfl ⟨set6r hB10 (Nat.le_refl _), .inr (.inr (.inl ⟨HLE, by rw [hsm.out, hcrE.out]; exact hsc, rfl⟩))⟩
  · go_wp2
    exact bodyPost_ret (v := .tuple #[.agg #[.int .i64 0, .int .i64 0, .int .u32 0, .int .u64 0, .int .i64 0, .slice none 0 0], .iface 70 (.agg #[.int .i64 2])]) (by simp [results, Tryd.results36, go_sem, r0, r1, r2, r3, r4, r5]) rfl ⟨set6r hB10 (Nat.le_refl _), .inr (.inl ⟨by have := T9.out; have := HL.out; omega, rfl⟩)⟩
end Go.Proofs.YthgggmkljnghmaaDoor
