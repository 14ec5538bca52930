import Derived.Test.YtcgfflfbhmcnlaaRows
import Derived.WalkKit
import Derived.ProofKit
import Derived.OpenShut
import Derived.ShutString
import Derived.Below
import Derived.OwnWalk
import Derived.Laws.OwnMore
import Derived.Deep.OwnRows
import Derived.Laws.BitsAllLaws
namespace Go.Proofs.Ytcgfflfbhmcnlaa
open Go.ChangeShapes Go.WideShapes Go.ChangeAt Go.RowKit

/-- The integers zs lie at a, one a cell. -/
def Ints (k : IntKind) (w : World) (a : Option Addr) (zs : List Int) : Prop :=
  zs = [] ∨ ∃ b off, a = some ⟨b, off, none⟩ ∧ ∀ i, i < zs.length → w.cell? ⟨b, off + i, none⟩ = some (.int k (zs.getD i 0))

theorem Ints.nil (k : IntKind) (w : World) (a : Option Addr) : Ints k w a [] := .inl rfl

theorem Ints.moved {k : IntKind} {w w' : World} {a : Option Addr} {zs : List Int} (h : Ints k w a zs) (hb : Below w.heap.size w w') : Ints k w' a zs := by
  rcases h with h | ⟨b, off, ha, hc⟩
  · exact .inl h
  · refine .inr ⟨b, off, ha, fun i hi => ?_⟩
    rw [hb.cell (World.block_lt_of_cell? w _ (hc i hi))]
    exact hc i hi

/-- Of a row that is owned. -/
theorem Ints.owned {k : IntKind} {w : World} {base : Nat} {e : TypeId} {g n cap : Nat} {zs : List Int} (h : w.ownsRow base e 1 (.slice (some ⟨g, 0, none⟩) n cap) n (zs.map (.int k))) : Ints k w (some ⟨g, 0, none⟩) zs := by
  refine .inr ⟨g, 0, rfl, fun i hi => ?_⟩
  have hl := h.1
  simp at hl
  rw [Nat.zero_add, h.cellAt i (by omega)]
  simp [hi]

/-- Of a row that came in. -/
theorem Ints.came {k : IntKind} {w : World} {x : Addr} {len : Nat} {z : List Int} (hl : len ≤ z.length) (hcell : ∀ i, i < z.length → w.cell? (x.add i) = some (.int k (z.getD i 0))) : Ints k w (some x) (z.take len) := by
  by_cases h0 : len = 0
  · subst h0
    exact .inl (by simp)
  · obtain ⟨b, off, spot⟩ := x
    have hspot : spot = none := by simpa [Addr.add] using World.cell?_spot (hcell 0 (by omega))
    subst hspot
    refine .inr ⟨b, off, rfl, fun i hi => ?_⟩
    simp only [List.length_take] at hi
    have h := hcell i (by omega)
    have e : (z.take len).getD i 0 = z.getD i 0 := by simp [show i < len by omega]
    rw [e, ← h]
    congr 1
    unfold Addr.add
    split <;> simp_all

/-- A row of bytes that came in. -/
theorem bytesCame {w : World} {a : Option Addr} {len cap : Nat} {z : List Int}
    (h : (a = none ∧ len = 0 ∧ cap = 0 ∧ z = []) ∨ ∃ x, a = some x ∧ len ≤ cap ∧ cap ≤ maxLen ∧ z.length = cap ∧ (∀ i, i < z.length → w.cell? (x.add i) = some (.int .u8 (z.getD i 0))) ∧ ∀ n ∈ z, (Lit.int .u8 n).wf = true) :
    ∃ zs : List Int, zs.length = len ∧ Ints .u8 w a zs ∧ (∀ x ∈ zs, 0 ≤ x ∧ x ≤ 255) ∧ zs.length ≤ 9223372036854775807 := by
  rcases h with ⟨rfl, rfl, rfl, rfl⟩ | ⟨x, rfl, hl, hm, hz, hcell, hw⟩
  · exact ⟨[], rfl, .inl rfl, by simp, by simp⟩
  · unfold maxLen at hm
    exact ⟨z.take len, by simp; omega, Ints.came (by omega) hcell, fun y hy => bounds_u8 (hw y (List.mem_of_mem_take hy)), by simp; omega⟩

theorem owned_length {k : IntKind} {w : World} {base : Nat} {e : TypeId} {v : Value} {n : Nat} {zs : List Int} (h : w.ownsRow base e 1 v n (zs.map (.int k))) : zs.length = n := by
  have hl := h.1
  simpa using hl

/-- A row that is owned stays owned behind what leaves its block alone. -/
theorem owned_moved {w w' : World} {base B : Nat} {e : TypeId} {size : Nat} {v : Value} {n : Nat} {xs : List Value} (h : w.ownsRow base e size v n xs) (hb : Below B w w') (hB : ∀ k, v.ownBlock = some k → k < B) : w'.ownsRow base e size v n xs := by
  refine ⟨h.1, ?_⟩
  rcases h.2 with hn | ⟨g, cap, cur, rfl, hg, hh, rest⟩
  · exact .inl hn
  · refine .inr ⟨g, cap, cur, rfl, hg, ?_, rest⟩
    rw [hb.block g (hB g rfl)]
    exact hh

theorem owned_kept {w w' : World} {base : Nat} {e : TypeId} {size : Nat} {v : Value} {n : Nat} {xs : List Value} (h : w.ownsRow base e size v n xs) (hb : Below w.heap.size w w') : w'.ownsRow base e size v n xs :=
  owned_moved h hb fun k hk => (h.lt k hk).2

theorem ret_int {k : IntKind} {a b : Int} (h : a = b) : Ending.returned (.int k a) = .returned (.int k b) := by rw [h]
theorem ret_bool {a b : Bool} (h : a = b) : Ending.returned (.bool a) = .returned (.bool b) := by rw [h]

theorem isBytes {z : List Int} (h : ∀ x ∈ z, 0 ≤ x ∧ x ≤ 255) (i : Nat) : 0 ≤ z[i]?.getD 0 ∧ z[i]?.getD 0 ≤ 255 := by
  by_cases hi : i < z.length
  · simp [hi]
    exact h _ (List.getElem_mem hi)
  · simp at hi
    simp [hi]

theorem info_byte : (Try.prog.info? 5).map (fun i => (i.zero, i.size, i.bytes)) = some (some (.int .u8 0), 1, 1) := by kernel_rfl

/-- What a copying loop has made of a zero row behind k rounds. -/
def part (zs : List Int) (j : Nat) : List Int := zs.take j ++ List.replicate (zs.length - j) 0

theorem part_zero (zs : List Int) : part zs 0 = List.replicate zs.length 0 := by simp [part]
theorem part_all (zs : List Int) : part zs zs.length = zs := by simp [part]
theorem part_succ (zs : List Int) (j : Nat) (h : j < zs.length) : (part zs j).set j (zs.getD j 0) = part zs (j + 1) := by
  unfold part
  rw [List.set_append]
  simp only [List.length_take]
  rw [if_neg (by omega)]
  have e : zs.length - j = (zs.length - (j + 1)) + 1 := by omega
  have e2 : j - min j zs.length = 0 := by omega
  rw [e2, e, List.replicate_succ, List.set_cons_zero, List.take_succ_eq_append_getElem h]
  simp only [List.append_assoc, List.singleton_append, List.getD_eq_getElem?_getD, List.getElem?_eq_getElem h, Option.getD_some]

theorem toByteS_any (a : Option Addr) (zs : List Int) (cap : Nat) (w : World) (hz : Ints .u8 w a zs) (hl : zs.length ≤ 1048576) :
    Calls Try.prog 15 #[.slice a zs.length cap] w fun e w' => e = .returned (.slice (some ⟨w.heap.size, 0, none⟩) zs.length zs.length) ∧
      w'.ownsRow w.heap.size 5 1 (.slice (some ⟨w.heap.size, 0, none⟩) zs.length zs.length) zs.length (zs.map (.int .u8)) ∧ Below w.heap.size w w' := by
  obtain ⟨i0, hi, hz0, hz1, hz2⟩ := info_parts info_byte
  go_enter Try.func15, Try.ntmps15
  go_wp2_with (at_make; refine wpList_make_full _ rfl _ _ 29 rfl w.heap.size 5 i0 (.int .u8 0) 1 Try.underlying29 hi hz0 hz1 .i64 .i64 _ _ zs.length rfl rfl rfl rfl (by rw [hz2]; omega) (by unfold maxLen; omega) (Nat.le_refl _) ?_; intro w1 hown hgrow)
  have hstart : w1.ownsRow w.heap.size 5 1 (.slice (some ⟨w.heap.size, 0, none⟩) zs.length zs.length) zs.length ((part zs 0).map (.int .u8)) := by
    rw [part_zero]
    simpa [toList_madeCells_one, Value.cells] using hown
  have hbel : Below w.heap.size w w1 := (Below.refl _ _).grown hgrow (Nat.le_refl _) (by simp)
  clear hown hgrow
  go_loopw [4] (fun i wr => ∃ k : Nat, k ≤ zs.length ∧ i = .int .i64 k ∧ wr.ownsRow w.heap.size 5 1 (.slice (some ⟨w.heap.size, 0, none⟩) zs.length zs.length) zs.length ((part zs k).map (.int .u8)) ∧ Below w.heap.size w wr)
    (fun i _ => zs.length - (intOf i).toNat)
  case atStart => exact ⟨0, Nat.zero_le _, rfl, hstart, hbel⟩
  case round =>
    clear hstart hbel
    obtain ⟨k, hk, rfl, hown, hb⟩ := hrel
    by_cases hlt : k < zs.length
    · rcases hz with h | ⟨b, off, rfl, hc⟩
      · simp [h] at hlt
      · have hcell : wr.cell? ⟨b, off + k, none⟩ = some (.int .u8 (zs.getD k 0)) := by rw [hb.cell (World.block_lt_of_cell? w _ (hc k hlt))]; exact hc k hlt
        have hfz := hown.frozenAt k
        have hold : wr.cell? ⟨w.heap.size, k, none⟩ = some (.int .u8 ((part zs k).getD k 0)) := by
          rw [hown.cellAt k (by omega)]
          have : k < (part zs k).length := by have := owned_length hown; omega
          simp [this]
        have hst := hown.stored k (.int .u8 (zs.getD k 0))
        have hnext : (wr.setCell ⟨w.heap.size, k, none⟩ (.int .u8 (zs.getD k 0))).ownsRow w.heap.size 5 1 (.slice (some ⟨w.heap.size, 0, none⟩) zs.length zs.length) zs.length ((part zs (k + 1)).map (.int .u8)) := by
          rw [← part_succ zs k hlt, List.map_set]
          exact hst.1
        have hb2 : Below w.heap.size w (wr.setCell ⟨w.heap.size, k, none⟩ (.int .u8 (zs.getD k 0))) := hb.setCell (Nat.le_refl _) _
        clear hst hown hb hc
        go_wp2
        go_roundw
        case rel => exact ⟨k + 1, by omega, by go_num, by simpa [hlt] using hnext, by simpa [hlt] using hb2⟩
        case measure => simp [intOf]; omega
    · go_wp2
      go_ret
      have : k = zs.length := by omega
      subst this
      rw [part_all] at hown
      exact ⟨rfl, hown, hb⟩

/-- One bit of the sum's step. -/
def crcBit (r : Int) : Int := if bits .and .u32 r 1 = 1 then bits .xor .u32 (r / 2) 3988292384 else r / 2
def crcBits : Nat → Int → Int
  | 0, r => r
  | n + 1, r => crcBit (crcBits n r)
def crcByte (r z : Int) : Int := crcBits 8 (bits .xor .u32 r z)
def crcAll (zs : List Int) : Int := zs.foldl crcByte 4294967295
def crcOf (zs : List Int) : Int := bits .xor .u32 (crcAll zs) 4294967295

theorem xor32 (a b : Int) : 0 ≤ bits .xor .u32 a b ∧ bits .xor .u32 a b ≤ 4294967295 := bounds_u32 (wf_bits _ _ _ _)

theorem crcBit_fits (r : Int) (h0 : 0 ≤ r) (h1 : r ≤ 4294967295) : 0 ≤ crcBit r ∧ crcBit r ≤ 4294967295 := by
  unfold crcBit
  split
  · exact xor32 _ _
  · omega
theorem crcBits_fits (n : Nat) (r : Int) (h0 : 0 ≤ r) (h1 : r ≤ 4294967295) : 0 ≤ crcBits n r ∧ crcBits n r ≤ 4294967295 := by
  induction n with
  | zero => exact ⟨h0, h1⟩
  | succ n ih => exact crcBit_fits _ ih.1 ih.2
theorem crcBit_yes {r : Int} (h : (bits .and .u32 r 1 == 1) = true) : bits .xor .u32 (r / 2) 3988292384 = crcBit r := by
  unfold crcBit
  rw [if_pos (by simpa using h)]
theorem crcBit_no {r : Int} (h : (bits .and .u32 r 1 == 1) = false) : r / 2 = crcBit r := by
  unfold crcBit
  rw [if_neg (by simpa using h)]
theorem crcByte_fits (r z : Int) : 0 ≤ crcByte r z ∧ crcByte r z ≤ 4294967295 := crcBits_fits 8 _ (xor32 r z).1 (xor32 r z).2
theorem crcAll_snoc (zs : List Int) (z : Int) : crcAll (zs ++ [z]) = crcByte (crcAll zs) z := by simp [crcAll]
theorem crcAll_fits (zs : List Int) : 0 ≤ crcAll zs ∧ crcAll zs ≤ 4294967295 := by
  rcases List.eq_nil_or_concat zs with h | ⟨l, z, h⟩
  · subst h; simp [crcAll]
  · subst h; rw [List.concat_eq_append, crcAll_snoc]; exact crcByte_fits _ _
theorem crcAll_take (zs : List Int) (k : Nat) (h : k < zs.length) : crcAll (zs.take (k + 1)) = crcByte (crcAll (zs.take k)) (zs.getD k 0) := by
  rw [List.take_succ_eq_append_getElem h, crcAll_snoc]
  simp [h]

/-- The k-th byte under a name of its own. -/
theorem byteAt {w : World} {zs : List Int} {b off k : Nat} (hv : ∀ x ∈ zs, 0 ≤ x ∧ x ≤ 255) (hc : ∀ i, i < zs.length → w.cell? ⟨b, off + i, none⟩ = some (.int .u8 (zs.getD i 0))) (h : k < zs.length) :
    ∃ c : Int, Hid (zs.getD k 0 = c) ∧ 0 ≤ c ∧ c ≤ 255 ∧ w.cell? ⟨b, off + k, none⟩ = some (.int .u8 c) := by
  have e : zs.getD k 0 = zs[k] := by simp [h]
  exact ⟨zs.getD k 0, rfl, by rw [e]; exact (hv _ (List.getElem_mem h)).1, by rw [e]; exact (hv _ (List.getElem_mem h)).2, hc k h⟩

theorem specCrc (a : Option Addr) (zs : List Int) (cap : Nat) (w : World) (hz : Ints .u8 w a zs) (hv : ∀ x ∈ zs, 0 ≤ x ∧ x ≤ 255) (hl : zs.length ≤ 1048576) :
    Calls Try.prog 14 #[.slice a zs.length cap] w fun e w' => e = .returned (.int .u32 (crcOf zs)) ∧ w' = w := by
  go_enter Try.func14, Try.ntmps14
  go_wp2
  go_loop [3, 4] (fun r i => ∃ k : Nat, k ≤ zs.length ∧ i = .int .i64 k ∧ r = .int .u32 (crcAll (zs.take k))) (fun _ i => zs.length - (intOf i).toNat)
  case atStart => exact ⟨0, Nat.zero_le _, rfl, rfl⟩
  case round =>
    obtain ⟨k, hk, rfl, rfl⟩ := hrel
    have hfit := crcAll_fits (zs.take k)
    by_cases hlt : k < zs.length
    · rcases hz with h | ⟨b, off, rfl, hc⟩
      · simp [h] at hlt
      · obtain ⟨c, hn, c0, c1, hcell⟩ := byteAt hv hc hlt
        have hx := xor32 (crcAll (zs.take k)) c
        clear hc hv
        go_wp2
        go_loop [3, 5] (fun r j => ∃ m : Nat, m ≤ 8 ∧ j = .int .i64 m ∧ r = .int .u32 (crcBits m (bits .xor .u32 (crcAll (zs.take k)) c))) (fun _ j => 8 - (intOf j).toNat)
        case atStart => exact ⟨0, Nat.zero_le _, rfl, rfl⟩
        case round =>
          obtain ⟨m, hm, rfl, rfl⟩ := hrel
          have hf := crcBits_fits m _ hx.1 hx.2
          by_cases hm8 : m < 8
          · go_wp2
            · go_round
              case rel => exact ⟨m + 1, by omega, by go_num, by rw [crcBit_yes ‹_›]; rfl⟩
              case measure => simp [intOf]; omega
            · go_round
              case rel => exact ⟨m + 1, by omega, by go_num, by rw [crcBit_no ‹_›]; rfl⟩
              case measure => simp [intOf]; omega
          · go_wp2
            go_round
            case rel =>
              have : m = 8 := by omega
              subst this
              exact ⟨k + 1, by omega, by go_num, by rw [crcAll_take zs k hlt, hn.out]; rfl⟩
            case measure => simp [intOf]; omega
    · go_wp2
      go_ret
      exact ⟨ret_int (by unfold crcOf; rw [List.take_of_length_le (by omega)]), rfl⟩

theorem implCrc (a : Option Addr) (zs : List Int) (cap : Nat) (w : World) (hz : Ints .u8 w a zs) (hv : ∀ x ∈ zs, 0 ≤ x ∧ x ≤ 255) (hl : zs.length ≤ 1048576) :
    Calls Try.prog 16 #[.slice a zs.length cap] w fun e w' => e = .returned (.int .u32 (crcOf zs)) ∧ w' = w := by
  go_enter Try.func16, Try.ntmps16
  go_wp2
  go_loop [3, 8] (fun r i => ∃ k : Nat, k ≤ zs.length ∧ i = .int .i64 k ∧ r = .int .u32 (crcAll (zs.take k))) (fun _ i => zs.length - (intOf i).toNat)
  case atStart => exact ⟨0, Nat.zero_le _, rfl, rfl⟩
  case round =>
    obtain ⟨k, hk, rfl, rfl⟩ := hrel
    have hfit := crcAll_fits (zs.take k)
    by_cases hlt : k < zs.length
    · rcases hz with h | ⟨b, off, rfl, hc⟩
      · simp [h] at hlt
      · obtain ⟨c, hn, c0, c1, hcell⟩ := byteAt hv hc hlt
        have hx := xor32 (crcAll (zs.take k)) c
        clear hc hv
        go_wp2
        go_loop [3, 16] (fun r j => ∃ m : Nat, m ≤ 8 ∧ j = .int .i64 m ∧ r = .int .u32 (crcBits m (bits .xor .u32 (crcAll (zs.take k)) c))) (fun _ j => 8 - (intOf j).toNat)
        case atStart => exact ⟨0, Nat.zero_le _, rfl, rfl⟩
        case round =>
          obtain ⟨m, hm, rfl, rfl⟩ := hrel
          have hf := crcBits_fits m _ hx.1 hx.2
          by_cases hm8 : m < 8
          · go_wp2
            · go_round
              case rel => exact ⟨m + 1, by omega, by go_num, by rw [crcBit_yes ‹_›]; rfl⟩
              case measure => simp [intOf]; omega
            · go_round
              case rel => exact ⟨m + 1, by omega, by go_num, by rw [crcBit_no ‹_›]; rfl⟩
              case measure => simp [intOf]; omega
          · go_wp2
            go_round
            case rel =>
              have : m = 8 := by omega
              subst this
              exact ⟨k + 1, by omega, by go_num, by rw [crcAll_take zs k hlt, hn.out]; rfl⟩
            case measure => simp [intOf]; omega
    · go_wp2
      go_ret
      exact ⟨ret_int (by unfold crcOf; rw [List.take_of_length_le (by omega)]), rfl⟩

theorem eqByteS_same (a a' : Option Addr) (zs : List Int) (cap cap' : Nat) (w : World) (hz : Ints .u8 w a zs) (hz' : Ints .u8 w a' zs) (hl : zs.length ≤ 1048576) :
    Calls Try.prog 17 #[.slice a zs.length cap, .slice a' zs.length cap'] w fun e w' => e = .returned (.bool true) ∧ Below w.heap.size w w' := by
  go_enter Try.func17, Try.ntmps17
  go_wp2
  go_loopw [5] (fun i wr => ∃ k : Nat, k ≤ zs.length ∧ i = .int .i64 k ∧ Below w.heap.size w wr) (fun i _ => zs.length - (intOf i).toNat)
  case atStart => exact ⟨0, Nat.zero_le _, rfl, Below.refl _ _⟩
  case round =>
    obtain ⟨k, hk, rfl, hb⟩ := hrel
    by_cases hlt : k < zs.length
    · rcases hz with h | ⟨b, off, rfl, hc⟩
      · simp [h] at hlt
      rcases hz' with h | ⟨b', off', rfl, hc'⟩
      · simp [h] at hlt
      obtain ⟨c, hn⟩ : ∃ c : Int, Hid (zs.getD k 0 = c) := ⟨_, rfl⟩
      have hcell : wr.cell? ⟨b, off + k, none⟩ = some (.int .u8 c) := by rw [hb.cell (World.block_lt_of_cell? w _ (hc k hlt)), hc k hlt, hn.out]
      have hcell' : wr.cell? ⟨b', off' + k, none⟩ = some (.int .u8 c) := by rw [hb.cell (World.block_lt_of_cell? w _ (hc' k hlt)), hc' k hlt, hn.out]
      clear hc hc'
      go_wp2
      go_region
      all_goals
        go_wp2
        go_roundw
        case rel => exact ⟨k + 1, by omega, by go_num, hb.drew⟩
        case measure => simp [intOf]; omega
    · go_wp2
      go_ret
      exact ⟨rfl, hb⟩

theorem lawCrc (a : Option Addr) (zs : List Int) (cap : Nat) (w : World) (hz : Ints .u8 w a zs) (hv : ∀ x ∈ zs, 0 ≤ x ∧ x ≤ 255) (hm : zs.length ≤ 9223372036854775807) :
    Calls Try.prog 6 #[.slice a zs.length cap] w fun e w' => e = .returned (.bool true) ∧ Below w.heap.size w w' := by
  by_cases hl : zs.length ≤ 1048576
  · go_enter Try.func6, Try.ntmps6
    go_wp2_with fail
    refine (toByteS_any a zs cap w hz hl).mono ?_
    rintro e w1 ⟨rfl, ho1, hb1⟩
    go_wp2_with fail
    refine (specCrc _ zs _ w1 (Ints.owned ho1) hv hl).mono ?_
    rintro e w2 ⟨rfl, rfl⟩
    have hz2 := hz.moved hb1
    go_wp2_with fail
    refine (toByteS_any a zs cap _ hz2 hl).mono ?_
    rintro e w3 ⟨rfl, ho3, hb3⟩
    go_wp2_with fail
    refine (implCrc _ zs _ _ (Ints.owned ho3) hv hl).mono ?_
    rintro e w4 ⟨rfl, rfl⟩
    have hz4 := hz2.moved hb3
    go_wp2_with fail
    refine (toByteS_any a zs cap _ hz4 hl).mono ?_
    rintro e w5 ⟨rfl, ho5, hb5⟩
    go_wp2_with fail
    refine (eqByteS_same _ _ zs _ _ _ ((Ints.owned ho3).moved hb5) (Ints.owned ho5) hl).mono ?_
    rintro e w6 ⟨rfl, hb6⟩
    go_wp2_with fail
    go_ret
    have s1 := hb1.size
    have s3 := hb3.size
    have s5 := hb5.size
    exact ⟨rfl, ((hb1.trans (hb3.mono s1)).trans (hb5.mono (by omega))).trans (hb6.mono (by omega))⟩
  · go_enter Try.func6, Try.ntmps6
    go_wp2
    go_ret
    exact ⟨rfl, Below.refl _ _⟩
end Go.Proofs.Ytcgfflfbhmcnlaa
