import Derived.Test.YthgggmkljnghmaaDoorByteTo
namespace Go.Proofs.YthgggmkljnghmaaDoor
open Go.ChangeShapes Go.WideShapes Go.ChangeAt Go.RowKit
set_option linter.unusedVariables false

/-- One bit of the sum's step. -/
def crcBit (r : Int) : Int := if bits .and .u32 r 1 = 1 then bits .xor .u32 (r / 2) 3988292384 else r / 2
def crcBits : Nat → Int → Int
  | 0, r => r
  | n + 1, r => crcBit (crcBits n r)
def crcByte (r z : Int) : Int := crcBits 8 (bits .xor .u32 r z)
def crcAll (zs : List Int) : Int := zs.foldl crcByte 4294967295
def crcOf (zs : List Int) : Int := bits .xor .u32 (crcAll zs) 4294967295

theorem xor32 (a b : Int) : 0 ≤ bits .xor .u32 a b ∧ bits .xor .u32 a b ≤ 4294967295 := bounds_u32 (wf_bits _ _ _ _)

theorem crcBit_fits (r : Int) (h0 : 0 ≤ r) (h1 : r ≤ 4294967295) : 0 ≤ crcBit r ∧ crcBit r ≤ 4294967295 := by
  unfold crcBit
  split
  · exact xor32 _ _
  · omega
theorem crcBits_fits (n : Nat) (r : Int) (h0 : 0 ≤ r) (h1 : r ≤ 4294967295) : 0 ≤ crcBits n r ∧ crcBits n r ≤ 4294967295 := by
  induction n with
  | zero => exact ⟨h0, h1⟩
  | succ n ih => exact crcBit_fits _ ih.1 ih.2
theorem crcBit_yes {r : Int} (h : (bits .and .u32 r 1 == 1) = true) : bits .xor .u32 (r / 2) 3988292384 = crcBit r := by
  unfold crcBit
  rw [if_pos (by simpa using h)]
theorem crcBit_no {r : Int} (h : (bits .and .u32 r 1 == 1) = false) : r / 2 = crcBit r := by
  unfold crcBit
  rw [if_neg (by simpa using h)]
theorem crcByte_fits (r z : Int) : 0 ≤ crcByte r z ∧ crcByte r z ≤ 4294967295 := crcBits_fits 8 _ (xor32 r z).1 (xor32 r z).2
theorem crcAll_snoc (zs : List Int) (z : Int) : crcAll (zs ++ [z]) = crcByte (crcAll zs) z := by simp [crcAll]
theorem crcAll_fits (zs : List Int) : 0 ≤ crcAll zs ∧ crcAll zs ≤ 4294967295 := by
  rcases List.eq_nil_or_concat zs with h | ⟨l, z, h⟩
  · subst h; simp [crcAll]
  · subst h; rw [List.concat_eq_append, crcAll_snoc]; exact crcByte_fits _ _
theorem crcAll_take (zs : List Int) (k : Nat) (h : k < zs.length) : crcAll (zs.take (k + 1)) = crcByte (crcAll (zs.take k)) (zs.getD k 0) := by
  rw [List.take_succ_eq_append_getElem h, crcAll_snoc]
  simp [h]

theorem specCrc (a : Option Addr) (zs : List Int) (cap : Nat) (w : World) (hz : Ints .u8 w a zs) (hv : ∀ x ∈ zs, 0 ≤ x ∧ x ≤ 255) (hl : zs.length ≤ 1048576) :
    Calls Tryd.prog 33 #[.slice a zs.length cap] w fun e w' => e = .returned (.int .u32 (crcOf zs)) ∧ w' = w := by
  go_enter Tryd.func33, Tryd.ntmps33
  go_wp2
  go_loop [3, 4] (fun r i => ∃ k : Nat, k ≤ zs.length ∧ i = .int .i64 k ∧ r = .int .u32 (crcAll (zs.take k))) (fun _ i => zs.length - (intOf i).toNat)
  case atStart => exact ⟨0, Nat.zero_le _, rfl, rfl⟩
  case round =>
    obtain ⟨k, hk, rfl, rfl⟩ := hrel
    have hfit := crcAll_fits (zs.take k)
    by_cases hlt : k < zs.length
    · rcases hz with h | ⟨b, off, rfl, hc⟩
      · simp [h] at hlt
      · obtain ⟨c, hn, c0, c1, hcell⟩ := byteAt hv hc hlt
        have hx := xor32 (crcAll (zs.take k)) c
        clear hc hv
        go_wp2
        go_loop [3, 5] (fun r j => ∃ m : Nat, m ≤ 8 ∧ j = .int .i64 m ∧ r = .int .u32 (crcBits m (bits .xor .u32 (crcAll (zs.take k)) c))) (fun _ j => 8 - (intOf j).toNat)
        case atStart => exact ⟨0, Nat.zero_le _, rfl, rfl⟩
        case round =>
          obtain ⟨m, hm, rfl, rfl⟩ := hrel
          have hf := crcBits_fits m _ hx.1 hx.2
          by_cases hm8 : m < 8
          · go_wp2
            · go_round
              case rel => exact ⟨m + 1, by omega, by go_num, by rw [crcBit_yes ‹_›]; rfl⟩
              case measure => simp [intOf]; omega
            · go_round
              case rel => exact ⟨m + 1, by omega, by go_num, by rw [crcBit_no ‹_›]; rfl⟩
              case measure => simp [intOf]; omega
          · go_wp2
            go_round
            case rel =>
              have : m = 8 := by omega
              subst this
              exact ⟨k + 1, by omega, by go_num, by rw [crcAll_take zs k hlt, hn.out]; rfl⟩
            case measure => simp [intOf]; omega
    · go_wp2
      go_ret
      exact ⟨ret_int (by unfold crcOf; rw [List.take_of_length_le (by omega)]), rfl⟩

theorem implCrc (a : Option Addr) (zs : List Int) (cap : Nat) (w : World) (hz : Ints .u8 w a zs) (hv : ∀ x ∈ zs, 0 ≤ x ∧ x ≤ 255) (hl : zs.length ≤ 1048576) :
    Calls Tryd.prog 24 #[.slice a zs.length cap] w fun e w' => e = .returned (.int .u32 (crcOf zs)) ∧ w' = w := by
  go_enter Tryd.func24, Tryd.ntmps24
  go_wp2
  go_loop [3, 8] (fun r i => ∃ k : Nat, k ≤ zs.length ∧ i = .int .i64 k ∧ r = .int .u32 (crcAll (zs.take k))) (fun _ i => zs.length - (intOf i).toNat)
  case atStart => exact ⟨0, Nat.zero_le _, rfl, rfl⟩
  case round =>
    obtain ⟨k, hk, rfl, rfl⟩ := hrel
    have hfit := crcAll_fits (zs.take k)
    by_cases hlt : k < zs.length
    · rcases hz with h | ⟨b, off, rfl, hc⟩
      · simp [h] at hlt
      · obtain ⟨c, hn, c0, c1, hcell⟩ := byteAt hv hc hlt
        have hx := xor32 (crcAll (zs.take k)) c
        clear hc hv
        go_wp2
        go_loop [3, 16] (fun r j => ∃ m : Nat, m ≤ 8 ∧ j = .int .i64 m ∧ r = .int .u32 (crcBits m (bits .xor .u32 (crcAll (zs.take k)) c))) (fun _ j => 8 - (intOf j).toNat)
        case atStart => exact ⟨0, Nat.zero_le _, rfl, rfl⟩
        case round =>
          obtain ⟨m, hm, rfl, rfl⟩ := hrel
          have hf := crcBits_fits m _ hx.1 hx.2
          by_cases hm8 : m < 8
          · go_wp2
            · go_round
              case rel => exact ⟨m + 1, by omega, by go_num, by rw [crcBit_yes ‹_›]; rfl⟩
              case measure => simp [intOf]; omega
            · go_round
              case rel => exact ⟨m + 1, by omega, by go_num, by rw [crcBit_no ‹_›]; rfl⟩
              case measure => simp [intOf]; omega
          · go_wp2
            go_round
            case rel =>
              have : m = 8 := by omega
              subst this
              exact ⟨k + 1, by omega, by go_num, by rw [crcAll_take zs k hlt, hn.out]; rfl⟩
            case measure => simp [intOf]; omega
    · go_wp2
      go_ret
      exact ⟨ret_int (by unfold crcOf; rw [List.take_of_length_le (by omega)]), rfl⟩

end Go.Proofs.YthgggmkljnghmaaDoor
