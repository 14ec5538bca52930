import Derived.Test.YthgggmkljnghmaaDoorWireCheck2
import Derived.Test.YthgggmkljnghmaaDoorFrameLaw
import Derived.WalkSmall
namespace Go.Proofs.YthgggmkljnghmaaDoor
open Go.ChangeShapes Go.WideShapes Go.ChangeAt Go.RowKit
set_option linter.unusedVariables false

/-- The number that bytes lay down, the highest first. -/
def ofBe (l : List Int) : Int := l.foldl (fun x b => x * 256 + b) 0
theorem ofBe_snoc (l : List Int) (b : Int) : ofBe (l ++ [b]) = ofBe l * 256 + b := by simp [ofBe]
theorem ofBe_go (l : List Int) (x : Int) (k : Nat) (hx : 0 ≤ x) (hx2 : x < 256 ^ k) (h : ∀ x ∈ l, 0 ≤ x ∧ x ≤ 255) : 0 ≤ l.foldl (fun x b => x * 256 + b) x ∧ l.foldl (fun x b => x * 256 + b) x < 256 ^ (k + l.length) := by
  induction l generalizing x k with
  | nil => exact ⟨hx, hx2⟩
  | cons b l ih =>
    have h2 := h b (by simp)
    have e : (256 : Int) ^ (k + 1) = 256 ^ k * 256 := Int.pow_succ _ _
    have := ih (x * 256 + b) (k + 1) (by omega) (by rw [e]; omega) (fun y hy => h y (by simp [hy]))
    simp only [List.foldl_cons, List.length_cons]
    rw [show k + (l.length + 1) = k + 1 + l.length by omega]
    exact this
theorem ofBe_fits (l : List Int) (h : ∀ x ∈ l, 0 ≤ x ∧ x ≤ 255) : 0 ≤ ofBe l ∧ ofBe l < 256 ^ l.length := by
  have := ofBe_go l 0 0 (by omega) (by simp) h
  rw [Nat.zero_add] at this
  exact this
theorem ofBe_take (l : List Int) (k : Nat) (h : k < l.length) : ofBe (l.take (k + 1)) = ofBe (l.take k) * 256 + l.getD k 0 := by
  rw [List.take_succ_eq_append_getElem h, ofBe_snoc]
  simp [h]

theorem Ints.take {k : IntKind} {w : World} {a : Option Addr} {zs : List Int} (h : Ints k w a zs) (m : Nat) : Ints k w a (zs.take m) := by
  rcases h with h | ⟨b, off, ha, hc⟩
  · exact .inl (by simp [h])
  · refine .inr ⟨b, off, ha, fun i hi => ?_⟩
    simp only [List.length_take] at hi
    rw [hc i (by omega)]
    simp [show i < m by omega]
theorem Ints.drop {k : IntKind} {w : World} {a : Option Addr} {zs : List Int} (h : Ints k w a zs) (m cap : Nat) (hcap : zs.length ≤ cap) : Ints k w (if cap = m then a else a.map (·.add m)) (zs.drop m) := by
  by_cases hm : m < zs.length
  · rcases h with h | ⟨b, off, rfl, hc⟩
    · simp [h] at hm
    · rw [if_neg (by omega)]
      refine .inr ⟨b, off + m, ?_, fun i hi => ?_⟩
      · simp [Addr.add]
      · simp only [List.length_drop] at hi
        rw [Nat.add_assoc, hc (m + i) (by omega)]
        simp
  · exact .inl (by simp; omega)

theorem Ints.ne {k : IntKind} {W : World} {a : Option Addr} {zs : List Int} {C : Nat} (h : Ints k W a zs) (hC : W.heap.size ≤ C) : ∀ i, i < zs.length → ∀ b off, a = some ⟨b, off, none⟩ → b ≠ C := by
  intro i hi b off ha
  rcases h with h | ⟨b', off', ha', hc⟩
  · simp [h] at hi
  · rw [ha'] at ha
    simp at ha
    have : b' < W.heap.size := World.block_lt_of_cell? W _ (hc i hi)
    omega

theorem take_ok (C : Nat) (a : Option Addr) (n cap m : Nat) (w : World) (hc : w.cell? ⟨C, 0, none⟩ = some (.slice a n cap)) (hf : w.frozen? ⟨C, 0, none⟩ = false) (hm : m ≤ n) (hcap : n ≤ cap) (hl : n ≤ 1048576) :
    Calls Tryd.prog 56 #[.pointer (some ⟨C, 0, none⟩), .int .i64 m] w fun e w' => e = .returned (.slice a m cap) ∧ w' = w.setCell ⟨C, 0, none⟩ (.slice (if cap = m then a else a.map (·.add m)) (n - m) (cap - m)) := by
  go_enter Tryd.func56, Tryd.ntmps56
  go_wp2
  all_goals (go_ret; exact ⟨rfl, rfl⟩)
theorem take_short (C : Nat) (a : Option Addr) (n cap m : Nat) (w : World) (hc : w.cell? ⟨C, 0, none⟩ = some (.slice a n cap)) (hm : n < m) (hl : m ≤ 1048576) :
    Calls Tryd.prog 56 #[.pointer (some ⟨C, 0, none⟩), .int .i64 m] w fun e w' => e = .panicked [{ v := .iface 70 (.agg #[.int .i64 2]), recovered := false }] ∧ w' = w := by
  go_enter Tryd.func56, Tryd.ntmps56
  go_wp2
  exact ⟨rfl, rfl, rfl⟩

/-- The cursor's rest behind m bytes. -/
def Next (a a2 : Option Addr) (n m cap : Nat) : Prop := (∀ W zs, Ints .u8 W a zs → zs.length = n → Ints .u8 W a2 (zs.drop m)) ∧ ((a = none → cap = 0) → a2 = none → cap - m = 0)
theorem next_of (a : Option Addr) (n m cap : Nat) (h : n ≤ cap) : Next a (if cap = m then a else a.map (·.add m)) n m cap := by
  constructor
  · intro W zs hz hn
    exact hz.drop m cap (by omega)
  · intro h0 h1
    split at h1
    · omega
    · cases a with
      | none => have := h0 rfl; omega
      | some x => simp at h1

theorem or_byte (x b : Int) (x0 : 0 ≤ x) (x1 : x < 72057594037927936) (b0 : 0 ≤ b) (b1 : b ≤ 255) : bits .or .u64 (x * 256) b = x * 256 + b := by
  rw [u64_or _ _ (by omega) (by omega) (by omega) (by omega)]
  have e1 : (x * 256).toNat = x.toNat <<< 8 := by rw [Nat.shiftLeft_eq]; omega
  rw [e1, ← Nat.shiftLeft_add_eq_or_of_lt (by omega), Nat.shiftLeft_eq]
  omega
theorem ofBe_lt (l : List Int) (h : ∀ x ∈ l, 0 ≤ x ∧ x ≤ 255) (k : Nat) (hl : l.length ≤ k) (N : Nat) (hN : 256 ^ k = N) : 0 ≤ ofBe l ∧ ofBe l < N := by
  have h1 := ofBe_fits l h
  have h2 : (256 : Nat) ^ l.length ≤ 256 ^ k := Nat.pow_le_pow_right (by decide) hl
  have h3 : (256 : Int) ^ l.length = ((256 ^ l.length : Nat) : Int) := by simp
  rw [h3] at h1
  rw [hN] at h2
  omega

set_option maxHeartbeats 1000000 in
theorem number_ok (C : Nat) (a : Option Addr) (zs : List Int) (n cap m n' cap' : Nat) (w W : World) (hc : w.cell? ⟨C, 0, none⟩ = some (.slice a n cap)) (hf : w.frozen? ⟨C, 0, none⟩ = false) (hzW : Ints .u8 W a zs) (hWw : Below W.heap.size W w) (hCW : W.heap.size ≤ C) (hn : zs.length = n) (hzv : ∀ x ∈ zs, 0 ≤ x ∧ x ≤ 255) (hn' : n = n' + m) (hm8 : m ≤ 8) (hc' : cap = cap' + m) (hcap : n ≤ cap) (hl : n ≤ 1048576) :
    Calls Tryd.prog 48 #[.pointer (some ⟨C, 0, none⟩), .int .i64 m] w fun e w' => ∃ a2, e = .returned (.int .u64 (ofBe (zs.take m))) ∧ w' = w.setCell ⟨C, 0, none⟩ (.slice a2 n' cap') ∧ Next a a2 n m cap := by
  obtain rfl : n' = n - m := by omega
  obtain rfl : cap' = cap - m := by omega
  have hm : m ≤ n := by omega
  have hz := hzW.moved hWw
  have hne := hzW.ne hCW
  clear hzW hWw hCW hn' hc'
  have hnx := next_of a n m cap hcap
  obtain ⟨a2, ha2⟩ : ∃ a2, (if cap = m then a else a.map (·.add m)) = a2 := ⟨_, rfl⟩
  have htk := take_ok C a n cap m w hc hf hm hcap hl
  rw [ha2] at hnx htk
  clear ha2
  have hcl : ∀ i, i < m → ∃ c, Hid (zs.getD i 0 = c) := fun i _ => ⟨_, rfl⟩
  go_enter Tryd.func48, Tryd.ntmps48
  go_wp2_with (go_at_call 56; refine htk.mono ?_; rintro e w1 ⟨rfl, rfl⟩)
  go_loop [5, 12] (fun x i => ∃ k : Nat, k ≤ m ∧ i = .int .i64 k ∧ x = .int .u64 (ofBe (zs.take k))) (fun _ i => m - (intOf i).toNat)
  case atStart => exact ⟨0, Nat.zero_le _, rfl, rfl⟩
  case round =>
    obtain ⟨k, hk, rfl, rfl⟩ := hrel
    by_cases hlt : k < m
    · rcases hz with h | ⟨b, off, rfl, hcz⟩
      · simp [h] at hn; omega
      · have hb := hne k (by omega) b off rfl
        obtain ⟨c, hnc, c0, c1, hcell⟩ := byteAt hzv hcz (show k < zs.length by omega)
        have hcell2 : (w.setCell ⟨C, 0, none⟩ (.slice a2 (n - m) (cap - m))).cell? ⟨b, off + k, none⟩ = some (.int .u8 c) :=
          (World.cell?_of_block (a := ⟨b, off + k, none⟩) (heap_setCell_other w ⟨C, 0, none⟩ b _ (fun e => hb e))).trans hcell
        have hfit := ofBe_lt (zs.take k) (fun x hx => hzv x (List.mem_of_mem_take hx)) 7 (by simp; omega) 72057594037927936 (by decide)
        have hor := or_byte (ofBe (zs.take k)) c hfit.1 (by omega) c0 c1
        have hstep := ofBe_take zs k (by omega)
        rw [hnc.out] at hstep
        have HS : Hid _ := hstep
        obtain ⟨X, hX⟩ : ∃ X, ofBe (zs.take k) = X := ⟨_, rfl⟩
        rw [hX] at hor hfit HS ⊢
        clear hstep hX hcz hzv
        go_wp2
        go_round
        case rel => exact ⟨k + 1, by omega, by go_num, by rw [HS.out]⟩
        case measure => simp [intOf]; omega
    · go_wp2
      go_ret
      have : k = m := by omega
      subst this
      exact ⟨rfl, a2, rfl, hnx⟩

theorem number_short (C : Nat) (a : Option Addr) (n cap m : Nat) (w : World) (hc : w.cell? ⟨C, 0, none⟩ = some (.slice a n cap)) (hm : n < m) (hl : m ≤ 1048576) :
    Calls Tryd.prog 48 #[.pointer (some ⟨C, 0, none⟩), .int .i64 m] w fun e w' => e = .panicked [{ v := .iface 70 (.agg #[.int .i64 2]), recovered := false }] ∧ w' = w := by
  go_enter Tryd.func48, Tryd.ntmps48
  go_wp2_with (go_at_call 56; refine (take_short C a n cap m w hc hm hl).mono ?_; rintro e w1 ⟨rfl, rfl⟩)
  exact ⟨rfl, rfl, rfl⟩

theorem bytes_short (C : Nat) (a : Option Addr) (n cap m : Nat) (w : World) (hc : w.cell? ⟨C, 0, none⟩ = some (.slice a n cap)) (hm : n < m) (hl : m ≤ 1048576) :
    Calls Tryd.prog 49 #[.pointer (some ⟨C, 0, none⟩), .int .i64 m] w fun e w' => e = .panicked [{ v := .iface 70 (.agg #[.int .i64 2]), recovered := false }] ∧ w' = w := by
  go_enter Tryd.func49, Tryd.ntmps49
  go_wp2_with (go_at_call 56; refine (take_short C a n cap m w hc hm hl).mono ?_; rintro e w1 ⟨rfl, rfl⟩)
  exact ⟨rfl, rfl, rfl⟩

theorem bytes_ok (C : Nat) (a : Option Addr) (zs : List Int) (n cap m n' cap' : Nat) (w W : World) (hc : w.cell? ⟨C, 0, none⟩ = some (.slice a n cap)) (hf : w.frozen? ⟨C, 0, none⟩ = false) (hzW : Ints .u8 W a zs) (hWw : Below W.heap.size W w) (hCW : W.heap.size ≤ C) (hn : zs.length = n) (hno : a = none → cap = 0) (hn' : n = n' + m) (hc' : cap = cap' + m) (hcap : n ≤ cap) (hl : n ≤ 1048576) :
    Calls Tryd.prog 49 #[.pointer (some ⟨C, 0, none⟩), .int .i64 m] w fun e w' => ∃ a2 av cp, e = .returned (.slice av m cp) ∧ w'.ownsRow w.heap.size 5 1 (.slice av m cp) m ((zs.take m).map (.int .u8)) ∧ (w.setCell ⟨C, 0, none⟩ (.slice a2 n' cap')).grownBy w' none ∧ Next a a2 n m cap := by
  obtain rfl : n' = n - m := by omega
  obtain rfl : cap' = cap - m := by omega
  have hm : m ≤ n := by omega
  have hz := hzW.moved hWw
  have hne := hzW.ne hCW
  clear hzW hWw hCW hn' hc'
  have hnx := next_of a n m cap hcap
  obtain ⟨a2, ha2⟩ : ∃ a2, (if cap = m then a else a.map (·.add m)) = a2 := ⟨_, rfl⟩
  have htk := take_ok C a n cap m w hc hf hm hcap hl
  rw [ha2] at hnx htk
  clear ha2
  have hzt : Ints .u8 (w.setCell ⟨C, 0, none⟩ (.slice a2 (n - m) (cap - m))) a (zs.take m) := by
    rcases hz.take m with h | ⟨b, off, rfl, hcz⟩
    · exact .inl h
    · exact .inr ⟨b, off, rfl, fun i hi => (World.cell?_of_block (a := ⟨b, off + i, none⟩) (heap_setCell_other w ⟨C, 0, none⟩ b _ (fun e => hne i (by simp at hi; omega) b off rfl e))).trans (hcz i hi)⟩
  have htl : (zs.take m).length = m := by simp; omega
  go_enter Tryd.func49, Tryd.ntmps49
  go_wp2_with (first
    | (go_at_call 56; refine htk.mono ?_; rintro e w1 ⟨rfl, rfl⟩)
    | (at_builtin; refine wpList_appI _ (by rfl) _ _ (by rfl) w.heap.size none 0 0 [] rfl (by rfl) (World.ownsRow_nil _ _ _ _) a (zs.take m) m cap htl (by rfl) hno hzt (by omega) (by simp) ?_; intro av cp w2 ho hg))
  go_ret
  refine ⟨a2, av, cp, by simp, by simpa using ho, ?_, hnx⟩
  exact hg
end Go.Proofs.YthgggmkljnghmaaDoor
