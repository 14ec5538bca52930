import Derived.Test.YtgjcdejiolenkaaSpanSet
namespace Go.Proofs.Ytgjcdejiolenkaa
open Go.ChangeShapes Go.WideShapes Go.ChangeAt Go.RowKit
set_option linter.unusedVariables false

/-- What the search knows between lo and hi. -/
structure Between (S : Sp) (pass : Int × Int → Bool) (l h : Nat) : Prop where
  le : l ≤ h
  top : h ≤ S.length
  no : ∀ i, ∀ hi : i < S.length, i < l → pass S[i] = false
  yes : ∀ i, ∀ hi : i < S.length, h ≤ i → pass S[i] = true

def Mono (S : Sp) (pass : Int × Int → Bool) : Prop := ∀ i j, ∀ hi : i < S.length, ∀ hj : j < S.length, i ≤ j → pass S[i] = true → pass S[j] = true

theorem Between.start (S : Sp) (pass : Int × Int → Bool) : Between S pass 0 S.length := ⟨Nat.zero_le _, Nat.le_refl _, fun i _ h => by omega, fun i hi h => by omega⟩
theorem Between.up {S : Sp} {pass : Int × Int → Bool} {l h m : Nat} (b : Between S pass l h) (hm : Mono S pass) (h1 : l ≤ m) (h2 : m < h) (hl : m < S.length) (hp : pass S[m] = false) : Between S pass (m + 1) h := by
  refine ⟨by omega, b.top, fun i hi hlt => ?_, b.yes⟩
  cases e : pass S[i] with
  | false => rfl
  | true =>
    have := hm i m hi hl (by omega) e
    rw [hp] at this
    cases this
theorem Between.down {S : Sp} {pass : Int × Int → Bool} {l h m : Nat} (b : Between S pass l h) (hm : Mono S pass) (h1 : l ≤ m) (h2 : m < h) (hl : m < S.length) (hp : pass S[m] = true) : Between S pass l m :=
  ⟨h1, by have := b.top; omega, b.no, fun i hi hle => hm m i hl hi hle hp⟩
theorem Between.done {S : Sp} {pass : Int × Int → Bool} {l h : Nat} (b : Between S pass l h) (hh : ¬ l < h) : Place S pass l := by
  have e : l = h := by have := b.le; omega
  subst e
  exact ⟨b.top, b.no, b.yes⟩
theorem midInt (l h : Nat) (hle : l < h) : (l : Int) + ((h : Int) - (l : Int)) / 2 = ((l + (h - l) / 2 : Nat) : Int) := by omega

theorem clOver1 (c d : Int) (bs : Nat) (v : Int) (w : World) (hp : w.cell? ⟨bs, 0, none⟩ = some (.int .u64 v)) :
    Calls Try.prog 42 #[.agg #[.int .u64 c, .int .u64 d], .pointer (some ⟨bs, 0, none⟩)] w fun e w' => e = .returned (.bool (decide (v < d))) ∧ Below w.heap.size w w' := by
  have hlt := World.block_lt_of_cell? w _ hp
  go_enter Try.func42, Try.ntmps42
  go_wp2
  go_ret
  exact ⟨rfl, (Below.refl _ _).alloc (Nat.le_refl _) _⟩

theorem clOver1As (c d : Int) (bs : Nat) (v : Int) (r : Bool) (w : World) (hp : w.cell? ⟨bs, 0, none⟩ = some (.int .u64 v)) (h : decide (v < d) = r) :
    Calls Try.prog 42 #[.agg #[.int .u64 c, .int .u64 d], .pointer (some ⟨bs, 0, none⟩)] w fun e w' => e = .returned (.bool r) ∧ Below w.heap.size w w' := by
  subst h
  exact clOver1 c d bs v w hp

set_option maxHeartbeats 1000000 in
theorem placeOver1 (a : Option Addr) (S : Sp) (cap : Nat) (bs : Nat) (v : Int) (w : World) (hS : Spans w a S) (hf : Fits S) (hl : S.length ≤ 1000) (hp : w.cell? ⟨bs, 0, none⟩ = some (.int .u64 v)) (hm : Mono S (fun p => decide (v < p.2))) :
    Calls Try.prog 34 #[.slice a S.length cap, .func (.func 42) #[] #[.pointer (some ⟨bs, 0, none⟩)]] w fun e w' => ∃ k : Nat, e = .returned (.int .i64 k) ∧ Place S (fun p => decide (v < p.2)) k ∧ Below w.heap.size w w' := by
  go_enter Try.func34, Try.ntmps34
  go_wp2
  go_loopw [5, 6] (fun x y wr => ∃ l h : Nat, x = .int .i64 l ∧ y = .int .i64 h ∧ Between S (fun p => decide (v < p.2)) l h ∧ Below w.heap.size w wr) (fun x y _ => (intOf y - intOf x).toNat)
  case atStart => exact ⟨0, S.length, rfl, rfl, Between.start _ _, Below.refl _ _⟩
  case round =>
    obtain ⟨l, h, rfl, rfl, hbt, hb⟩ := hrel
    have hle := hbt.le
    have htop := hbt.top
    by_cases hlt : l < h
    · rcases hS with h0 | ⟨b, off, rfl, hc⟩
      · simp [h0] at htop; omega
      obtain ⟨m, hme⟩ : ∃ m, l + (h - l) / 2 = m := ⟨_, rfl⟩
      have hmi := midInt l h hlt
      rw [hme] at hmi
      have m1 : l ≤ m := by omega
      have m2 : m < h := by omega
      have m3 : m < S.length := by omega
      obtain ⟨c, d, hn, c0, c1, d0, d1, q1, q2⟩ := Spans.at hf hc m3
      have r1 : wr.cell? ⟨b, off + m * 2, none⟩ = some (.int .u64 c) := by rw [hb.cell (World.block_lt_of_cell? w _ q1)]; exact q1
      have r2 : wr.cell? ⟨b, off + m * 2 + 1, none⟩ = some (.int .u64 d) := by rw [hb.cell (World.block_lt_of_cell? w _ q2)]; exact q2
      have r3 : wr.cell? ⟨bs, 0, none⟩ = some (.int .u64 v) := by rw [hb.cell (World.block_lt_of_cell? w _ hp)]; exact hp
      have HB : Hid (Between S (fun p => decide (v < p.2)) l h) := hbt
      clear hme hbt hc q1 q2
      by_cases hpr : v < d
      · have hd : decide (v < d) = true := by simpa using hpr
        have hfin : Between S (fun p => decide (v < p.2)) l m := HB.out.down hm m1 m2 m3 (by rw [hn.out]; exact hd)
        clear HB hn hm
        go_wp2_with (go_at_call 42; refine (clOver1As c d bs v true _ r3 hd).mono ?_; rintro e w2 ⟨rfl, hb2⟩)
        go_roundw
        case rel => exact ⟨l, m, rfl, rfl, hfin, hb.trans (hb2.mono hb.size)⟩
        case measure => simp [intOf]; omega
      · have hd : decide (v < d) = false := by simpa using hpr
        have hfin : Between S (fun p => decide (v < p.2)) (m + 1) h := HB.out.up hm m1 m2 m3 (by rw [hn.out]; exact hd)
        clear HB hn hm
        go_wp2_with (go_at_call 42; refine (clOver1As c d bs v false _ r3 hd).mono ?_; rintro e w2 ⟨rfl, hb2⟩)
        go_roundw
        case rel => exact ⟨m + 1, h, by go_num, rfl, hfin, hb.trans (hb2.mono hb.size)⟩
        case measure => simp [intOf]; omega
    · go_wp2
      go_ret
      exact ⟨l, rfl, hbt.done hlt, hb⟩

theorem clOver2 (c d : Int) (bs : Nat) (v : Int) (w : World) (hp : w.cell? ⟨bs, 1, none⟩ = some (.int .u64 v)) :
    Calls Try.prog 43 #[.agg #[.int .u64 c, .int .u64 d], .pointer (some ⟨bs, 0, none⟩)] w fun e w' => e = .returned (.bool (decide (v ≤ c))) ∧ Below w.heap.size w w' := by
  have hlt := World.block_lt_of_cell? w _ hp
  go_enter Try.func43, Try.ntmps43
  go_wp2
  go_ret
  exact ⟨rfl, (Below.refl _ _).alloc (Nat.le_refl _) _⟩

theorem clOver2As (c d : Int) (bs : Nat) (v : Int) (r : Bool) (w : World) (hp : w.cell? ⟨bs, 1, none⟩ = some (.int .u64 v)) (h : decide (v ≤ c) = r) :
    Calls Try.prog 43 #[.agg #[.int .u64 c, .int .u64 d], .pointer (some ⟨bs, 0, none⟩)] w fun e w' => e = .returned (.bool r) ∧ Below w.heap.size w w' := by
  subst h
  exact clOver2 c d bs v w hp

set_option maxHeartbeats 1000000 in
theorem placeOver2 (a : Option Addr) (S : Sp) (cap : Nat) (bs : Nat) (v : Int) (w : World) (hS : Spans w a S) (hf : Fits S) (hl : S.length ≤ 1000) (hp : w.cell? ⟨bs, 1, none⟩ = some (.int .u64 v)) (hm : Mono S (fun p => decide (v ≤ p.1))) :
    Calls Try.prog 34 #[.slice a S.length cap, .func (.func 43) #[] #[.pointer (some ⟨bs, 0, none⟩)]] w fun e w' => ∃ k : Nat, e = .returned (.int .i64 k) ∧ Place S (fun p => decide (v ≤ p.1)) k ∧ Below w.heap.size w w' := by
  go_enter Try.func34, Try.ntmps34
  go_wp2
  go_loopw [5, 6] (fun x y wr => ∃ l h : Nat, x = .int .i64 l ∧ y = .int .i64 h ∧ Between S (fun p => decide (v ≤ p.1)) l h ∧ Below w.heap.size w wr) (fun x y _ => (intOf y - intOf x).toNat)
  case atStart => exact ⟨0, S.length, rfl, rfl, Between.start _ _, Below.refl _ _⟩
  case round =>
    obtain ⟨l, h, rfl, rfl, hbt, hb⟩ := hrel
    have hle := hbt.le
    have htop := hbt.top
    by_cases hlt : l < h
    · rcases hS with h0 | ⟨b, off, rfl, hc⟩
      · simp [h0] at htop; omega
      obtain ⟨m, hme⟩ : ∃ m, l + (h - l) / 2 = m := ⟨_, rfl⟩
      have hmi := midInt l h hlt
      rw [hme] at hmi
      have m1 : l ≤ m := by omega
      have m2 : m < h := by omega
      have m3 : m < S.length := by omega
      obtain ⟨c, d, hn, c0, c1, d0, d1, q1, q2⟩ := Spans.at hf hc m3
      have r1 : wr.cell? ⟨b, off + m * 2, none⟩ = some (.int .u64 c) := by rw [hb.cell (World.block_lt_of_cell? w _ q1)]; exact q1
      have r2 : wr.cell? ⟨b, off + m * 2 + 1, none⟩ = some (.int .u64 d) := by rw [hb.cell (World.block_lt_of_cell? w _ q2)]; exact q2
      have r3 : wr.cell? ⟨bs, 1, none⟩ = some (.int .u64 v) := by rw [hb.cell (World.block_lt_of_cell? w _ hp)]; exact hp
      have HB : Hid (Between S (fun p => decide (v ≤ p.1)) l h) := hbt
      clear hme hbt hc q1 q2
      by_cases hpr : v ≤ c
      · have hd : decide (v ≤ c) = true := by simpa using hpr
        have hfin : Between S (fun p => decide (v ≤ p.1)) l m := HB.out.down hm m1 m2 m3 (by rw [hn.out]; exact hd)
        clear HB hn hm
        go_wp2_with (go_at_call 43; refine (clOver2As c d bs v true _ r3 hd).mono ?_; rintro e w2 ⟨rfl, hb2⟩)
        go_roundw
        case rel => exact ⟨l, m, rfl, rfl, hfin, hb.trans (hb2.mono hb.size)⟩
        case measure => simp [intOf]; omega
      · have hd : decide (v ≤ c) = false := by simpa using hpr
        have hfin : Between S (fun p => decide (v ≤ p.1)) (m + 1) h := HB.out.up hm m1 m2 m3 (by rw [hn.out]; exact hd)
        clear HB hn hm
        go_wp2_with (go_at_call 43; refine (clOver2As c d bs v false _ r3 hd).mono ?_; rintro e w2 ⟨rfl, hb2⟩)
        go_roundw
        case rel => exact ⟨m + 1, h, by go_num, rfl, hfin, hb.trans (hb2.mono hb.size)⟩
        case measure => simp [intOf]; omega
    · go_wp2
      go_ret
      exact ⟨l, rfl, hbt.done hlt, hb⟩

theorem clAdd1 (c d : Int) (bs : Nat) (v : Int) (w : World) (hp : w.cell? ⟨bs, 0, none⟩ = some (.int .u64 v)) :
    Calls Try.prog 35 #[.agg #[.int .u64 c, .int .u64 d], .pointer (some ⟨bs, 0, none⟩)] w fun e w' => e = .returned (.bool (decide (v ≤ d))) ∧ Below w.heap.size w w' := by
  have hlt := World.block_lt_of_cell? w _ hp
  go_enter Try.func35, Try.ntmps35
  go_wp2
  go_ret
  exact ⟨rfl, (Below.refl _ _).alloc (Nat.le_refl _) _⟩

theorem clAdd1As (c d : Int) (bs : Nat) (v : Int) (r : Bool) (w : World) (hp : w.cell? ⟨bs, 0, none⟩ = some (.int .u64 v)) (h : decide (v ≤ d) = r) :
    Calls Try.prog 35 #[.agg #[.int .u64 c, .int .u64 d], .pointer (some ⟨bs, 0, none⟩)] w fun e w' => e = .returned (.bool r) ∧ Below w.heap.size w w' := by
  subst h
  exact clAdd1 c d bs v w hp

set_option maxHeartbeats 1000000 in
theorem placeAdd1 (a : Option Addr) (S : Sp) (cap : Nat) (bs : Nat) (v : Int) (w : World) (hS : Spans w a S) (hf : Fits S) (hl : S.length ≤ 1000) (hp : w.cell? ⟨bs, 0, none⟩ = some (.int .u64 v)) (hm : Mono S (fun p => decide (v ≤ p.2))) :
    Calls Try.prog 34 #[.slice a S.length cap, .func (.func 35) #[] #[.pointer (some ⟨bs, 0, none⟩)]] w fun e w' => ∃ k : Nat, e = .returned (.int .i64 k) ∧ Place S (fun p => decide (v ≤ p.2)) k ∧ Below w.heap.size w w' := by
  go_enter Try.func34, Try.ntmps34
  go_wp2
  go_loopw [5, 6] (fun x y wr => ∃ l h : Nat, x = .int .i64 l ∧ y = .int .i64 h ∧ Between S (fun p => decide (v ≤ p.2)) l h ∧ Below w.heap.size w wr) (fun x y _ => (intOf y - intOf x).toNat)
  case atStart => exact ⟨0, S.length, rfl, rfl, Between.start _ _, Below.refl _ _⟩
  case round =>
    obtain ⟨l, h, rfl, rfl, hbt, hb⟩ := hrel
    have hle := hbt.le
    have htop := hbt.top
    by_cases hlt : l < h
    · rcases hS with h0 | ⟨b, off, rfl, hc⟩
      · simp [h0] at htop; omega
      obtain ⟨m, hme⟩ : ∃ m, l + (h - l) / 2 = m := ⟨_, rfl⟩
      have hmi := midInt l h hlt
      rw [hme] at hmi
      have m1 : l ≤ m := by omega
      have m2 : m < h := by omega
      have m3 : m < S.length := by omega
      obtain ⟨c, d, hn, c0, c1, d0, d1, q1, q2⟩ := Spans.at hf hc m3
      have r1 : wr.cell? ⟨b, off + m * 2, none⟩ = some (.int .u64 c) := by rw [hb.cell (World.block_lt_of_cell? w _ q1)]; exact q1
      have r2 : wr.cell? ⟨b, off + m * 2 + 1, none⟩ = some (.int .u64 d) := by rw [hb.cell (World.block_lt_of_cell? w _ q2)]; exact q2
      have r3 : wr.cell? ⟨bs, 0, none⟩ = some (.int .u64 v) := by rw [hb.cell (World.block_lt_of_cell? w _ hp)]; exact hp
      have HB : Hid (Between S (fun p => decide (v ≤ p.2)) l h) := hbt
      clear hme hbt hc q1 q2
      by_cases hpr : v ≤ d
      · have hd : decide (v ≤ d) = true := by simpa using hpr
        have hfin : Between S (fun p => decide (v ≤ p.2)) l m := HB.out.down hm m1 m2 m3 (by rw [hn.out]; exact hd)
        clear HB hn hm
        go_wp2_with (go_at_call 35; refine (clAdd1As c d bs v true _ r3 hd).mono ?_; rintro e w2 ⟨rfl, hb2⟩)
        go_roundw
        case rel => exact ⟨l, m, rfl, rfl, hfin, hb.trans (hb2.mono hb.size)⟩
        case measure => simp [intOf]; omega
      · have hd : decide (v ≤ d) = false := by simpa using hpr
        have hfin : Between S (fun p => decide (v ≤ p.2)) (m + 1) h := HB.out.up hm m1 m2 m3 (by rw [hn.out]; exact hd)
        clear HB hn hm
        go_wp2_with (go_at_call 35; refine (clAdd1As c d bs v false _ r3 hd).mono ?_; rintro e w2 ⟨rfl, hb2⟩)
        go_roundw
        case rel => exact ⟨m + 1, h, by go_num, rfl, hfin, hb.trans (hb2.mono hb.size)⟩
        case measure => simp [intOf]; omega
    · go_wp2
      go_ret
      exact ⟨l, rfl, hbt.done hlt, hb⟩

theorem clAdd2 (c d : Int) (bs : Nat) (v : Int) (w : World) (hp : w.cell? ⟨bs, 1, none⟩ = some (.int .u64 v)) :
    Calls Try.prog 36 #[.agg #[.int .u64 c, .int .u64 d], .pointer (some ⟨bs, 0, none⟩)] w fun e w' => e = .returned (.bool (decide (v < c))) ∧ Below w.heap.size w w' := by
  have hlt := World.block_lt_of_cell? w _ hp
  go_enter Try.func36, Try.ntmps36
  go_wp2
  go_ret
  exact ⟨rfl, (Below.refl _ _).alloc (Nat.le_refl _) _⟩

theorem clAdd2As (c d : Int) (bs : Nat) (v : Int) (r : Bool) (w : World) (hp : w.cell? ⟨bs, 1, none⟩ = some (.int .u64 v)) (h : decide (v < c) = r) :
    Calls Try.prog 36 #[.agg #[.int .u64 c, .int .u64 d], .pointer (some ⟨bs, 0, none⟩)] w fun e w' => e = .returned (.bool r) ∧ Below w.heap.size w w' := by
  subst h
  exact clAdd2 c d bs v w hp

set_option maxHeartbeats 1000000 in
theorem placeAdd2 (a : Option Addr) (S : Sp) (cap : Nat) (bs : Nat) (v : Int) (w : World) (hS : Spans w a S) (hf : Fits S) (hl : S.length ≤ 1000) (hp : w.cell? ⟨bs, 1, none⟩ = some (.int .u64 v)) (hm : Mono S (fun p => decide (v < p.1))) :
    Calls Try.prog 34 #[.slice a S.length cap, .func (.func 36) #[] #[.pointer (some ⟨bs, 0, none⟩)]] w fun e w' => ∃ k : Nat, e = .returned (.int .i64 k) ∧ Place S (fun p => decide (v < p.1)) k ∧ Below w.heap.size w w' := by
  go_enter Try.func34, Try.ntmps34
  go_wp2
  go_loopw [5, 6] (fun x y wr => ∃ l h : Nat, x = .int .i64 l ∧ y = .int .i64 h ∧ Between S (fun p => decide (v < p.1)) l h ∧ Below w.heap.size w wr) (fun x y _ => (intOf y - intOf x).toNat)
  case atStart => exact ⟨0, S.length, rfl, rfl, Between.start _ _, Below.refl _ _⟩
  case round =>
    obtain ⟨l, h, rfl, rfl, hbt, hb⟩ := hrel
    have hle := hbt.le
    have htop := hbt.top
    by_cases hlt : l < h
    · rcases hS with h0 | ⟨b, off, rfl, hc⟩
      · simp [h0] at htop; omega
      obtain ⟨m, hme⟩ : ∃ m, l + (h - l) / 2 = m := ⟨_, rfl⟩
      have hmi := midInt l h hlt
      rw [hme] at hmi
      have m1 : l ≤ m := by omega
      have m2 : m < h := by omega
      have m3 : m < S.length := by omega
      obtain ⟨c, d, hn, c0, c1, d0, d1, q1, q2⟩ := Spans.at hf hc m3
      have r1 : wr.cell? ⟨b, off + m * 2, none⟩ = some (.int .u64 c) := by rw [hb.cell (World.block_lt_of_cell? w _ q1)]; exact q1
      have r2 : wr.cell? ⟨b, off + m * 2 + 1, none⟩ = some (.int .u64 d) := by rw [hb.cell (World.block_lt_of_cell? w _ q2)]; exact q2
      have r3 : wr.cell? ⟨bs, 1, none⟩ = some (.int .u64 v) := by rw [hb.cell (World.block_lt_of_cell? w _ hp)]; exact hp
      have HB : Hid (Between S (fun p => decide (v < p.1)) l h) := hbt
      clear hme hbt hc q1 q2
      by_cases hpr : v < c
      · have hd : decide (v < c) = true := by simpa using hpr
        have hfin : Between S (fun p => decide (v < p.1)) l m := HB.out.down hm m1 m2 m3 (by rw [hn.out]; exact hd)
        clear HB hn hm
        go_wp2_with (go_at_call 36; refine (clAdd2As c d bs v true _ r3 hd).mono ?_; rintro e w2 ⟨rfl, hb2⟩)
        go_roundw
        case rel => exact ⟨l, m, rfl, rfl, hfin, hb.trans (hb2.mono hb.size)⟩
        case measure => simp [intOf]; omega
      · have hd : decide (v < c) = false := by simpa using hpr
        have hfin : Between S (fun p => decide (v < p.1)) (m + 1) h := HB.out.up hm m1 m2 m3 (by rw [hn.out]; exact hd)
        clear HB hn hm
        go_wp2_with (go_at_call 36; refine (clAdd2As c d bs v false _ r3 hd).mono ?_; rintro e w2 ⟨rfl, hb2⟩)
        go_roundw
        case rel => exact ⟨m + 1, h, by go_num, rfl, hfin, hb.trans (hb2.mono hb.size)⟩
        case measure => simp [intOf]; omega
    · go_wp2
      go_ret
      exact ⟨l, rfl, hbt.done hlt, hb⟩

theorem monoOver1 {S : Sp} (h : Norm S) (v : Int) : Mono S (fun p => decide (v < p.2)) := by
  intro i j hi hj hij hp
  have := h.hiUp hij hj
  simp at hp ⊢
  omega
theorem monoOver2 {S : Sp} (h : Norm S) (v : Int) : Mono S (fun p => decide (v ≤ p.1)) := by
  intro i j hi hj hij hp
  have := h.loUp hij hj
  simp at hp ⊢
  omega
theorem monoAdd1 {S : Sp} (h : Norm S) (v : Int) : Mono S (fun p => decide (v ≤ p.2)) := by
  intro i j hi hj hij hp
  have := h.hiUp hij hj
  simp at hp ⊢
  omega
theorem monoAdd2 {S : Sp} (h : Norm S) (v : Int) : Mono S (fun p => decide (v < p.1)) := by
  intro i j hi hj hij hp
  have := h.loUp hij hj
  simp at hp ⊢
  omega

theorem overlap_any (a : Option Addr) (S : Sp) (cap : Nat) (p q : Int) (w : World) (hS : Spans w a S) (hf : Fits S) (hl : S.length ≤ 1000) (hn : Norm S) :
    Calls Try.prog 31 #[.slice a S.length cap, .agg #[.int .u64 p, .int .u64 q]] w fun e w' => ∃ i j : Nat, e = .returned (.tuple #[.int .i64 i, .int .i64 j]) ∧ Place S (fun x => decide (p < x.2)) i ∧ Place S (fun x => decide (q ≤ x.1)) j ∧ Below w.heap.size w w' := by
  have hb0 : Below w.heap.size w (w.alloc (.cells #[.int .u64 p, .int .u64 q] 31)) := (Below.refl _ _).alloc (Nat.le_refl _) _
  have hS0 := hS.moved hb0
  obtain ⟨x0, x1⟩ := cell_alloc2 w (.int .u64 p) (.int .u64 q) 31 _ rfl
  go_enter Try.func31, Try.ntmps31
  go_wp2_with fail
  refine (placeOver1 a S cap w.heap.size p _ hS0 hf hl x0 (monoOver1 hn p)).mono ?_
  rintro e w1 ⟨i, rfl, hi, hb1⟩
  have hS1 := hS0.moved hb1
  have y1 := (hb1.cell (World.block_lt_of_cell? _ _ x1)).trans x1
  go_wp2_with fail
  refine (placeOver2 a S cap w.heap.size q _ hS1 hf hl y1 (monoOver2 hn q)).mono ?_
  rintro e w2 ⟨j, rfl, hj, hb2⟩
  go_wp2
  go_ret2
  have s1 := hb1.size
  simp at s1
  exact ⟨i, j, rfl, hi, hj, (hb0.trans (hb1.mono (by simp))).trans (hb2.mono (by omega))⟩
end Go.Proofs.Ytgjcdejiolenkaa
