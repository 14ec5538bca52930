import Derived.Test.YtlagaiekoahjnaaMapOK
import Derived.Test.YtlagaiekoahjnaaMapOK3
namespace Go.Proofs.Ytlagaiekoahjnaa
open Go.ChangeShapes Go.WideShapes Go.ChangeAt Go.RowKit
set_option linter.unusedVariables false

def ends (m : Mp) : Int := m.off + m.len + m.fin
def late (x : Int) (m : Mp) : Bool := decide (x < ends m)

/-- The first place that passes. -/
structure PlaceL {α : Type} (S : List α) (pass : α → Bool) (k : Nat) : Prop where
  le : k ≤ S.length
  no : ∀ i, ∀ hi : i < S.length, i < k → pass S[i] = false
  yes : ∀ i, ∀ hi : i < S.length, k ≤ i → pass S[i] = true
structure BetweenL {α : Type} (S : List α) (pass : α → Bool) (l h : Nat) : Prop where
  le : l ≤ h
  top : h ≤ S.length
  no : ∀ i, ∀ hi : i < S.length, i < l → pass S[i] = false
  yes : ∀ i, ∀ hi : i < S.length, h ≤ i → pass S[i] = true
def MonoL {α : Type} (S : List α) (pass : α → Bool) : Prop := ∀ i j, ∀ hi : i < S.length, ∀ hj : j < S.length, i ≤ j → pass S[i] = true → pass S[j] = true
theorem BetweenL.start {α : Type} (S : List α) (pass : α → Bool) : BetweenL S pass 0 S.length := ⟨Nat.zero_le _, Nat.le_refl _, fun i _ h => by omega, fun i hi h => by omega⟩
theorem BetweenL.up {α : Type} {S : List α} {pass : α → Bool} {l h m : Nat} (b : BetweenL S pass l h) (hm : MonoL S pass) (h1 : l ≤ m) (h2 : m < h) (hl : m < S.length) (hp : pass S[m] = false) : BetweenL S pass (m + 1) h := by
  refine ⟨by omega, b.top, fun i hi hlt => ?_, b.yes⟩
  cases e : pass S[i] with
  | false => rfl
  | true =>
    have := hm i m hi hl (by omega) e
    rw [hp] at this
    cases this
theorem BetweenL.down {α : Type} {S : List α} {pass : α → Bool} {l h m : Nat} (b : BetweenL S pass l h) (hm : MonoL S pass) (h1 : l ≤ m) (h2 : m < h) (hl : m < S.length) (hp : pass S[m] = true) : BetweenL S pass l m :=
  ⟨h1, by have := b.top; omega, b.no, fun i hi hle => hm m i hl hi hle hp⟩
theorem BetweenL.done {α : Type} {S : List α} {pass : α → Bool} {l h : Nat} (b : BetweenL S pass l h) (hh : ¬ l < h) : PlaceL S pass l := by
  have e : l = h := by have := b.le; omega
  subst e
  exact ⟨b.top, b.no, b.yes⟩
theorem PlaceL.drop {α : Type} {S : List α} {pass : α → Bool} {k : Nat} (h : PlaceL S pass k) : S.drop k = S.filter pass := by
  have h1 : (S.take k).filter pass = [] := by
    rw [List.filter_eq_nil_iff]
    intro x hx
    obtain ⟨i, hi, rfl⟩ := List.getElem_of_mem hx
    simp only [List.length_take] at hi
    simp only [List.getElem_take]
    rw [h.no i (by omega) (by omega)]
    simp
  have h2 : (S.drop k).filter pass = S.drop k := by
    rw [List.filter_eq_self]
    intro x hx
    obtain ⟨i, hi, rfl⟩ := List.getElem_of_mem hx
    simp only [List.length_drop] at hi
    simp only [List.getElem_drop]
    exact h.yes (k + i) (by omega) (by omega)
  conv => rhs; rw [← List.take_append_drop k S, List.filter_append, h1, h2, List.nil_append]
theorem midIntL (l h : Nat) (hle : l < h) : (l : Int) + ((h : Int) - (l : Int)) / 2 = ((l + (h - l) / 2 : Nat) : Int) := by omega

theorem Valid.shape {S : Mps} (h : Valid S) {i : Nat} (hi : i < S.length) : shape S[i] := OkI.shape (valid_iff.2 h) hi hi
theorem shape_small {m : Mp} (h : shape m) : 0 ≤ m.len ∧ m.len ≤ 32 ∧ 0 ≤ m.fin ∧ m.fin ≤ 1 ∧ m.off ≤ 4611686018427387904 := by
  obtain ⟨h1, h2⟩ := h
  have := h1.1
  rcases h2 with ⟨a, b, c⟩ | ⟨a, b⟩ <;> omega
theorem Valid.rise {S : Mps} (h : Valid S) : ∀ d i, ∀ hj : i + d < S.length, ends (S[i]'(by omega)) ≤ ends S[i + d] := by
  intro d
  induction d with
  | zero => intro i hj; exact Int.le_refl _
  | succ d ih =>
    intro i hj
    have h1 := ih i (by omega)
    have h2 := ((valid_iff.2 h) (i + (d + 1)) hj hj).2.2 (by omega)
    have h3 := shape_small (h.shape hj)
    have e : i + (d + 1) - 1 = i + d := by omega
    simp only [e] at h2
    simp only [ends] at *
    omega
theorem Valid.mono {S : Mps} (h : Valid S) (x : Int) : MonoL S (late x) := by
  intro i j hi hj hij hp
  obtain ⟨d, rfl⟩ : ∃ d, j = i + d := ⟨j - i, by omega⟩
  have := h.rise d i hj
  simp only [late, decide_eq_true_eq] at *
  omega

theorem clAck (c0 c1 c2 c3 c4 : Int) (bs : Nat) (v : Int) (w : World) (hp : w.cell? ⟨bs, 0, none⟩ = some (.int .u64 v)) (h0 : 0 ≤ c0) (h0' : c0 ≤ 4611686018427387904) (h1 : 0 ≤ c1) (h1' : c1 ≤ 32) (h2 : 0 ≤ c2) (h2' : c2 ≤ 1) (r : Bool) (hr : decide (v < c0 + c1 + c2) = r) :
    Calls Try.prog 41 #[.agg #[.int .u64 c0, .int .i64 c1, .int .i64 c2, .int .i64 c3, .int .i64 c4], .pointer (some ⟨bs, 0, none⟩)] w fun e w' => e = .returned (.bool r) ∧ Below w.heap.size w w' := by
  obtain ⟨w1, hw1⟩ : ∃ w1, w1 = w.alloc (.cells #[.int .u64 c0, .int .i64 c1, .int .i64 c2, .int .i64 c3, .int .i64 c4] 55) := ⟨_, rfl⟩
  have hb1 : Below w.heap.size w w1 := by rw [hw1]; exact (Below.refl _ _).alloc (Nat.le_refl _) _
  have s0 : w1.cell? ⟨w.heap.size, 0, none⟩ = some (.int .u64 c0) := by rw [hw1]; simp
  have s1 : w1.cell? ⟨w.heap.size, 1, none⟩ = some (.int .i64 c1) := by rw [hw1]; simp
  have s2 : w1.cell? ⟨w.heap.size, 2, none⟩ = some (.int .i64 c2) := by rw [hw1]; simp
  have s3 : w1.cell? ⟨w.heap.size, 3, none⟩ = some (.int .i64 c3) := by rw [hw1]; simp
  have s4 : w1.cell? ⟨w.heap.size, 4, none⟩ = some (.int .i64 c4) := by rw [hw1]; simp
  have s5 : w1.cell? ⟨bs, 0, none⟩ = some (.int .u64 v) := (hb1.cell (World.block_lt_of_cell? _ _ hp)).trans hp
  go_enter Try.func41, Try.ntmps41
  go_wp2
  rw [← hw1]
  clear hw1 hp
  go_region_held3 (fun w' => w'.cell? ⟨bs, 0, none⟩ = some (.int .u64 v) ∧ w'.cell? ⟨w.heap.size, 0, none⟩ = some (.int .u64 c0) ∧ w'.cell? ⟨w.heap.size, 1, none⟩ = some (.int .i64 c1) ∧ w'.cell? ⟨w.heap.size, 2, none⟩ = some (.int .i64 c2) ∧ w'.cell? ⟨w.heap.size, 3, none⟩ = some (.int .i64 c3) ∧ w'.cell? ⟨w.heap.size, 4, none⟩ = some (.int .i64 c4))
    (first | go_keep | exact ⟨by assumption, by assumption, by assumption, by assumption, by assumption, by assumption⟩)
    (first | (go_at_call 42; refine (endOf_any _ _ _ _ _ _ h0 h0' h1 h1' h2 h2').mono ?_; rintro e w3 ⟨rfl, hb4⟩; have t5 := (hb4.cell (World.block_lt_of_cell? _ _ s5)).trans s5; have t0 := (hb4.cell (World.block_lt_of_cell? _ _ s0)).trans s0; have t1 := (hb4.cell (World.block_lt_of_cell? _ _ s1)).trans s1; have t2 := (hb4.cell (World.block_lt_of_cell? _ _ s2)).trans s2; have t3 := (hb4.cell (World.block_lt_of_cell? _ _ s3)).trans s3; have t4 := (hb4.cell (World.block_lt_of_cell? _ _ s4)).trans s4))
  have hb5 := hb1.drew.trans (hb4.mono hb1.size)
  go_wp2
  go_ret
  exact ⟨by subst hr; rfl, by first | exact hb5 | exact hb5.drew⟩

set_option maxHeartbeats 1000000 in
theorem placeAck (a : Option Addr) (S : Mps) (cap : Nat) (bs : Nat) (v : Int) (w : World) (hS : LieM w a S) (hf : FitsM S) (hl : S.length ≤ 256) (hV : Valid S) (hp : w.cell? ⟨bs, 0, none⟩ = some (.int .u64 v)) :
    Calls Try.prog 40 #[.slice a S.length cap, .func (.func 41) #[] #[.pointer (some ⟨bs, 0, none⟩)]] w fun e w' => ∃ k : Nat, e = .returned (.int .i64 k) ∧ PlaceL S (late v) k ∧ Below w.heap.size w w' := by
  have hm := hV.mono v
  go_enter Try.func40, Try.ntmps40
  go_wp2
  go_loopw [5, 6] (fun x y wr => ∃ l h : Nat, x = .int .i64 l ∧ y = .int .i64 h ∧ BetweenL S (late v) l h ∧ Below w.heap.size w wr) (fun x y _ => (intOf y - intOf x).toNat)
  case atStart => exact ⟨0, S.length, rfl, rfl, BetweenL.start _ _, Below.refl _ _⟩
  case round =>
    obtain ⟨l, h, rfl, rfl, hbt, hb⟩ := hrel
    have hle := hbt.le
    have htop := hbt.top
    by_cases hlt : l < h
    · rcases hS with h0 | ⟨b, off, rfl, hc⟩
      · simp [h0] at htop; omega
      obtain ⟨m, hme⟩ : ∃ m, l + (h - l) / 2 = m := ⟨_, rfl⟩
      have hmi := midIntL l h hlt
      rw [hme] at hmi
      have m1 : l ≤ m := by omega
      have m2 : m < h := by omega
      have m3 : m < S.length := by omega
      obtain ⟨c0, c1, c2, c3, c4, hn, hok, q0, q1, q2, q3, q4⟩ := LieM.at hf hc m3
      have hsh := shape_small (hV.shape m3)
      rw [hn.out] at hsh
      obtain ⟨f1, f1', f2, f2', f0'⟩ := hsh
      have f0 := hok.1.1
      simp only at f1 f1' f2 f2' f0' f0
      have r0 : wr.cell? ⟨b, off + m * 5, none⟩ = some (.int .u64 c0) := by rw [hb.cell (World.block_lt_of_cell? w _ q0)]; exact q0
      have r1 : wr.cell? ⟨b, off + m * 5 + 1, none⟩ = some (.int .i64 c1) := by rw [hb.cell (World.block_lt_of_cell? w _ q1)]; exact q1
      have r2 : wr.cell? ⟨b, off + m * 5 + 2, none⟩ = some (.int .i64 c2) := by rw [hb.cell (World.block_lt_of_cell? w _ q2)]; exact q2
      have r3 : wr.cell? ⟨b, off + m * 5 + 3, none⟩ = some (.int .i64 c3) := by rw [hb.cell (World.block_lt_of_cell? w _ q3)]; exact q3
      have r4 : wr.cell? ⟨b, off + m * 5 + 4, none⟩ = some (.int .i64 c4) := by rw [hb.cell (World.block_lt_of_cell? w _ q4)]; exact q4
      have r5 : wr.cell? ⟨bs, 0, none⟩ = some (.int .u64 v) := by rw [hb.cell (World.block_lt_of_cell? w _ hp)]; exact hp
      have HB : Hid (BetweenL S (late v) l h) := hbt
      clear hme hbt hc q0 q1 q2 q3 q4 hok hV
      by_cases hpr : v < c0 + c1 + c2
      · have hd : decide (v < c0 + c1 + c2) = true := by simpa using hpr
        have HF : Hid (BetweenL S (late v) l m) := HB.out.down hm m1 m2 m3 (by rw [hn.out]; exact hd)
        have HD : Hid _ := hd
        clear HB hn hm hd hpr
        go_wp2_with (go_at_call 41; refine (clAck c0 c1 c2 c3 c4 bs v _ r5 f0 f0' f1 f1' f2 f2' true HD.out).mono ?_; rintro e w2 ⟨rfl, hb2⟩)
        go_roundw
        case rel => exact ⟨l, m, rfl, rfl, HF.out, hb.trans (hb2.mono hb.size)⟩
        case measure => simp [intOf]; omega
      · have hd : decide (v < c0 + c1 + c2) = false := by simpa using hpr
        have HF : Hid (BetweenL S (late v) (m + 1) h) := HB.out.up hm m1 m2 m3 (by rw [hn.out]; exact hd)
        have HD : Hid _ := hd
        clear HB hn hm hd hpr
        go_wp2_with (go_at_call 41; refine (clAck c0 c1 c2 c3 c4 bs v _ r5 f0 f0' f1 f1' f2 f2' false HD.out).mono ?_; rintro e w2 ⟨rfl, hb2⟩)
        go_roundw
        case rel => exact ⟨m + 1, h, by go_num, rfl, HF.out, hb.trans (hb2.mono hb.size)⟩
        case measure => simp [intOf]; omega
    · go_wp2
      go_ret
      exact ⟨l, rfl, hbt.done hlt, hb⟩
end Go.Proofs.Ytlagaiekoahjnaa
