import Derived.Test.YtpeecjoadgefjaaRView
import Derived.Test.YtpeecjoadgefjaaJ1
namespace Go.Proofs.Ytpeecjoadgefjaa
set_option linter.unusedVariables false

/-! ### The stream, and what a buffer that takes pieces of it alone comes to -/
def byteF (i : Int) : Int := (i * 7 + i / 11) % 256
/-- How many of k places from x on are held. -/
def cnt (f : Int → Option Int) : Nat → Int → Nat
  | 0, _ => 0
  | k + 1, x => (if (f x).isSome then 1 else 0) + cnt f k (x + 1)
theorem cnt_split (f : Int → Option Int) : ∀ a b x, cnt f (a + b) x = cnt f a x + cnt f b (x + a) := by
  intro a
  induction a with
  | zero => intro b x; simp [cnt]
  | succ a ih =>
    intro b x
    rw [show a + 1 + b = (a + b) + 1 by omega, cnt, cnt, ih, show x + 1 + (a : Int) = x + ((a + 1 : Nat) : Int) by omega]
    omega
theorem cnt_same {f g : Int → Option Int} : ∀ (k : Nat) (x : Int), (∀ t, x ≤ t → t < x + k → (f t).isSome = (g t).isSome) → cnt f k x = cnt g k x := by
  intro k
  induction k with
  | zero => intro x _; rfl
  | succ k ih =>
    intro x h
    rw [cnt, cnt, ih (x + 1) (fun t h1 h2 => h t (by omega) (by omega)), h x (Int.le_refl _) (by omega)]
theorem cnt_none {f : Int → Option Int} : ∀ (k : Nat) (x : Int), (∀ t, x ≤ t → t < x + k → f t = none) → cnt f k x = 0 := by
  intro k
  induction k with
  | zero => intro x _; rfl
  | succ k ih =>
    intro x h
    rw [cnt, ih (x + 1) (fun t h1 h2 => h t (by omega) (by omega)), h x (Int.le_refl _) (by omega)]
    rfl
theorem cnt_run {f : Int → Option Int} : ∀ (k : Nat) (x : Int), (∀ i : Nat, i < k → (f (x + i)).isSome = true) → cnt f k x = k := by
  intro k
  induction k with
  | zero => intro x _; rfl
  | succ k ih =>
    intro x h
    have h0 := h 0 (by omega)
    simp only [Int.natCast_zero, Int.add_zero] at h0
    rw [cnt, ih (x + 1) (fun i hi => by have := h (i + 1) (by omega); rw [show x + 1 + (i : Int) = x + ((i + 1 : Nat) : Int) by omega]; exact this), if_pos h0]
    omega
theorem cnt_upd {f : Int → Option Int} {y v : Int} (hy : f y = none) : ∀ (k : Nat) (x : Int), x ≤ y → y < x + k → cnt (upd f y v) k x = cnt f k x + 1 := by
  intro k
  induction k with
  | zero => intro x h1 h2; omega
  | succ k ih =>
    intro x h1 h2
    rw [cnt, cnt]
    by_cases e : y = x
    · subst e
      have e1 : (upd f y v y).isSome = true := by simp [upd]
      have e2 : cnt (upd f y v) k (y + 1) = cnt f k (y + 1) := cnt_same k (y + 1) (fun t ht _ => by unfold upd; rw [if_neg (by omega)])
      rw [e1, e2, hy]
      simp
      omega
    · have e1 : (upd f y v x).isSome = (f x).isSome := by unfold upd; rw [if_neg (by omega)]
      rw [e1, ih (x + 1) (by omega) (by omega)]
      omega
theorem addLast_is (S : Sp) (x : Int) : addLast S x = addOn S x (x + 1) := by
  rcases addOn_cases S x (x + 1) with ⟨h0, h1⟩ | ⟨A, p, h0, ⟨e, h1⟩ | ⟨e, h1⟩⟩
  · rw [h1, h0]; simp [addLast]
  · rw [h1, h0]
    have hl : lastP (A ++ [p]) = p := by simp [lastP]
    unfold addLast
    rw [hl, if_pos ⟨by simp, e⟩]
    simp
  · rw [h1, h0]
    have hl : lastP (A ++ [p]) = p := by simp [lastP]
    unfold addLast
    rw [hl, if_neg (fun h => e h.2)]
theorem heldRun_norm (f : Int → Option Int) : ∀ (k : Nat) (x : Int) (S : Sp), Norm S → (∀ p ∈ S, p.2 ≤ x) → Norm (heldRun f k x S) ∧ (∀ t, In t (heldRun f k x S) ↔ In t S ∨ (x ≤ t ∧ t < x + k ∧ (f t).isSome = true)) ∧ total (heldRun f k x S) = total S + (cnt f k x : Nat) := by
  intro k
  induction k with
  | zero => intro x S h1 h2; exact ⟨h1, fun t => ⟨.inl, fun h => h.elim id (fun h => by omega)⟩, by simp [heldRun, cnt]⟩
  | succ k ih =>
    intro x S h1 h2
    rw [heldRun, cnt]
    by_cases hf : (f x).isSome = true
    · rw [if_pos hf, if_pos hf, addLast_is]
      obtain ⟨a1, a2, a3⟩ := addOn_norm h1 h2 (show x < x + 1 by omega)
      obtain ⟨b1, b2, b3⟩ := ih (x + 1) (addOn S x (x + 1)) a1 a2
      refine ⟨b1, fun t => ?_, by rw [b3, total_addOn]; omega⟩
      rw [b2, a3]
      constructor
      · rintro ((h | h) | h)
        · exact .inl h
        · have e : t = x := by omega
          subst e
          exact .inr ⟨by omega, by omega, hf⟩
        · exact .inr ⟨by omega, by omega, h.2.2⟩
      · rintro (h | h)
        · exact .inl (.inl h)
        · by_cases e : t = x
          · exact .inl (.inr (by omega))
          · exact .inr ⟨by omega, by omega, h.2.2⟩
    · rw [if_neg hf, if_neg hf]
      obtain ⟨b1, b2, b3⟩ := ih (x + 1) S h1 (fun p hp => by have := h2 p hp; omega)
      refine ⟨b1, fun t => ?_, by rw [b3]; omega⟩
      rw [b2]
      constructor
      · rintro (h | h)
        · exact .inl h
        · exact .inr ⟨by omega, by omega, h.2.2⟩
      · rintro (h | h)
        · exact .inl h
        · by_cases e : t = x
          · subst e; exact absurd h.2.2 hf
          · exact .inr ⟨by omega, by omega, h.2.2⟩
theorem heldR_norm {z : Nat} {s : RB} (hw : InWin z s) : Norm (heldR z s) ∧ (∀ t, In t (heldR z s) ↔ (s.f t).isSome = true) ∧ total (heldR z s) = (cnt s.f z s.read : Nat) := by
  obtain ⟨h1, h2, h3⟩ := heldRun_norm s.f z s.read [] trivial (by simp)
  refine ⟨h1, fun t => ?_, by rw [heldR, h3]; simp [total]⟩
  rw [heldR, h2]
  constructor
  · rintro (h | h)
    · exact absurd h (in_nil t)
    · exact h.2.2
  · intro h
    cases hf : s.f t with
    | none => rw [hf] at h; simp at h
    | some v =>
      have := hw t v hf
      exact .inr ⟨by omega, by omega, rfl⟩

/-- An event whose piece is of the stream. -/
def HonE (x : Int) (e : REv) : Prop := e.kd = 1 → e.dat ≠ [] → x ≤ e.off ∧ ∀ j, j < e.dat.length → e.dat.getD j 0 = byteF (e.off + j - x)
structure Hon (x : Int) (z : Nat) (s : RB) (S : Sp) (kept : Int) : Prop where
  norm : Norm S
  mem : ∀ t, In t S ↔ (x ≤ t ∧ t < s.read) ∨ (s.f t).isSome = true
  str : ∀ t v, s.f t = some v → v = byteF (t - x)
  kept : kept = s.read - x + (cnt s.f z s.read : Nat)
  win : InWin z s
  lo : x ≤ s.read
theorem hon_start (x : Int) (z : Nat) : Hon x z (startR x) [] 0 := by
  have h0 : cnt (startR x).f z (startR x).read = 0 := cnt_none _ _ (fun _ _ _ => rfl)
  refine ⟨trivial, fun t => ⟨fun h => absurd h (in_nil t), fun h => ?_⟩, fun t v h => by simp [startR] at h, by rw [h0]; simp [startR], fun t v h => by simp [startR] at h, Int.le_refl _⟩
  rcases h with h | h
  · simp only [startR] at h; omega
  · simp [startR] at h
/-- What a piece leaves. -/
theorem putRun_hon {read y x : Int} {z : Nat} {dat : List Int} : ∀ {f : Int → Option Int} {k : Int}, y + dat.length ≤ read + z → (∀ t v, f t = some v → v = byteF (t - x)) → (∀ j, j < dat.length → dat.getD j 0 = byteF (y + j - x)) →
    (∀ t, ((putRun read y dat f k).2 t).isSome = true ↔ (f t).isSome = true ∨ (read ≤ t ∧ y ≤ t ∧ t < y + dat.length)) ∧ (∀ t v, (putRun read y dat f k).2 t = some v → v = byteF (t - x)) ∧ (putRun read y dat f k).1 - k = (cnt (putRun read y dat f k).2 z read : Nat) - (cnt f z read : Nat) := by
  induction dat generalizing y with
  | nil => intro f k _ hs _; exact ⟨fun t => ⟨.inl, fun h => h.elim id (fun h => by simp at h; omega)⟩, hs, by simp [putRun]⟩
  | cons a r ih =>
    intro f k hl hs hd
    simp only [List.length_cons] at hl hd ⊢
    have hd2 : ∀ j, j < r.length → r.getD j 0 = byteF (y + 1 + j - x) := fun j hj => by
      have := hd (j + 1) (by omega)
      rw [show y + 1 + (j : Int) - x = y + ((j + 1 : Nat) : Int) - x by omega, ← this]
      rfl
    have ha : a = byteF (y - x) := by
      have := hd 0 (by omega)
      simpa using this
    unfold putRun
    split
    · rename_i hc
      obtain ⟨i1, i2, i3⟩ := ih (y := y + 1) (f := upd f y a) (k := k + 1) (by omega) (fun t v h => by
        unfold upd at h
        split at h
        · rename_i e; simp only [Option.some.injEq] at h; rw [← h, e]; exact ha
        · exact hs t v h) hd2
      refine ⟨fun t => ?_, i2, ?_⟩
      · rw [i1]
        by_cases e : t = y
        · subst e
          simp only [upd, if_true, Option.isSome_some, true_or, true_iff]
          exact .inr ⟨hc.1, by omega, by omega⟩
        · have e1 : (upd f y a t).isSome = (f t).isSome := by unfold upd; rw [if_neg e]
          rw [e1]
          constructor
          · rintro (h | h)
            · exact .inl h
            · exact .inr ⟨h.1, by omega, by omega⟩
          · rintro (h | h)
            · exact .inl h
            · exact .inr ⟨h.1, by omega, by omega⟩
      · rw [cnt_upd hc.2 z read hc.1 (by omega)] at i3
        omega
    · rename_i hc
      obtain ⟨i1, i2, i3⟩ := ih (y := y + 1) (f := f) (k := k) (by omega) hs hd2
      refine ⟨fun t => ?_, i2, i3⟩
      rw [i1]
      constructor
      · rintro (h | h)
        · exact .inl h
        · exact .inr ⟨h.1, by omega, by omega⟩
      · rintro (h | h)
        · exact .inl h
        · by_cases e : t = y
          · subst e
            left
            cases hf : f t with
            | none => exact absurd ⟨h.1, hf⟩ hc
            | some v => rfl
          · exact .inr ⟨h.1, by omega, by omega⟩
def sumA (S : Sp) (e : REv) (o : ROut) : Sp := if e.kd = 1 ∧ o.code = 0 then built f1 S (e.off, e.off + e.dat.length) else S
def keptA (k : Int) (e : REv) (o : ROut) : Int := if e.kd = 1 ∧ o.code = 0 then k + o.n else k
theorem Hon.put {x : Int} {z : Nat} {s : RB} {S : Sp} {k : Int} (h : Hon x z s S k) {off : Int} {dat : List Int} (hE : dat ≠ [] → x ≤ off ∧ ∀ j, j < dat.length → dat.getD j 0 = byteF (off + j - x)) (hb : ∀ v ∈ dat, 0 ≤ v ∧ v ≤ 255) :
    (((putR z s off dat).1.code = 0 ∧ dat ≠ [] ∧ off + dat.length ≤ s.read + z ∧ Hon x z (putR z s off dat).2 (built f1 S (off, off + dat.length)) (k + (putR z s off dat).1.n)) ∨ ((putR z s off dat).1.code ≠ 0 ∧ (putR z s off dat).2 = s)) ∧ (putR z s off dat).2.read = s.read := by
  unfold putR
  split
  · exact ⟨.inr ⟨by simp, rfl⟩, rfl⟩
  · split
    · exact ⟨.inr ⟨by simp, rfl⟩, rfl⟩
    · split
      · exact ⟨.inr ⟨by simp, rfl⟩, rfl⟩
      · rename_i h1 h2 h3
        have hne : dat ≠ [] := fun e => by rw [e] at h1; simp at h1
        obtain ⟨e1, e2⟩ := hE hne
        obtain ⟨i1, i2, i3⟩ := putRun_hon (read := s.read) (y := off) (x := x) (z := z) (dat := dat) (f := s.f) (k := 0) (by omega) h.str e2
        refine ⟨.inl ⟨rfl, hne, by omega, ⟨built_norm rfl _ _, fun t => ?_, i2, ?_, ?_, h.lo⟩⟩, rfl⟩
        · rw [in_add, h.mem]
          simp only
          rw [i1]
          constructor
          · rintro ((h4 | h4) | h4)
            · exact .inl h4
            · exact .inr (.inl h4)
            · by_cases h5 : t < s.read
              · exact .inl ⟨by omega, h5⟩
              · exact .inr (.inr ⟨by omega, h4.1, h4.2⟩)
          · rintro (h4 | h4 | h4)
            · exact .inl (.inl h4)
            · exact .inl (.inr h4)
            · exact .inr ⟨h4.2.1, h4.2.2⟩
        · have := h.kept
          simp only
          omega
        · exact putRun_at h.win hb (by omega)
theorem Hon.take {x : Int} {z : Nat} {s : RB} {S : Sp} {k : Int} (h : Hon x z s S k) (n : Int) :
    Hon x z (takeR z s n).2 S k ∧ (takeR z s n).1.n = (takeR z s n).1.dat.length ∧ (takeR z s n).2.read = s.read + (takeR z s n).1.dat.length ∧ (∀ j, j < (takeR z s n).1.dat.length → (takeR z s n).1.dat.getD j 0 = byteF (s.read - x + j)) ∧ ((takeR z s n).1.code = 15 → s.hf = 1 ∧ s.fin = s.read ∧ (takeR z s n).1.dat = []) := by
  unfold takeR
  split
  · rename_i h1
    exact ⟨h, rfl, by simp, fun j hj => by simp at hj, fun _ => ⟨h1.2.1, h1.2.2.symm, rfl⟩⟩
  · obtain ⟨K, hK⟩ : ∃ K, takeN z s n = K := ⟨_, rfl⟩
    rw [hK]
    have hKl : K ≤ runLen s.f z s.read := by rw [← hK]; exact Nat.min_le_right ..
    have hKz := runLen_le s.f z s.read
    have hrun : ∀ i : Nat, i < K → (s.f (s.read + i)).isSome = true := fun i hi => runLen_held s.f z s.read i (by omega)
    simp only [bytesAt_length]
    refine ⟨⟨h.norm, fun t => ?_, fun t v ht => ?_, ?_, ?_, ?_⟩, trivial, trivial, fun j hj => ?_, fun hc => by simp at hc⟩
    · rw [h.mem]
      simp only
      by_cases h5 : t < s.read + K
      · rw [if_pos h5]
        constructor
        · rintro (h6 | h6)
          · exact .inl ⟨h6.1, by omega⟩
          · cases hf : s.f t with
            | none => rw [hf] at h6; simp at h6
            | some v => have := h.win t v hf; have := h.lo; exact .inl ⟨by omega, h5⟩
        · rintro (h6 | h6)
          · by_cases h7 : t < s.read
            · exact .inl ⟨h6.1, h7⟩
            · right
              have := hrun (t - s.read).toNat (by omega)
              rw [show s.read + ((t - s.read).toNat : Int) = t by omega] at this
              exact this
          · simp at h6
      · rw [if_neg h5]
        constructor
        · rintro (h6 | h6)
          · omega
          · exact .inr h6
        · rintro (h6 | h6)
          · omega
          · exact .inr h6
    · simp only at ht
      split at ht
      · simp at ht
      · exact h.str t v ht
    · have e1 : cnt s.f z s.read = K + cnt s.f (z - K) (s.read + K) := by
        have := cnt_split s.f K (z - K) s.read
        rw [show K + (z - K) = z by omega, cnt_run K s.read hrun] at this
        exact this
      have e2 : cnt (fun t => if t < s.read + K then none else s.f t) z (s.read + K) = cnt s.f (z - K) (s.read + K) := by
        rw [cnt_same (g := s.f) z (s.read + K) (fun t ht _ => by rw [if_neg (by omega)])]
        have := cnt_split s.f (z - K) K (s.read + K)
        rw [show z - K + K = z by omega] at this
        rw [this, cnt_none K _ (fun t h1 h2 => by
          cases hf : s.f t with
          | none => rfl
          | some v => have := h.win t v hf; omega)]
        rfl
      have := h.kept
      simp only
      rw [e2]
      omega
    · intro t v ht
      simp only at ht ⊢
      split at ht
      · simp at ht
      · have := h.win t v ht
        omega
    · have := h.lo; simp only; omega
    · have e : (bytesAt s.f s.read K).getD j 0 = (s.f (s.read + j)).getD 0 := by simp [bytesAt, hj]
      rw [e]
      have := hrun j hj
      cases hf : s.f (s.read + j) with
      | none => rw [hf] at this; simp at this
      | some v =>
        rw [show s.read - x + (j : Int) = s.read + j - x by omega]
        exact h.str _ _ hf
theorem Hon.end_ {x : Int} {z : Nat} {s : RB} {S : Sp} {k : Int} (h : Hon x z s S k) (off : Int) : Hon x z (endR z s off).2 S k ∧ (endR z s off).2.read = s.read := by
  unfold endR
  split
  · exact ⟨h, rfl⟩
  · split
    · exact ⟨h, rfl⟩
    · split
      · exact ⟨h, rfl⟩
      · exact ⟨⟨h.norm, h.mem, h.str, h.kept, h.win, h.lo⟩, rfl⟩
theorem Hon.step {x : Int} {z : Nat} {s : RB} {S : Sp} {k : Int} (h : Hon x z s S k) {e : REv} (hE : HonE x e) (hb : ∀ v ∈ e.dat, 0 ≤ v ∧ v ≤ 255) :
    Hon x z (stepR z s e).2 (sumA S e (stepR z s e).1) (keptA k e (stepR z s e).1) ∧
    (e.kd = 1 → (stepR z s e).1.code = 0 → e.dat ≠ [] ∧ x ≤ e.off ∧ e.off + e.dat.length ≤ s.read + z) ∧
    (e.kd ≠ 2 → (stepR z s e).2.read = s.read) ∧
    (e.kd = 2 → (stepR z s e).1.n = (stepR z s e).1.dat.length ∧ (stepR z s e).2.read = s.read + (stepR z s e).1.dat.length ∧ (∀ j, j < (stepR z s e).1.dat.length → (stepR z s e).1.dat.getD j 0 = byteF (s.read - x + j)) ∧ ((stepR z s e).1.code = 15 → s.hf = 1 ∧ s.fin = s.read ∧ (stepR z s e).1.dat = [])) := by
  unfold stepR
  by_cases k1 : e.kd = 1
  · rw [if_pos k1]
    obtain ⟨hp, hr⟩ := h.put (hE k1) hb
    refine ⟨?_, fun _ hc => ?_, fun _ => hr, fun h2 => by omega⟩
    · unfold sumA keptA
      rcases hp with ⟨c0, hne, _, hH⟩ | ⟨c0, hs⟩
      · rw [if_pos ⟨k1, c0⟩, if_pos ⟨k1, c0⟩]; exact hH
      · rw [if_neg (fun h => c0 h.2), if_neg (fun h => c0 h.2), hs]; exact h
    · rcases hp with ⟨c0, hne, hle, hH⟩ | ⟨c0, hs⟩
      · exact ⟨hne, (hE k1 hne).1, hle⟩
      · exact absurd hc c0
  · rw [if_neg k1]
    have hs : ∀ o, sumA S e o = S ∧ keptA k e o = k := fun o => ⟨by unfold sumA; rw [if_neg (fun h => k1 h.1)], by unfold keptA; rw [if_neg (fun h => k1 h.1)]⟩
    by_cases k2 : e.kd = 2
    · rw [if_pos k2]
      obtain ⟨a1, a2, a3, a4, a5⟩ := h.take e.n
      exact ⟨by rw [(hs _).1, (hs _).2]; exact a1, fun h1 => absurd h1 k1, fun h2 => absurd k2 h2, fun _ => ⟨a2, a3, a4, a5⟩⟩
    · rw [if_neg k2]
      by_cases k3 : e.kd = 3
      · rw [if_pos k3]
        obtain ⟨a1, a2⟩ := h.end_ e.off
        exact ⟨by rw [(hs _).1, (hs _).2]; exact a1, fun h1 => absurd h1 k1, fun _ => a2, fun h2 => absurd h2 k2⟩
      · rw [if_neg k3]
        exact ⟨by rw [(hs _).1, (hs _).2]; exact h, fun h1 => absurd h1 k1, fun _ => rfl, fun h2 => absurd h2 k2⟩
theorem fin_step {z : Nat} {s : RB} {e : REv} (h : s.hf = 1) : (stepR z s e).2.hf = 1 ∧ (stepR z s e).2.fin = s.fin := by
  unfold stepR
  split
  · unfold putR
    split
    · exact ⟨h, rfl⟩
    · split
      · exact ⟨h, rfl⟩
      · split <;> exact ⟨h, rfl⟩
  · split
    · unfold takeR
      split <;> exact ⟨h, rfl⟩
    · split
      · unfold endR
        split
        · exact ⟨h, rfl⟩
        · rename_i h1
          split
          · exact ⟨h, rfl⟩
          · split
            · exact ⟨h, rfl⟩
            · refine ⟨rfl, ?_⟩
              by_cases e9 : s.fin = e.off
              · exact e9.symm
              · exact absurd ⟨h, e9⟩ h1
      · exact ⟨h, rfl⟩
end Go.Proofs.Ytpeecjoadgefjaa
