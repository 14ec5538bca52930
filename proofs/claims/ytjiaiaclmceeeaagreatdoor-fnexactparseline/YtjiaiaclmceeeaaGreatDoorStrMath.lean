import Derived.Test.YtjiaiaclmceeeaaGreatDoorStrWords
namespace Go.Proofs.YtjiaiaclmceeeaaGreatDoor
open Go.ChangeShapes Go.WideShapes Go.ChangeAt Go.RowKit
set_option linter.unusedVariables false

theorem bt_extract {s : ByteArray} {a b j : Nat} (hb : b ≤ s.size) (h : a + j < b) : bt (s.extract a b) j = bt s (a + j) := by
  have hs : j < (s.extract a b).size := by rw [ByteArray.size_extract]; omega
  unfold bt
  rw [dif_pos hs, dif_pos (by omega), ByteArray.getElem_extract hs]
theorem size_piece {s : ByteArray} {a b : Nat} (hb : b ≤ s.size) : (s.extract a b).size = b - a := by rw [ByteArray.size_extract]; omega

theorem pieces_in (s : ByteArray) : ∀ k, ∀ p ∈ (cutTo s k).1, p.2 < k := by
  intro k
  induction k with
  | zero => intro p hp; simp [cutTo] at hp
  | succ k ih =>
    intro p hp
    by_cases h : bt s k = 32
    · rw [cutTo_yes h] at hp
      rcases List.mem_append.1 hp with hp | hp
      · have := ih p hp; omega
      · simp at hp; subst hp; simp
    · rw [cutTo_no h] at hp
      have := ih p hp; omega
theorem piece_ends (s : ByteArray) : ∀ k i, i < k → bt s i = 32 → ((cutTo s i).2, i) ∈ (cutTo s k).1 := by
  intro k
  induction k with
  | zero => intro i hi; omega
  | succ k ih =>
    intro i hi hb
    by_cases e : i = k
    · subst e
      rw [cutTo_yes hb]
      simp
    · have := ih i (by omega) hb
      by_cases h : bt s k = 32
      · rw [cutTo_yes h]; exact List.mem_append_left _ this
      · rw [cutTo_no h]; exact this
theorem piece_covers (s : ByteArray) : ∀ k i, i < k → ¬ bt s i = 32 → (∃ p ∈ (cutTo s k).1, p.1 ≤ i ∧ i < p.2) ∨ (cutTo s k).2 ≤ i := by
  intro k
  induction k with
  | zero => intro i hi; omega
  | succ k ih =>
    intro i hi hb
    by_cases e : i = k
    · subst e
      rw [cutTo_no hb]
      exact .inr (cutTo_from s i)
    · by_cases h : bt s k = 32
      · rw [cutTo_yes h]
        rcases ih i (by omega) hb with ⟨p, hp, h1, h2⟩ | h1
        · exact .inl ⟨p, List.mem_append_left _ hp, h1, h2⟩
        · exact .inl ⟨((cutTo s k).2, k), by simp, h1, by show i < k; omega⟩
      · rw [cutTo_no h]
        exact ih i (by omega) hb

/-- A word with a letter, and no letter that is barred. -/
def Fine (u : ByteArray) : Prop := 1 ≤ u.size ∧ ∀ j, j < u.size → 32 ≤ bt u j ∧ bt u j ≤ 126
theorem good_of_words {s : ByteArray} (h : ∀ u ∈ wordsOf s, Fine u) : Good s := by
  have hw : ∀ p ∈ (cutTo s s.size).1, Fine (s.extract p.1 p.2) := fun p hp => h _ (by unfold wordsOf strs; exact List.mem_append_left _ (List.mem_map_of_mem hp))
  have hl : Fine (s.extract (cutTo s s.size).2 s.size) := h _ (by unfold wordsOf; simp)
  refine ⟨fun i hi => ⟨?_, fun hb e => ?_⟩, fun e => ?_⟩
  · by_cases hb : bt s i = 32
    · omega
    · rcases piece_covers s s.size i hi hb with ⟨p, hp, h1, h2⟩ | h1
      · have hp2 := pieces_in s s.size p hp
        have hf := hw p hp
        have := hf.2 (i - p.1) (by rw [size_piece (by omega)]; omega)
        rw [bt_extract (by omega) (by omega), show p.1 + (i - p.1) = i by omega] at this
        exact this
      · have := hl.2 (i - (cutTo s s.size).2) (by rw [size_piece (Nat.le_refl _)]; omega)
        rw [bt_extract (Nat.le_refl _) (by omega), show (cutTo s s.size).2 + (i - (cutTo s s.size).2) = i by omega] at this
        exact this
  · have := (hw _ (piece_ends s s.size i hi hb)).1
    rw [size_piece (by omega)] at this
    simp only at this
    omega
  · have := hl.1
    rw [size_piece (Nat.le_refl _)] at this
    omega
/-- Behind the cut no word is empty. -/
theorem words_full {s : ByteArray} (h : Good s) : ∀ u ∈ wordsOf s, 1 ≤ u.size := by
  have key : ∀ k, k ≤ s.size → ∀ p ∈ (cutTo s k).1, p.1 < p.2 ∧ p.2 < k := by
    intro k
    induction k with
    | zero => intro _ p hp; simp [cutTo] at hp
    | succ k ih =>
      intro hk p hp
      by_cases hb : bt s k = 32
      · rw [cutTo_yes hb] at hp
        rcases List.mem_append.1 hp with hp | hp
        · have := ih (by omega) p hp; omega
        · simp at hp
          subst hp
          have h1 := (h.1 k (by omega)).2 hb
          have h2 := cutTo_from s k
          simp only
          omega
      · rw [cutTo_no hb] at hp
        have := ih (by omega) p hp; omega
  intro u hu
  unfold wordsOf strs at hu
  rcases List.mem_append.1 hu with hu | hu
  · obtain ⟨p, hp, rfl⟩ := List.mem_map.1 hu
    have := key s.size (Nat.le_refl _) p hp
    rw [size_piece (by omega)]
    omega
  · simp at hu
    subst hu
    have h1 := h.2
    have h2 := cutTo_from s s.size
    rw [size_piece (Nat.le_refl _)]
    omega

/-- The first word of a config line. -/
def conf : ByteArray := ⟨#[99, 111, 110, 102, 105, 103]⟩
theorem conf_of {u : ByteArray} (h : u.toList = conf.toList) : u = conf := by
  rw [ByteArray.toList_eq, ByteArray.toList_eq] at h
  exact ByteArray.ext (Array.toList_inj.1 h)
theorem conf_fine : Fine conf := by
  refine ⟨by decide, ?_⟩
  intro j hj
  have : j < 6 := hj
  rcases (show j = 0 ∨ j = 1 ∨ j = 2 ∨ j = 3 ∨ j = 4 ∨ j = 5 by omega) with rfl | rfl | rfl | rfl | rfl | rfl <;> decide
theorem NumOK.fine {u : ByteArray} (h : NumOK u) : Fine u := ⟨h.1.1, fun j hj => by have := h.2.2 j hj; omega⟩
/-- Thirteen words, the first of a config line's, the others numbers. -/
def Parsed (s : ByteArray) : Prop := (wordsOf s).length = 13 ∧ (wordsOf s).getD 0 ⟨#[]⟩ = conf ∧ ∀ i, 1 ≤ i → i < 13 → NumOK ((wordsOf s).getD i ⟨#[]⟩)
theorem Parsed.good {s : ByteArray} (h : Parsed s) : Good s := by
  obtain ⟨h1, h2, h3⟩ := h
  refine good_of_words fun u hu => ?_
  obtain ⟨i, hi, rfl⟩ := List.getElem_of_mem hu
  by_cases e : i = 0
  · subst e
    have e : (wordsOf s)[0] = (wordsOf s).getD 0 ⟨#[]⟩ := by simp [hi]
    rw [e, h2]
    exact conf_fine
  · have e : (wordsOf s)[i] = (wordsOf s).getD i ⟨#[]⟩ := by simp [hi]
    rw [e]
    exact (h3 i (by omega) (by omega)).fine

/-- A list of texts that lies in memory. -/
def LieS (w : World) (a : Option Addr) (zs : List ByteArray) : Prop := zs = [] ∨ ∃ b off, a = some ⟨b, off, none⟩ ∧ ∀ i, i < zs.length → w.cell? ⟨b, off + i, none⟩ = some (.string (zs.getD i ⟨#[]⟩))
theorem LieS.moved {w w' : World} {a : Option Addr} {zs : List ByteArray} (h : LieS w a zs) (hb : Below w.heap.size w w') : LieS w' a zs := by
  rcases h with h | ⟨b, off, ha, hc⟩
  · exact .inl h
  · refine .inr ⟨b, off, ha, fun i hi => ?_⟩
    rw [hb.cell (World.block_lt_of_cell? w _ (hc i hi))]
    exact hc i hi
theorem LieS.ofRow {w : World} {base : Nat} {e : TypeId} {av : Option Addr} {n cap : Nat} {zs : List ByteArray} (h : w.ownsRow base e 1 (.slice av n cap) n (zs.map .string)) : LieS w av zs := by
  have hl := h.1
  simp at hl
  rcases h.2 with ⟨h', h0⟩ | ⟨g, cap', cur, h', rest⟩
  · exact .inl (List.eq_nil_of_length_eq_zero (by omega))
  · simp only [Value.slice.injEq] at h'
    obtain ⟨rfl, _, rfl⟩ := h'
    refine .inr ⟨g, 0, rfl, fun i hi => ?_⟩
    rw [Nat.zero_add, h.cellAt i (by omega)]
    simp [hi]
theorem num_cases (u : ByteArray) (hb : u.size ≤ 9223372036854775807) : (NumOK u ∧ Num 9 u (dig u u.size : Nat) true ∧ Num 34 u (dig u u.size : Nat) true) ∨ (¬ NumOK u ∧ Num 9 u 0 false ∧ (1 ≤ u.size → Num 34 u 0 false)) := by
  by_cases h1 : 1 ≤ u.size
  · by_cases h2 : u.size ≤ 10
    · by_cases h0 : bt u 0 = 48 ∧ 1 < u.size
      · exact .inr ⟨fun h => h.2.1 h0, num_s_zero u h0.2 h2 h0.1, fun _ => num_i_zero u h0.2 h2 h0.1⟩
      · by_cases hd : Digits u u.size
        · exact .inl ⟨⟨⟨h1, h2⟩, h0, hd⟩, num_s_walk u h1 h2 h0 _ _ (.inl ⟨hd, rfl, rfl⟩), num_i_walk u h1 h2 h0 _ _ (.inl ⟨hd, rfl, rfl⟩)⟩
        · exact .inr ⟨fun h => hd h.2.2, num_s_walk u h1 h2 h0 _ _ (.inr ⟨hd, rfl, rfl⟩), fun _ => num_i_walk u h1 h2 h0 _ _ (.inr ⟨hd, rfl, rfl⟩)⟩
    · exact .inr ⟨fun h => h2 h.1.2, num_s_long u hb (by omega), fun _ => num_i_long u hb (by omega)⟩
  · exact .inr ⟨fun h => h1 h.1.1, num_s_none u (by omega), fun h => absurd h h1⟩
end Go.Proofs.YtjiaiaclmceeeaaGreatDoor
