import Derived.Test.YtjiaiaclmceeeaaGreatDoorLMap2
namespace Go.Proofs.YtjiaiaclmceeeaaGreatDoor
open Go.ChangeShapes Go.WideShapes Go.ChangeAt Go.RowKit
set_option linter.unusedVariables false

theorem ba_beq (s k : ByteArray) : (s == k) = decide (s = k) := by
  cases s with
  | mk a =>
    cases k with
    | mk b =>
      show (a == b) = _
      rw [Bool.eq_iff_iff, beq_iff_eq, decide_eq_true_iff]
      exact ⟨fun h => by rw [h], fun h => by injection h⟩
theorem ba_list {s k : ByteArray} (h : s.toList = k.toList) : s = k := by
  rw [ByteArray.toList_eq, ByteArray.toList_eq] at h
  exact ByteArray.ext (Array.toList_inj.1 h)
/-- The first row of the table with that word. -/
def firstRow (s : ByteArray) (T : List (ByteArray × Int × List Int)) : Option (Int × List Int) := (T.find? fun r => s == r.1).map (·.2)
theorem find_ent (s : ByteArray) : ∀ (L : List Ent) (n i : Nat), ∃ q, Instr.findNow .string (.string s) (entsAt n L) i = some q ∧ (q = none ∧ firstRow s (L.map fun e => (e.key, e.op, e.kinds)) = none ∨ ∃ j e, q = some (j, e.val) ∧ e ∈ L ∧ firstRow s (L.map fun e => (e.key, e.op, e.kinds)) = some (e.op, e.kinds)) := by
  intro L
  induction L with
  | nil => intro n i; exact ⟨none, rfl, .inl ⟨rfl, rfl⟩⟩
  | cons x r ih =>
    intro n i
    cases hx : (s == x.key) with
    | true => exact ⟨some (i, x.val), by simp only [entsAt, Instr.findNow, Instr.sameNow, hx], .inr ⟨i, x, rfl, List.mem_cons_self .., by simp [firstRow, hx]⟩⟩
    | false =>
      obtain ⟨q, h1, h2⟩ := ih (n + 1) (i + 1)
      refine ⟨q, by simp only [entsAt, Instr.findNow, Instr.sameNow, hx]; exact h1, ?_⟩
      have e : firstRow s ((x :: r).map fun e => (e.key, e.op, e.kinds)) = firstRow s (r.map fun e => (e.key, e.op, e.kinds)) := by simp [firstRow, hx]
      rw [e]
      rcases h2 with h2 | ⟨j, e', h2, h3, h4⟩
      · exact .inl h2
      · exact .inr ⟨j, e', h2, List.mem_cons_of_mem _ h3, h4⟩
def codeOf (k : Int) : UInt8 := if k = 0 then 78 else if k = 1 then 80 else if k = 2 then 73 else if k = 3 then 68 else if k = 4 then 84 else if k = 5 then 67 else 72
/-- What the table says of a word is what the specification asks of it. -/
def RowIs (s : ByteArray) : Prop := (firstRow s table = none ∧ (asks s.toList).1 = 0) ∨ ∃ op ks, firstRow s table = some (op, ks) ∧ (1 ≤ op ∧ op ≤ 17) ∧ ks.length ≤ 3 ∧ (∀ k ∈ ks, 0 ≤ k ∧ k < 7) ∧ asks s.toList = (op, ⟨(ks.map codeOf).toArray⟩)
theorem key_no {s k : ByteArray} {l : List UInt8} (hk : k.toList = l) (h : s ≠ k) : (s == k) = false ∧ s.toList ≠ l := by
  refine ⟨by rw [ba_beq]; exact decide_eq_false h, fun e => h (ba_list ?_)⟩
  rw [e, hk]
set_option maxRecDepth 100000 in
theorem row_is (s : ByteArray) : RowIs s := by
  by_cases h0 : s = (⟨#[119, 114, 105, 116, 101]⟩ : ByteArray)
  · subst h0
    exact .inr ⟨1, [4], by kernel_rfl, by omega, by decide, by decide, by kernel_rfl⟩
  obtain ⟨b0, l0⟩ := key_no (l := [119, 114, 105, 116, 101]) (by kernel_rfl) h0
  by_cases h1 : s = (⟨#[102, 105, 108, 108]⟩ : ByteArray)
  · subst h1
    exact .inr ⟨2, [0, 5], by kernel_rfl, by omega, by decide, by decide, by kernel_rfl⟩
  obtain ⟨b1, l1⟩ := key_no (l := [102, 105, 108, 108]) (by kernel_rfl) h1
  by_cases h2 : s = (⟨#[114, 101, 97, 100]⟩ : ByteArray)
  · subst h2
    exact .inr ⟨3, [0], by kernel_rfl, by omega, by decide, by decide, by kernel_rfl⟩
  obtain ⟨b2, l2⟩ := key_no (l := [114, 101, 97, 100]) (by kernel_rfl) h2
  by_cases h3 : s = (⟨#[99, 108, 111, 115, 101]⟩ : ByteArray)
  · subst h3
    exact .inr ⟨4, [], by kernel_rfl, by omega, by decide, by decide, by kernel_rfl⟩
  obtain ⟨b3, l3⟩ := key_no (l := [99, 108, 111, 115, 101]) (by kernel_rfl) h3
  by_cases h4 : s = (⟨#[97, 98, 111, 114, 116]⟩ : ByteArray)
  · subst h4
    exact .inr ⟨5, [], by kernel_rfl, by omega, by decide, by decide, by kernel_rfl⟩
  obtain ⟨b4, l4⟩ := key_no (l := [97, 98, 111, 114, 116]) (by kernel_rfl) h4
  by_cases h5 : s = (⟨#[116, 105, 99, 107]⟩ : ByteArray)
  · subst h5
    exact .inr ⟨6, [], by kernel_rfl, by omega, by decide, by decide, by kernel_rfl⟩
  obtain ⟨b5, l5⟩ := key_no (l := [116, 105, 99, 107]) (by kernel_rfl) h5
  by_cases h6 : s = (⟨#[119, 116, 105, 99, 107]⟩ : ByteArray)
  · subst h6
    exact .inr ⟨7, [], by kernel_rfl, by omega, by decide, by decide, by kernel_rfl⟩
  obtain ⟨b6, l6⟩ := key_no (l := [119, 116, 105, 99, 107]) (by kernel_rfl) h6
  by_cases h7 : s = (⟨#[114, 116, 105, 99, 107]⟩ : ByteArray)
  · subst h7
    exact .inr ⟨8, [], by kernel_rfl, by omega, by decide, by decide, by kernel_rfl⟩
  obtain ⟨b7, l7⟩ := key_no (l := [114, 116, 105, 99, 107]) (by kernel_rfl) h7
  by_cases h8 : s = (⟨#[100, 101, 108, 105, 118, 101, 114]⟩ : ByteArray)
  · subst h8
    exact .inr ⟨9, [1, 3, 2], by kernel_rfl, by omega, by decide, by decide, by kernel_rfl⟩
  obtain ⟨b8, l8⟩ := key_no (l := [100, 101, 108, 105, 118, 101, 114]) (by kernel_rfl) h8
  by_cases h9 : s = (⟨#[100, 114, 111, 112]⟩ : ByteArray)
  · subst h9
    exact .inr ⟨10, [1, 3, 2], by kernel_rfl, by omega, by decide, by decide, by kernel_rfl⟩
  obtain ⟨b9, l9⟩ := key_no (l := [100, 114, 111, 112]) (by kernel_rfl) h9
  by_cases h10 : s = (⟨#[100, 117, 112]⟩ : ByteArray)
  · subst h10
    exact .inr ⟨11, [1, 3, 2], by kernel_rfl, by omega, by decide, by decide, by kernel_rfl⟩
  obtain ⟨b10, l10⟩ := key_no (l := [100, 117, 112]) (by kernel_rfl) h10
  by_cases h11 : s = (⟨#[99, 117, 116]⟩ : ByteArray)
  · subst h11
    exact .inr ⟨12, [1], by kernel_rfl, by omega, by decide, by decide, by kernel_rfl⟩
  obtain ⟨b11, l11⟩ := key_no (l := [99, 117, 116]) (by kernel_rfl) h11
  by_cases h12 : s = (⟨#[117, 112]⟩ : ByteArray)
  · subst h12
    exact .inr ⟨13, [1], by kernel_rfl, by omega, by decide, by decide, by kernel_rfl⟩
  obtain ⟨b12, l12⟩ := key_no (l := [117, 112]) (by kernel_rfl) h12
  by_cases h13 : s = (⟨#[112, 105, 99, 107]⟩ : ByteArray)
  · subst h13
    exact .inr ⟨14, [0], by kernel_rfl, by omega, by decide, by decide, by kernel_rfl⟩
  obtain ⟨b13, l13⟩ := key_no (l := [112, 105, 99, 107]) (by kernel_rfl) h13
  by_cases h14 : s = (⟨#[105, 110, 106, 101, 99, 116]⟩ : ByteArray)
  · subst h14
    exact .inr ⟨15, [1, 3, 6], by kernel_rfl, by omega, by decide, by decide, by kernel_rfl⟩
  obtain ⟨b14, l14⟩ := key_no (l := [105, 110, 106, 101, 99, 116]) (by kernel_rfl) h14
  by_cases h15 : s = (⟨#[102, 97, 105, 114]⟩ : ByteArray)
  · subst h15
    exact .inr ⟨16, [1], by kernel_rfl, by omega, by decide, by decide, by kernel_rfl⟩
  obtain ⟨b15, l15⟩ := key_no (l := [102, 97, 105, 114]) (by kernel_rfl) h15
  by_cases h16 : s = (⟨#[115, 116, 97, 116]⟩ : ByteArray)
  · subst h16
    exact .inr ⟨17, [], by kernel_rfl, by omega, by decide, by decide, by kernel_rfl⟩
  obtain ⟨b16, l16⟩ := key_no (l := [115, 116, 97, 116]) (by kernel_rfl) h16
  refine .inl ⟨?_, ?_⟩
  · unfold firstRow table
    simp only [List.find?_cons, List.find?_nil, b0, b1, b2, b3, b4, b5, b6, b7, b8, b9, b10, b11, b12, b13, b14, b15, b16, Option.map_none]
  · unfold asks
    rw [if_neg l0, if_neg l1, if_neg l2, if_neg l3, if_neg l4, if_neg l5, if_neg l6, if_neg l7, if_neg l8, if_neg l9, if_neg l10, if_neg l11, if_neg l12, if_neg l13, if_neg l14, if_neg l15, if_neg l16]
end Go.Proofs.YtjiaiaclmceeeaaGreatDoor
