import Derived.Test.YtjiaiaclmceeeaaGreatDoorRows0
import Derived.Laws.RangeString
import Derived.Laws.RangeAny
import Derived.Deep.RegionHeld3
import Derived.Laws.Small
namespace Go.Proofs.YtjiaiaclmceeeaaGreatDoor
open Go.ChangeShapes Go.WideShapes Go.ChangeAt Go.RowKit
set_option linter.unusedVariables false

theorem info_str : (Tryz.prog.info? 9).map (fun i => (i.zero, i.size, i.bytes)) = some (some (.string ⟨#[]⟩), 1, 16) := by kernel_rfl

/-- One append of one text that lies at ad, in a walk. -/
theorem wpList_appS {P : Program} (w : World) {ops : Array Oper} {rest : List Oper} {o : Oper} {a : Act} {Q : Exit → Act → World → Prop} (hgd : o.guard = none) (s x : Operand) (t e : TypeId)
    (ho : o.op = .call { callee := .builtin .append, args := #[s, x], argTypes := #[t, t] })
    (ht : P.underlying t = some (.slice e)) (hinfo : (P.info? e).map (fun i => (i.zero, i.size, i.bytes)) = some (some (.string ⟨#[]⟩), 1, 16))
    (base : Nat) (av : Option Addr) (n cap : Nat) (zs : List ByteArray) (c : ByteArray) (hs : a.eval s = .slice av n cap) (hown : w.ownsRow base e 1 (.slice av n cap) n (zs.map .string))
    (ad : Addr) (hx : a.eval x = .slice (some ad) 1 1) (hnew : w.cell? ad = some (.string c)) (hl : n ≤ 4294967296) (hbase : base ≤ w.heap.size)
    (h : ∀ g cap' w', w'.ownsRow base e 1 (.slice (some ⟨g, 0, none⟩) (n + 1) cap') (n + 1) ((zs ++ [c]).map .string) → w.grownBy w' (Value.slice av n cap).ownBlock →
      wpList P ops Q rest (a.put o.dst (.slice (some ⟨g, 0, none⟩) (n + 1) cap')) w') : wpList P ops Q (o :: rest) a w := by
  obtain ⟨i0, hi, hz0, hz1, hz2⟩ := info_parts hinfo
  refine wpList_append_own w hgd s x t ho base e i0 (.string ⟨#[]⟩) 1 16 ht hi hz0 hz1 hz2 rfl (by decide) (.slice av n cap) n (zs.map .string) hs hown ad 1 1 [.string c] hx rfl ?_ ?_ ?_ ?_ hbase ?_
  · intro j u hj
    match j, hj with
    | 0, hj => simp at hj; subst hj; rw [← hnew]; congr 1
  · intro u hu; simp at hu; subst hu; rfl
  · unfold maxLen; omega
  · omega
  · intro v' w' h2 h3 h4
    rcases h2.2 with ⟨rfl, h0⟩ | ⟨g, cap', cur, rfl, rest⟩
    · omega
    · exact h g cap' w' (by simpa using h2) h3

/-- Byte i of a text. -/
def bt (s : ByteArray) (i : Nat) : Nat := if h : i < s.size then (s[i]'h).toNat else 0
theorem bt_at {s : ByteArray} {i : Nat} (h : i < s.size) : (s[i]'h).toNat = bt s i := by simp [bt, h]
theorem bt_lt (s : ByteArray) (i : Nat) : bt s i < 256 := by
  unfold bt
  split
  · exact UInt8.toNat_lt _
  · omega

/-- What is cut off before byte k, and where the word under way begins. -/
def cutTo (s : ByteArray) : Nat → List (Nat × Nat) × Nat
  | 0 => ([], 0)
  | k + 1 => if bt s k = 32 then ((cutTo s k).1 ++ [((cutTo s k).2, k)], k + 1) else cutTo s k
theorem cutTo_yes {s : ByteArray} {k : Nat} (h : bt s k = 32) : cutTo s (k + 1) = ((cutTo s k).1 ++ [((cutTo s k).2, k)], k + 1) := by simp [cutTo, h]
theorem cutTo_no {s : ByteArray} {k : Nat} (h : ¬ bt s k = 32) : cutTo s (k + 1) = cutTo s k := by simp [cutTo, h]
theorem cutTo_from (s : ByteArray) : ∀ k, (cutTo s k).2 ≤ k := by
  intro k
  induction k with
  | zero => simp [cutTo]
  | succ k ih =>
    by_cases h : bt s k = 32
    · rw [cutTo_yes h]; exact Nat.le_refl _
    · rw [cutTo_no h]; omega
theorem cutTo_length (s : ByteArray) : ∀ k, (cutTo s k).1.length ≤ k := by
  intro k
  induction k with
  | zero => simp [cutTo]
  | succ k ih =>
    by_cases h : bt s k = 32
    · rw [cutTo_yes h]; simp; omega
    · rw [cutTo_no h]; omega
/-- The pieces of a text. -/
def strs (s : ByteArray) (l : List (Nat × Nat)) : List ByteArray := l.map fun p => s.extract p.1 p.2
theorem strs_length (s : ByteArray) (l : List (Nat × Nat)) : (strs s l).length = l.length := by simp [strs]
theorem strs_snoc (s : ByteArray) (l : List (Nat × Nat)) (a b : Nat) : strs s (l ++ [(a, b)]) = strs s l ++ [s.extract a b] := by simp [strs]
def wordsOf (s : ByteArray) : List ByteArray := strs s (cutTo s s.size).1 ++ [s.extract (cutTo s s.size).2 s.size]

set_option maxRecDepth 100000 in
set_option maxHeartbeats 1000000 in
theorem specCut (s : ByteArray) (w : World) (hn : s.size ≤ 1048576) :
    Calls Tryz.prog 7 #[.string s, .int .u8 32] w fun e w' => ∃ av cp, e = .returned (.slice av (wordsOf s).length cp) ∧ w'.ownsRow w.heap.size 9 1 (.slice av (wordsOf s).length cp) (wordsOf s).length ((wordsOf s).map .string) ∧ Below w.heap.size w w' := by
  have hmade : (w.alloc (.cells #[] 9)).ownsRow w.heap.size 9 1 (.slice (some ⟨w.heap.size, 0, none⟩) 0 0) 0 ((strs s []).map .string) := World.ownsRow_made w #[] 0 (Nat.le_refl _) (by unfold maxLen; omega) rfl
  go_enter Tryz.func7, Tryz.ntmps7
  go_wp2
  go_loopw [5, 6, 7] (fun v f i wr => ∃ (k : Nat) (av : Option Addr) (cp : Nat), k ≤ s.size ∧ i = .int .i64 k ∧ f = .int .i64 ((cutTo s k).2 : Nat) ∧ v = .slice av (cutTo s k).1.length cp ∧
      wr.ownsRow w.heap.size 9 1 (.slice av (cutTo s k).1.length cp) (cutTo s k).1.length ((strs s (cutTo s k).1).map .string) ∧ Below w.heap.size w wr) (fun _ _ i _ => s.size - (intOf i).toNat)
  case atStart => exact ⟨0, _, _, Nat.zero_le _, rfl, rfl, rfl, hmade, (Below.refl _ _).alloc (Nat.le_refl _) _⟩
  case round =>
    clear hmade
    obtain ⟨k, av, cp, hk, rfl, rfl, rfl, hown, hb⟩ := hrel
    have hf := cutTo_from s k
    have hL := cutTo_length s k
    have sz := hb.size
    by_cases hlt : k < s.size
    · have hki : (k : Int) < (s.size : Int) := by omega
      by_cases h : bt s k = 32
      · have h' : (s[k]'hlt).toNat = 32 := (bt_at hlt).trans h
        have HN := cutTo_yes h
        obtain ⟨F, hF⟩ : ∃ F, F = (cutTo s k).2 := ⟨_, rfl⟩
        obtain ⟨L, hLL⟩ : ∃ L, L = (cutTo s k).1 := ⟨_, rfl⟩
        rw [← hF, ← hLL] at HN
        rw [← hLL] at hown hL
        rw [← hF] at hf
        rw [← hF, ← hLL]
        have HNN : Hid (cutTo s (k + 1) = (L ++ [(F, k)], k + 1)) := HN
        have hfi : (F : Int) ≤ (k : Int) := by omega
        clear HN hF hLL h
        go_wp2_with (at_builtin; refine wpList_appS _ rfl (.tmp 20) (.tmp 25) 28 9 rfl Tryz.underlying28 info_str w.heap.size _ _ _ (strs s L) (s.extract F k) rfl (hown.alloc _) _ rfl (cell_alloc1 _ _ _ _ rfl) (by omega) (by simp; omega) ?_; intro g5 cp5 w5 ho5 hg5)
        go_roundw
        case rel =>
          refine ⟨k + 1, some ⟨g5, 0, none⟩, cp5, by omega, by go_num, ?_⟩
          rw [HNN.out]
          refine ⟨by go_num, by simp, ?_, below_grown (hb.alloc sz _) (hown.alloc _) hg5 (Nat.le_refl _) (by simp; omega)⟩
          rw [strs_snoc]
          simpa using ho5
        case measure => simp [intOf]; omega
      · have h' : ¬ (s[k]'hlt).toNat = 32 := fun e => h ((bt_at hlt).symm.trans e)
        have HN : Hid (cutTo s (k + 1) = cutTo s k) := cutTo_no h
        clear h
        go_wp2
        go_roundw
        case rel =>
          refine ⟨k + 1, av, cp, by omega, by go_num, ?_⟩
          rw [HN.out]
          exact ⟨rfl, rfl, hown, hb⟩
        case measure => simp [intOf]; omega
    · obtain rfl : k = s.size := by omega
      have HW : Hid (wordsOf s = strs s (cutTo s s.size).1 ++ [s.extract (cutTo s s.size).2 s.size]) := rfl
      obtain ⟨F, hF⟩ : ∃ F, F = (cutTo s s.size).2 := ⟨_, rfl⟩
      obtain ⟨L, hLL⟩ : ∃ L, L = (cutTo s s.size).1 := ⟨_, rfl⟩
      rw [← hF, ← hLL] at HW
      rw [← hLL] at hown hL
      rw [← hF] at hf
      rw [← hF, ← hLL]
      have hfi : (F : Int) ≤ (s.size : Int) := by omega
      have HWL : Hid ((wordsOf s).length = L.length + 1) := by unfold Hid; rw [HW.out]; simp [strs_length]
      clear hF hLL
      go_wp2_with (at_builtin; refine wpList_appS _ rfl (.tmp 29) (.tmp 33) 28 9 rfl Tryz.underlying28 info_str w.heap.size _ _ _ (strs s L) (s.extract F s.size) rfl (hown.alloc _) _ rfl (cell_alloc1 _ _ _ _ rfl) (by omega) (by simp; omega) ?_; intro g5 cp5 w5 ho5 hg5)
      go_ret
      exact ⟨some ⟨g5, 0, none⟩, cp5, by rw [HWL.out]; rfl, by rw [HWL.out, HW.out]; exact ho5, below_grown (hb.alloc sz _) (hown.alloc _) hg5 (Nat.le_refl _) (by simp; omega)⟩
end Go.Proofs.YtjiaiaclmceeeaaGreatDoor
