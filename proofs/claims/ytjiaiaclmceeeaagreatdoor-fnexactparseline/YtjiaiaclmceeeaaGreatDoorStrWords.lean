import Derived.Test.YtjiaiaclmceeeaaGreatDoorStrNum
import Derived.WalkSmall
import Derived.WalkMore
import Derived.Lib.OthersKept
namespace Go.Proofs.YtjiaiaclmceeeaaGreatDoor
open Go.ChangeShapes Go.WideShapes Go.ChangeAt Go.RowKit
set_option linter.unusedVariables false

/-- No byte before k is barred, no word before k empty. -/
def GoodTo (s : ByteArray) (k : Nat) : Prop := ∀ i, i < k → (32 ≤ bt s i ∧ bt s i ≤ 126) ∧ (bt s i = 32 → ¬ (cutTo s i).2 = i)
def Good (s : ByteArray) : Prop := GoodTo s s.size ∧ ¬ (cutTo s s.size).2 = s.size
theorem GoodTo.next {s : ByteArray} {k : Nat} (h : GoodTo s k) (h1 : 32 ≤ bt s k) (h2 : bt s k ≤ 126) (h3 : bt s k = 32 → ¬ (cutTo s k).2 = k) : GoodTo s (k + 1) := by
  intro i hi
  by_cases e : i = k
  · subst e; exact ⟨⟨h1, h2⟩, h3⟩
  · exact h i (by omega)
/-- An owned row is no iterator. -/
theorem off_row {w : World} {B e size n : Nat} {v : Value} {xs : List Value} {k : Nat} {s : ByteArray} {pos : Nat} (h : w.ownsRow B e size v n xs) (hk : w.heap[k]? = some (.stringIter s pos)) : v.ownBlock ≠ some k := by
  cases h.2 with
  | inl h0 => simp [h0.1, Value.ownBlock]
  | inr h1 =>
    obtain ⟨g, cap, cur, rfl, _, hg, _⟩ := h1
    intro e
    simp [Value.ownBlock] at e
    subst e
    simp [hk] at hg
theorem grown_iter (w : World) (k : Nat) (s : ByteArray) (pos : Nat) : w.grownBy (w.iterAt k s pos) (some k) :=
  ⟨rfl, rfl, rfl, by rw [Lib.iterAt_size]; exact Nat.le_refl _, fun i _ h => Lib.iterAt_other w k i s pos (fun e => h (by rw [e]))⟩
theorem row_iter {w : World} {B e size n : Nat} {v : Value} {xs : List Value} {k : Nat} {s : ByteArray} {pos : Nat} (h : w.ownsRow B e size v n xs) (hk : w.heap[k]? = some (.stringIter s pos)) (q : Nat) : (w.iterAt k s q).ownsRow B e size v n xs := by
  refine h.kept (grown_iter w k s q) ?_
  have := off_row h hk
  cases hv : v.ownBlock with
  | none => exact .inl rfl
  | some j => exact .inr (by rw [hv] at this; exact this)
theorem iter_lt {w : World} {k : Nat} {s : ByteArray} {pos : Nat} (h : w.heap[k]? = some (.stringIter s pos)) : k < w.heap.size := (Array.getElem?_eq_some_iff.1 h).1

def CutP (s : ByteArray) (w : World) (e : Ending) (w' : World) : Prop :=
  ((Good s ∧ ∃ av cp, e = .returned (.tuple #[.slice av (wordsOf s).length cp, .bool true]) ∧ w'.ownsRow w.heap.size 9 1 (.slice av (wordsOf s).length cp) (wordsOf s).length ((wordsOf s).map .string)) ∨
    (¬ Good s ∧ e = .returned (.tuple #[.slice none 0 0, .bool false]))) ∧ Below w.heap.size w w'
theorem CutP.no {s : ByteArray} {w w' : World} {e : Ending} (h : ¬ Good s) (he : e = .returned (.tuple #[.slice none 0 0, .bool false])) (hb : Below w.heap.size w w') : CutP s w e w' := ⟨.inr ⟨h, he⟩, hb⟩

set_option maxRecDepth 100000 in
set_option maxHeartbeats 1000000 in
theorem implCut (s : ByteArray) (w : World) (hn : s.size ≤ 1048576) : Calls Tryz.prog 15 #[.string s] w (CutP s w) := by
  go_enter Tryz.func15, Tryz.ntmps15
  go_wp2; go_step3; go_wp2; go_step3; go_wp2
  go_loopw [4, 5, 6] (fun v f h wr => h = .bool true ∧ ∃ (k : Nat) (av : Option Addr) (cp : Nat), k ≤ s.size ∧ wr.heap[w.heap.size]? = some (.stringIter s k) ∧ f = .int .i64 ((cutTo s k).2 : Nat) ∧ v = .slice av (cutTo s k).1.length cp ∧ Hid (GoodTo s k) ∧
      wr.ownsRow w.heap.size 9 1 (.slice av (cutTo s k).1.length cp) (cutTo s k).1.length ((strs s (cutTo s k).1).map .string) ∧ Below w.heap.size w wr) (fun _ _ _ wr => s.size - wr.iterPos w.heap.size)
  case atStart => exact ⟨rfl, 0, none, 0, Nat.zero_le _, World.iter_heap w s 0, rfl, rfl, (fun i hi => by omega : GoodTo s 0), World.ownsRow_nil _ _ _ _, iter_below _ _ _⟩
  case round =>
    obtain ⟨rfl, k, av, cp, hk, hit, rfl, rfl, HG, hown, hb⟩ := hrel
    have hf := cutTo_from s k
    have hL := cutTo_length s k
    have sz := hb.size
    have hil := iter_lt hit
    by_cases hlt : k < s.size
    · have hc := bt_at hlt
      have hcb := bt_lt s k
      by_cases ha : bt s k < 128
      · have hnx : ∀ ty, (Instr.next (.pointer (some ⟨w.heap.size, 0, none⟩)) true ty).run Tryz.prog wr = _ := fun ty => Lib.run_next_ascii_at wr w.heap.size s k ty hit hlt (by omega)
        by_cases q1 : bt s k < 32
        · have q1' : ((s[k]'hlt).toNat : Int) < 32 := by omega
          have HF : Hid (¬ Good s) := fun h => by have := (h.1 k hlt).1; omega
          clear hc hcb q1 ha
          go_wp2
          try rw [Exit.noGoto_ret]
          go_ret2
          exact .no HF.out rfl (Lib.below_iterAt hb (Nat.le_refl _) _ _)
        · by_cases q2 : 126 < bt s k
          · have q1' : ¬ ((s[k]'hlt).toNat : Int) < 32 := by omega
            have q2' : (126 : Int) < ((s[k]'hlt).toNat : Int) := by omega
            have HF : Hid (¬ Good s) := fun h => by have := (h.1 k hlt).1; omega
            clear hc hcb q1 q2 ha
            go_wp2
            try rw [Exit.noGoto_ret]
            go_ret2
            exact .no HF.out rfl (Lib.below_iterAt hb (Nat.le_refl _) _ _)
          · have q1' : ¬ ((s[k]'hlt).toNat : Int) < 32 := by omega
            have q2' : ¬ (126 : Int) < ((s[k]'hlt).toNat : Int) := by omega
            by_cases q3 : bt s k = 32
            · have q3' : (s[k]'hlt).toNat = 32 := hc.trans q3
              by_cases q4 : (cutTo s k).2 = k
              · have HF : Hid (¬ Good s) := fun h => (h.1 k hlt).2 q3 q4
                clear hc hcb q1 q2 ha q1' q2'
                rw [q4]
                go_wp2
                try rw [Exit.noGoto_ret]
                go_ret2
                exact .no HF.out rfl (Lib.below_iterAt hb (Nat.le_refl _) _ _)
              · have HGN : Hid (GoodTo s (k + 1)) := HG.out.next (by omega) (by omega) (fun _ => q4)
                have HN := cutTo_yes q3
                obtain ⟨F, hF⟩ : ∃ F, F = (cutTo s k).2 := ⟨_, rfl⟩
                obtain ⟨L, hLL⟩ : ∃ L, L = (cutTo s k).1 := ⟨_, rfl⟩
                rw [← hF, ← hLL] at HN
                rw [← hLL] at hown hL
                rw [← hF] at hf q4
                rw [← hF, ← hLL]
                have HNN : Hid (cutTo s (k + 1) = (L ++ [(F, k)], k + 1)) := HN
                have hfi : (F : Int) ≤ (k : Int) := by omega
                have q5 : ¬ (k : Int) = (F : Int) := by omega
                have hki : (k : Int) ≤ (s.size : Int) := by omega
                have hown1 := row_iter hown hit (k + 1)
                have hb1 := Lib.below_iterAt hb (Nat.le_refl _) s (k + 1)
                have hit1 := Lib.iterAt_heap wr w.heap.size s k (k + 1) hit
                have sz1 := Lib.iterAt_size wr w.heap.size s (k + 1)
                clear HN hF hLL hc hcb q1 q2 ha q3 q1' q2'
                have hps := iterPos_of hit
                go_wp2_with (at_builtin; refine wpList_appS _ rfl (.tmp 34) (.tmp 39) 28 9 rfl Tryz.underlying28 info_str w.heap.size _ _ _ (strs s L) (s.extract F k) rfl (hown1.alloc _) _ rfl (cell_alloc1 _ _ _ _ (Lib.iterAt_size _ _ _ _).symm) (by omega) (by simp [sz1]; omega) ?_; intro g5 cp5 w5 ho5 hg5)
                have hit5 : w5.heap[w.heap.size]? = some (.stringIter s (k + 1)) := (hg5.block _ (by simp [sz1]; omega) (fun e => off_row hown1 hit1 e.symm)).trans ((Below.heap_alloc _ _ _ (by rw [sz1]; exact hil)).trans hit1)
                have hps5 := iterPos_of hit5
                go_roundw
                case rel =>
                  refine ⟨rfl, k + 1, some ⟨g5, 0, none⟩, cp5, by omega, hit5, ?_⟩
                  rw [HNN.out]
                  refine ⟨by go_num, by simp, HGN, ?_, below_grown (hb1.alloc (by rw [sz1]; exact sz) _) (hown1.alloc _) hg5 (Nat.le_refl _) (by simp [sz1]; omega)⟩
                  rw [strs_snoc]
                  simpa using ho5
                case measure => rw [hps, hps5]; omega
            · have q3' : ¬ (s[k]'hlt).toNat = 32 := fun e => q3 (hc.symm.trans e)
              have HGN : Hid (GoodTo s (k + 1)) := HG.out.next (by omega) (by omega) (fun e => absurd e q3)
              have HN : Hid (cutTo s (k + 1) = cutTo s k) := cutTo_no q3
              have hown1 := row_iter hown hit (k + 1)
              have hb1 := Lib.below_iterAt hb (Nat.le_refl _) s (k + 1)
              have hit1 := Lib.iterAt_heap wr w.heap.size s k (k + 1) hit
              have hps := iterPos_of hit
              have hps1 := iterPos_of hit1
              clear hc hcb q1 q2 ha q3
              go_wp2
              go_roundw
              case rel =>
                refine ⟨rfl, k + 1, av, cp, by omega, hit1, ?_⟩
                rw [HN.out]
                exact ⟨rfl, rfl, HGN, hown1, hb1⟩
              case measure => rw [hps, hps1]; omega
      · have hh := decode_high s k hlt (by omega)
        have hl := decode_le s k
        have hnx : ∀ ty, (Instr.next (.pointer (some ⟨w.heap.size, 0, none⟩)) true ty).run Tryz.prog wr = _ := fun ty => Lib.run_next_any_at wr w.heap.size s k ty hit hlt
        obtain ⟨R, hR⟩ : ∃ R, R = (Utf8.decode s k).1 := ⟨_, rfl⟩
        rw [← hR] at hh hl hnx
        have q1' : ¬ (R : Int) < 32 := by omega
        have q2' : (126 : Int) < (R : Int) := by omega
        have HF : Hid (¬ Good s) := fun h => by have := (h.1 k hlt).1; omega
        clear hc hcb ha hR hh hl
        go_wp2
        try rw [Exit.noGoto_ret]
        go_ret2
        exact .no HF.out rfl (Lib.below_iterAt hb (Nat.le_refl _) _ _)
    · obtain rfl : k = s.size := by omega
      have hnx : ∀ ty, (Instr.next (.pointer (some ⟨w.heap.size, 0, none⟩)) true ty).run Tryz.prog wr = _ := fun ty => Lib.run_next_end_at wr w.heap.size s s.size ty hit hlt
      by_cases q4 : (cutTo s s.size).2 = s.size
      · have HF : Hid (¬ Good s) := fun h => h.2 q4
        rw [q4]
        go_wp2
        try rw [Exit.noGoto_ret]
        go_ret2
        exact .no HF.out rfl hb
      · have HGG : Hid (Good s) := ⟨HG.out, q4⟩
        have HW : Hid (wordsOf s = strs s (cutTo s s.size).1 ++ [s.extract (cutTo s s.size).2 s.size]) := rfl
        obtain ⟨F, hF⟩ : ∃ F, F = (cutTo s s.size).2 := ⟨_, rfl⟩
        obtain ⟨L, hLL⟩ : ∃ L, L = (cutTo s s.size).1 := ⟨_, rfl⟩
        rw [← hF, ← hLL] at HW
        rw [← hLL] at hown hL
        rw [← hF] at hf q4
        rw [← hF, ← hLL]
        have hfi : (F : Int) ≤ (s.size : Int) := by omega
        have q5 : ¬ (F : Int) = (s.size : Int) := by omega
        have HWL : Hid ((wordsOf s).length = L.length + 1) := by unfold Hid; rw [HW.out]; simp [strs_length]
        clear hF hLL HG
        go_wp2_with (at_builtin; refine wpList_appS _ rfl (.tmp 51) (.tmp 55) 28 9 rfl Tryz.underlying28 info_str w.heap.size _ _ _ (strs s L) (s.extract F s.size) rfl (hown.alloc _) _ rfl (cell_alloc1 _ _ _ _ rfl) (by omega) (by simp; omega) ?_; intro g5 cp5 w5 ho5 hg5)
        try rw [Exit.noGoto_ret]
        go_ret2
        exact ⟨.inl ⟨HGG.out, some ⟨g5, 0, none⟩, cp5, by rw [HWL.out]; rfl, by rw [HWL.out, HW.out]; exact ho5⟩, below_grown (hb.alloc sz _) (hown.alloc _) hg5 (Nat.le_refl _) (by simp; omega)⟩
end Go.Proofs.YtjiaiaclmceeeaaGreatDoor
