import Derived.Test.YtjiaiaclmceeeaaGreatDoorLWord1
namespace Go.Proofs.YtjiaiaclmceeeaaGreatDoor
open Go.ChangeShapes Go.WideShapes Go.ChangeAt Go.RowKit
set_option linter.unusedVariables false

theorem ReadW.yes {k : Nat} {u : ByteArray} {B : Nat} {c : Cmd} {w w1 w' : World} (hb : Below w.heap.size w w1) (hB : B < w.heap.size) (hok : okW k u) (hg : w1.grownBy w' (some B)) (hc : w'.heap[B]? = some (.cells (setW k u c).vals 23 (0, 0))) : ReadW k u B c w (.returned (.bool true)) w' :=
  ⟨.inl ⟨hok, rfl, hc⟩, Nat.le_trans hb.size hg.size, fun j hj hne => (hg.block j (Nat.lt_of_lt_of_le hj hb.size) (fun e => hne (Option.some.inj e))).trans (hb.block j hj), hg.os.trans hb.os, hg.tape.trans hb.tape, hg.output.trans hb.output⟩
theorem ReadW.no {k : Nat} {u : ByteArray} {B : Nat} {c : Cmd} {w w1 w' : World} (hb : Below w.heap.size w w1) (hB : B < w.heap.size) (hok : ¬ okW k u) (hg : w1.grownBy w' (some B)) : ReadW k u B c w (.returned (.bool false)) w' :=
  ⟨.inr ⟨hok, rfl⟩, Nat.le_trans hb.size hg.size, fun j hj hne => (hg.block j (Nat.lt_of_lt_of_le hj hb.size) (fun e => hne (Option.some.inj e))).trans (hb.block j hj), hg.os.trans hb.os, hg.tape.trans hb.tape, hg.output.trans hb.output⟩
theorem grown_setB (w : World) (b i : Nat) (v : Value) : w.grownBy (w.setCell ⟨b, i, none⟩ v) (some b) := grown_set w b i v
set_option maxHeartbeats 1000000 in
set_option maxRecDepth 100000 in
theorem readWord_0 (u : ByteArray) (h1 : 1 ≤ u.size) (hu : u.size ≤ 1048576) (B : Nat) (c : Cmd) (w : World) (hB : w.heap[B]? = some (.cells c.vals 23 (0, 0))) : Calls Tryz.prog 16 #[.pointer (some ⟨B, 0, none⟩), .int .i64 0, .string u] w (ReadW 0 u B c w) := by
  have hBl := (Array.getElem?_eq_some_iff.1 hB).1
  have HB1 : Hid (∀ w1, Below w.heap.size w w1 → w1.heap[B]? = some (.cells c.vals 23 (0, 0))) := fun w1 hb => (hb.block B hBl).trans hB
  rcases num_cases6 u (by omega) with ⟨ok, _, hn⟩ | ⟨ok, _, hn⟩
  · have hcall := hn w
    obtain ⟨x, hx⟩ : ∃ x : Int, Hid (x = (dig u u.size : Nat)) := ⟨_, rfl⟩
    rw [← hx.out] at hcall
    have OK : Hid _ := ok
    clear hB ok hn
    go_enter Tryz.func16, Tryz.ntmps16
    go_wp2_with fail
    refine hcall.mono ?_
    rintro e w1 ⟨rfl, hb1⟩
    have hB1 := HB1.out w1 hb1
    obtain ⟨⟨c0, c1, c2, c3, c4, c5⟩, cf⟩ := cells6s hB1
    have cfj := cf 4
    clear cf hcall
    go_wp2_with fail
    go_ret
    exact ReadW.yes hb1 hBl OK.out (grown_setB w1 B 4 _) (by rw [heap_setCell_same w1 B 4 _ _ _ hB1, hx.out]; rfl)
  · have hcall := hn h1 w
    have OK : Hid _ := ok
    clear hB ok hn
    go_enter Tryz.func16, Tryz.ntmps16
    go_wp2_with fail
    refine hcall.mono ?_
    rintro e w1 ⟨rfl, hb1⟩
    have hB1 := HB1.out w1 hb1
    obtain ⟨⟨c0, c1, c2, c3, c4, c5⟩, cf⟩ := cells6s hB1
    have cfj := cf 4
    clear cf hcall
    go_wp2_with fail
    go_ret
    exact ReadW.no hb1 hBl OK.out (grown_setB w1 B 4 _)
set_option maxHeartbeats 1000000 in
set_option maxRecDepth 100000 in
theorem readWord_1 (u : ByteArray) (h1 : 1 ≤ u.size) (hu : u.size ≤ 1048576) (B : Nat) (c : Cmd) (w : World) (hB : w.heap[B]? = some (.cells c.vals 23 (0, 0))) : Calls Tryz.prog 16 #[.pointer (some ⟨B, 0, none⟩), .int .i64 1, .string u] w (ReadW 1 u B c w) := by
  have hBl := (Array.getElem?_eq_some_iff.1 hB).1
  have HB1 : Hid (∀ w1, Below w.heap.size w w1 → w1.heap[B]? = some (.cells c.vals 23 (0, 0))) := fun w1 hb => (hb.block B hBl).trans hB
  rcases num_cases6 u (by omega) with ⟨ok, _, hn⟩ | ⟨ok, _, hn⟩
  · have hcall := hn w
    obtain ⟨x, hx⟩ : ∃ x : Int, Hid (x = (dig u u.size : Nat)) := ⟨_, rfl⟩
    rw [← hx.out] at hcall
    have OK : Hid _ := ok
    clear hB ok hn
    go_enter Tryz.func16, Tryz.ntmps16
    go_wp2_with fail
    refine hcall.mono ?_
    rintro e w1 ⟨rfl, hb1⟩
    have hB1 := HB1.out w1 hb1
    obtain ⟨⟨c0, c1, c2, c3, c4, c5⟩, cf⟩ := cells6s hB1
    have cfj := cf 1
    clear cf hcall
    go_wp2_with fail
    go_ret
    exact ReadW.yes hb1 hBl OK.out (grown_setB w1 B 1 _) (by rw [heap_setCell_same w1 B 1 _ _ _ hB1, hx.out]; rfl)
  · have hcall := hn h1 w
    have OK : Hid _ := ok
    clear hB ok hn
    go_enter Tryz.func16, Tryz.ntmps16
    go_wp2_with fail
    refine hcall.mono ?_
    rintro e w1 ⟨rfl, hb1⟩
    have hB1 := HB1.out w1 hb1
    obtain ⟨⟨c0, c1, c2, c3, c4, c5⟩, cf⟩ := cells6s hB1
    have cfj := cf 1
    clear cf hcall
    go_wp2_with fail
    go_ret
    exact ReadW.no hb1 hBl OK.out (grown_setB w1 B 1 _)
set_option maxHeartbeats 1000000 in
set_option maxRecDepth 100000 in
theorem readWord_2 (u : ByteArray) (h1 : 1 ≤ u.size) (hu : u.size ≤ 1048576) (B : Nat) (c : Cmd) (w : World) (hB : w.heap[B]? = some (.cells c.vals 23 (0, 0))) : Calls Tryz.prog 16 #[.pointer (some ⟨B, 0, none⟩), .int .i64 2, .string u] w (ReadW 2 u B c w) := by
  have hBl := (Array.getElem?_eq_some_iff.1 hB).1
  have HB1 : Hid (∀ w1, Below w.heap.size w w1 → w1.heap[B]? = some (.cells c.vals 23 (0, 0))) := fun w1 hb => (hb.block B hBl).trans hB
  rcases num_cases6 u (by omega) with ⟨ok, _, hn⟩ | ⟨ok, _, hn⟩
  · have hcall := hn w
    obtain ⟨x, hx⟩ : ∃ x : Int, Hid (x = (dig u u.size : Nat)) := ⟨_, rfl⟩
    rw [← hx.out] at hcall
    have OK : Hid _ := ok
    clear hB ok hn
    go_enter Tryz.func16, Tryz.ntmps16
    go_wp2_with fail
    refine hcall.mono ?_
    rintro e w1 ⟨rfl, hb1⟩
    have hB1 := HB1.out w1 hb1
    obtain ⟨⟨c0, c1, c2, c3, c4, c5⟩, cf⟩ := cells6s hB1
    have cfj := cf 3
    clear cf hcall
    go_wp2_with fail
    go_ret
    exact ReadW.yes hb1 hBl OK.out (grown_setB w1 B 3 _) (by rw [heap_setCell_same w1 B 3 _ _ _ hB1, hx.out]; rfl)
  · have hcall := hn h1 w
    have OK : Hid _ := ok
    clear hB ok hn
    go_enter Tryz.func16, Tryz.ntmps16
    go_wp2_with fail
    refine hcall.mono ?_
    rintro e w1 ⟨rfl, hb1⟩
    have hB1 := HB1.out w1 hb1
    obtain ⟨⟨c0, c1, c2, c3, c4, c5⟩, cf⟩ := cells6s hB1
    have cfj := cf 3
    clear cf hcall
    go_wp2_with fail
    go_ret
    exact ReadW.no hb1 hBl OK.out (grown_setB w1 B 3 _)
set_option maxHeartbeats 1000000 in
set_option maxRecDepth 100000 in
theorem readWord_3 (u : ByteArray) (h1 : 1 ≤ u.size) (hu : u.size ≤ 1048576) (B : Nat) (c : Cmd) (w : World) (hB : w.heap[B]? = some (.cells c.vals 23 (0, 0))) : Calls Tryz.prog 16 #[.pointer (some ⟨B, 0, none⟩), .int .i64 3, .string u] w (ReadW 3 u B c w) := by
  have hBl := (Array.getElem?_eq_some_iff.1 hB).1
  by_cases q1 : u.toList = [98]
  · obtain ⟨⟨c0, c1, c2, c3, c4, c5⟩, cf⟩ := cells6s hB
    have cfj := cf 2
    have hcall := readDir_b u q1 w
    have Q1 : Hid _ := q1
    have HB : Hid _ := hB
    clear cf hB q1
    go_enter Tryz.func16, Tryz.ntmps16
    go_wp2_with fail
    refine hcall.mono ?_
    rintro e w1 ⟨rfl, rfl⟩
    clear hcall
    go_wp2_with fail
    go_ret
    exact ReadW.yes (Below.refl _ _) hBl (.inl Q1.out) (grown_setB _ B 2 _) (by rw [heap_setCell_same _ B 2 _ _ _ HB.out]; simp only [setW]; rw [if_pos Q1.out]; rfl)
  by_cases q2 : u.toList = [102]
  · obtain ⟨⟨c0, c1, c2, c3, c4, c5⟩, cf⟩ := cells6s hB
    have cfj := cf 2
    have hcall := readDir_n u q1 true (by rw [q2]; rfl) w
    have Q1 : Hid _ := q1
    have Q2 : Hid _ := q2
    have HB : Hid _ := hB
    clear cf hB q1 q2
    go_enter Tryz.func16, Tryz.ntmps16
    go_wp2_with fail
    refine hcall.mono ?_
    rintro e w1 ⟨rfl, rfl⟩
    clear hcall
    go_wp2_with fail
    go_ret
    exact ReadW.yes (Below.refl _ _) hBl (.inr Q2.out) (grown_setB _ B 2 _) (by rw [heap_setCell_same _ B 2 _ _ _ HB.out]; simp only [setW]; rw [if_neg Q1.out]; rfl)
  · obtain ⟨⟨c0, c1, c2, c3, c4, c5⟩, cf⟩ := cells6s hB
    have cfj := cf 2
    have hcall := readDir_n u q1 false (beq_eq_false_iff_ne.2 q2) w
    have Q1 : Hid _ := q1
    have Q2 : Hid _ := q2
    clear cf hB q1 q2
    go_enter Tryz.func16, Tryz.ntmps16
    go_wp2_with fail
    refine hcall.mono ?_
    rintro e w1 ⟨rfl, rfl⟩
    clear hcall
    go_wp2_with fail
    go_ret
    exact ReadW.no (Below.refl _ _) hBl (fun h => h.elim Q1.out Q2.out) (grown_setB _ B 2 _)
set_option maxHeartbeats 1000000 in
set_option maxRecDepth 100000 in
theorem readWord_4 (u : ByteArray) (h1 : 1 ≤ u.size) (hu : u.size ≤ 1048576) (B : Nat) (c : Cmd) (w : World) (hB : w.heap[B]? = some (.cells c.vals 23 (0, 0))) : Calls Tryz.prog 16 #[.pointer (some ⟨B, 0, none⟩), .int .i64 4, .string u] w (ReadW 4 u B c w) := by
  have hBl := (Array.getElem?_eq_some_iff.1 hB).1
  obtain ⟨⟨c0, c1, c2, c3, c4, c5⟩, cf⟩ := cells6s hB
  have cf5 := cf 5
  have cf4 := cf 4
  have HB : Hid _ := hB
  clear cf hB
  go_enter Tryz.func16, Tryz.ntmps16
  go_wp2_with fail
  go_ret
  exact ReadW.yes (Below.refl _ _) hBl h1 (grown_trans (grown_setB _ B 5 _) (grown_setB _ B 4 _)) (by rw [heap_setCell_same _ B 4 _ _ _ (heap_setCell_same _ B 5 _ _ _ HB.out)]; rfl)
set_option maxHeartbeats 1000000 in
set_option maxRecDepth 100000 in
theorem readWord_5 (u : ByteArray) (h1 : 1 ≤ u.size) (hu : u.size ≤ 1048576) (B : Nat) (c : Cmd) (w : World) (hB : w.heap[B]? = some (.cells c.vals 23 (0, 0))) : Calls Tryz.prog 16 #[.pointer (some ⟨B, 0, none⟩), .int .i64 5, .string u] w (ReadW 5 u B c w) := by
  have hBl := (Array.getElem?_eq_some_iff.1 hB).1
  obtain ⟨⟨c0, c1, c2, c3, c4, c5⟩, cf⟩ := cells6s hB
  have cf5 := cf 5
  have HB : Hid _ := hB
  clear cf hB
  by_cases q : u.size = 1
  · have bq : ((u.size : Int) == 1) = true := beq_iff_eq.2 (by omega)
    have bq' : (u.size == 1) = true := beq_iff_eq.2 q
    have Q : Hid _ := q
    clear q
    go_enter Tryz.func16, Tryz.ntmps16
    go_wp2_with fail
    go_ret
    exact ReadW.yes (Below.refl _ _) hBl Q.out (grown_setB _ B 5 _) (by rw [heap_setCell_same _ B 5 _ _ _ HB.out]; rfl)
  · have bq : ((u.size : Int) == 1) = false := beq_eq_false_iff_ne.2 (by omega)
    have bq' : (u.size == 1) = false := beq_eq_false_iff_ne.2 q
    have Q : Hid _ := q
    clear q
    go_enter Tryz.func16, Tryz.ntmps16
    go_wp2_with fail
    go_ret
    exact ReadW.no (Below.refl _ _) hBl Q.out (grown_setB _ B 5 _)
set_option maxHeartbeats 1000000 in
set_option maxRecDepth 100000 in
theorem readWord_6 (u : ByteArray) (h1 : 1 ≤ u.size) (hu : u.size ≤ 1048576) (B : Nat) (c : Cmd) (w : World) (hB : w.heap[B]? = some (.cells c.vals 23 (0, 0))) : Calls Tryz.prog 16 #[.pointer (some ⟨B, 0, none⟩), .int .i64 6, .string u] w (ReadW 6 u B c w) := by
  have hBl := (Array.getElem?_eq_some_iff.1 hB).1
  rcases hex_cases u hu with ⟨ok, _, hn⟩ | ⟨ok, _, hn⟩
  · have hcall := hn w
    obtain ⟨D, hD⟩ : ∃ D, Hid (D = hexF u) := ⟨_, rfl⟩
    rw [← hD.out] at hcall
    have HB1 : Hid (∀ w1, Below w.heap.size w w1 → w1.heap[B]? = some (.cells c.vals 23 (0, 0))) := fun w1 hb => (hb.block B hBl).trans hB
    have OK : Hid _ := ok
    clear hB ok hn
    go_enter Tryz.func16, Tryz.ntmps16
    go_wp2_with fail
    refine hcall.mono ?_
    rintro e w1 ⟨rfl, hb1⟩
    have hB1 := HB1.out w1 hb1
    obtain ⟨⟨c0, c1, c2, c3, c4, c5⟩, cf⟩ := cells6s hB1
    have cf5 := cf 5
    have cf4 := cf 4
    clear cf hcall
    go_wp2_with fail
    go_ret
    exact ReadW.yes hb1 hBl OK.out (grown_trans (grown_setB w1 B 5 _) (grown_setB _ B 4 _)) (by rw [heap_setCell_same _ B 4 _ _ _ (heap_setCell_same _ B 5 _ _ _ hB1), hD.out]; rfl)
  · have hcall := hn h1 w
    have HB1 : Hid (∀ w1, Below w.heap.size w w1 → w1.heap[B]? = some (.cells c.vals 23 (0, 0))) := fun w1 hb => (hb.block B hBl).trans hB
    have OK : Hid _ := ok
    clear hB ok hn
    go_enter Tryz.func16, Tryz.ntmps16
    go_wp2_with fail
    refine hcall.mono ?_
    rintro e w1 ⟨rfl, hb1⟩
    have hB1 := HB1.out w1 hb1
    obtain ⟨⟨c0, c1, c2, c3, c4, c5⟩, cf⟩ := cells6s hB1
    have cf5 := cf 5
    have cf4 := cf 4
    clear cf hcall
    go_wp2_with fail
    go_ret
    exact ReadW.no hb1 hBl OK.out (grown_trans (grown_setB w1 B 5 _) (grown_setB _ B 4 _))
theorem readWord_any (k : Nat) (hk : k < 7) (u : ByteArray) (h1 : 1 ≤ u.size) (hu : u.size ≤ 1048576) (B : Nat) (c : Cmd) (w : World) (hB : w.heap[B]? = some (.cells c.vals 23 (0, 0))) : Calls Tryz.prog 16 #[.pointer (some ⟨B, 0, none⟩), .int .i64 (k : Int), .string u] w (ReadW k u B c w) := by
  match k, hk with
  | 0, _ => exact readWord_0 u h1 hu B c w hB
  | 1, _ => exact readWord_1 u h1 hu B c w hB
  | 2, _ => exact readWord_2 u h1 hu B c w hB
  | 3, _ => exact readWord_3 u h1 hu B c w hB
  | 4, _ => exact readWord_4 u h1 hu B c w hB
  | 5, _ => exact readWord_5 u h1 hu B c w hB
  | 6, _ => exact readWord_6 u h1 hu B c w hB
end Go.Proofs.YtjiaiaclmceeeaaGreatDoor
