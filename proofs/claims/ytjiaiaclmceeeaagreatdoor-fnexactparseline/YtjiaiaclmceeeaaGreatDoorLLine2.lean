import Derived.Test.YtjiaiaclmceeeaaGreatDoorLLine1
import Derived.Laws.EntriesVeiled
namespace Go.Proofs.YtjiaiaclmceeeaaGreatDoor
open Go.ChangeShapes Go.WideShapes Go.ChangeAt Go.RowKit
set_option linter.unusedVariables false

theorem word_size {s u : ByteArray} (h : u ∈ wordsOf s) : u.size ≤ s.size := by
  unfold wordsOf strs at h
  rcases List.mem_append.1 h with h | h
  · obtain ⟨p, _, rfl⟩ := List.mem_map.1 h
    rw [ByteArray.size_extract]; omega
  · simp at h; subst h
    rw [ByteArray.size_extract]; omega
theorem wordAt_mem {s : ByteArray} {i : Nat} (h : i < (wordsOf s).length) : wordAt s i ∈ wordsOf s := by
  unfold wordAt
  rw [List.getD_eq_getElem?_getD, List.getElem?_eq_getElem h]
  exact List.getElem_mem h
/-- Only the command's box has changed, and what is new. -/
structure OnlyC (w3 wr : World) (A : Nat) : Prop where
  size : w3.heap.size ≤ wr.heap.size
  block : ∀ j, j < w3.heap.size → j ≠ A → wr.heap[j]? = w3.heap[j]?
  os : wr.os = w3.os
  tape : wr.tape = w3.tape
  output : wr.output = w3.output
theorem OnlyC.refl (w : World) (A : Nat) : OnlyC w w A := ⟨Nat.le_refl _, fun _ _ _ => rfl, rfl, rfl, rfl⟩
theorem OnlyC.below {w w3 wr : World} {A : Nat} (h : OnlyC w3 wr A) (hb : Below w.heap.size w w3) (hA : w.heap.size ≤ A) : Below w.heap.size w wr :=
  ⟨h.os.trans hb.os, h.tape.trans hb.tape, h.output.trans hb.output, Nat.le_trans hb.size h.size, fun k hk => (h.block k (by have := hb.size; omega) (by omega)).trans (hb.block k hk)⟩
theorem OnlyC.read {k : Nat} {u : ByteArray} {c : Cmd} {w3 wr w' : World} {A : Nat} {e : Ending} (h : OnlyC w3 wr A) (hr : ReadW k u A c wr e w') : OnlyC w3 w' A :=
  ⟨Nat.le_trans h.size hr.2.1, fun j hj hne => (hr.2.2.1 j (by have := h.size; omega) hne).trans (h.block j hj hne), hr.2.2.2.1.trans h.os, hr.2.2.2.2.1.trans h.tape, hr.2.2.2.2.2.trans h.output⟩
set_option maxHeartbeats 2000000 in
set_option maxRecDepth 100000 in
theorem readLine_at (s : ByteArray) (h : s.size ≤ 1000) (w0 w : World) (MB : Nat) (L : List Ent) (hO : OrdAt w0 w MB L) (hT : L.map (fun e => (e.key, e.op, e.kinds)) = table) (hgood : Good s) (op : Int) (ks : List Int) (hrow0 : firstRow (wordAt s 0) table = some (op, ks)) (hk3 : ks.length ≤ 3) (hkk : ∀ k ∈ ks, 0 ≤ k ∧ k < 7) (hop : 1 ≤ op ∧ op ≤ 17) : Calls Tryz.prog 12 #[.map (some MB), .string s] w (LineP s L w) := by
  have d1 : decide ((1000 : Int) < (s.size : Int)) = false := decide_eq_false (by omega)
  obtain ⟨W, hW⟩ : ∃ W, W = (w.alloc (.cells noCmd.vals 23)).alloc (.cells #[.int .i64 0, .slice none 0 0, .nilFunc] 66) := ⟨_, rfl⟩
  obtain ⟨A4, hA4⟩ : ∃ A4, A4 = w.heap.size := ⟨_, rfl⟩
  obtain ⟨A5, hA5⟩ : ∃ A5, A5 = w.heap.size + 1 := ⟨_, rfl⟩
  have hbW : Below w.heap.size w W := by rw [hW]; exact ((Below.refl _ _).alloc (Nat.le_refl _) _).alloc (by simp) _
  have h4 : W.heap[A4]? = some (.cells noCmd.vals 23 (0, 0)) := by rw [hW, hA4]; exact (Below.heap_alloc _ _ _ (by simp)).trans (heap_alloc_new _ _)
  have h5 : W.heap[A5]? = some (.cells #[.int .i64 0, .slice none 0 0, .nilFunc] 66 (0, 0)) := by
    rw [hW, hA5]
    have := heap_alloc_new (w.alloc (.cells noCmd.vals 23)) (.cells #[.int .i64 0, .slice none 0 0, .nilFunc] 66)
    simpa using this
  have hcut := implCut s W (by omega)
  have HO : Hid (OrdAt w0 W MB L) := hO.moved hbW
  have HA : Hid (w.heap.size ≤ A4 ∧ w.heap.size ≤ A5) := by unfold Hid; omega
  go_enter Tryz.func12, Tryz.ntmps12
  go_upto_region 1 with fail
  have hW' : (w.alloc (.cells #[.int .i64 0, .int .i64 0, .int .i64 0, .int .i64 0, .int .i64 0, .string ⟨#[]⟩] 23)).alloc (.cells #[.int .i64 0, .slice none 0 0, .nilFunc] 66) = W := by rw [hW]; rfl
  rw [hW', ← hA5, ← hA4]
  clear hW hW' hA4 hA5
  go_wp2_with fail
  refine hcut.mono ?_
  rintro e w1 ⟨hr, hb1⟩
  clear hcut
  have hb1w := hbW.trans (hb1.mono hbW.size)
  have h41 := (hb1.block A4 (Array.getElem?_eq_some_iff.1 h4).1).trans h4
  have h51 := (hb1.block A5 (Array.getElem?_eq_some_iff.1 h5).1).trans h5
  obtain ⟨⟨c0, c1, c2, c3, c4, c5⟩, cf⟩ := cells6s h41
  clear cf c0 c1 c2 c3 c4 c5
  have n45 : ¬ A4 = A5 := type_neL h41 h51 (by decide)
  obtain ⟨av, cp, rfl, hrow⟩ : ∃ av cp, e = .returned (.tuple #[.slice av (wordsOf s).length cp, .bool true]) ∧ w1.ownsRow W.heap.size 9 1 (.slice av (wordsOf s).length cp) (wordsOf s).length ((wordsOf s).map .string) := by
    rcases hr with ⟨_, h1⟩ | ⟨h1, _⟩
    · exact h1
    · exact absurd hgood h1
  have HO1 := HO.out.moved hb1
  obtain ⟨q, hf, hq⟩ := find_ent (wordAt s 0) L 0 0
  rw [hT, hrow0] at hq
  obtain ⟨j, x, rfl, hxL, hxe⟩ : ∃ j e, q = some (j, e.val) ∧ e ∈ L ∧ some (op, ks) = some (e.op, e.kinds) := by
    rcases hq with ⟨_, h1⟩ | h1
    · cases h1
    · exact h1
  have hlk := run_look (P := Tryz.prog) w1 69 9 66 MB L.length (wordAt s 0) (entsAt 0 L).toArray (some (j, x.val)) _ Tryz.underlying69 Tryz.underlying9 (zeroOrder w1) HO1.map hf
  simp only [Option.map_some, Option.getD_some, Option.isSome_some] at hlk
  have hkin := (HO1.kin x hxL).1
  obtain ⟨xk, xo, xks, xa, xc, xf, xr⟩ := x
  simp only [Option.some.injEq, Prod.mk.injEq] at hxe
  obtain ⟨rfl, rfl⟩ := hxe
  simp only [Ent.val] at hlk hkin
  obtain ⟨n, hn⟩ : ∃ n, Hid (n = ks.length) := ⟨_, rfl⟩
  rw [← hn.out] at hlk hk3
  have hwp := words_pos s
  obtain ⟨N, hN⟩ : ∃ N, Hid (N = (wordsOf s).length) := ⟨_, rfl⟩
  rw [← hN.out] at hwp hrow
  have hN1 : (0 : Int) < (N : Int) := by omega
  obtain ⟨wb, hav⟩ : ∃ wb, av = some ⟨wb, 0, none⟩ := by
    rcases hrow.2 with ⟨e, h0⟩ | ⟨g, c, cur, e, _⟩
    · omega
    · simp only [Value.slice.injEq] at e
      exact ⟨g, e.1⟩
  subst hav
  have HW : Hid (∀ i, i < N → w1.cell? ⟨wb, i, none⟩ = some (.string (wordAt s i))) := fun i hi => by
    have hi2 : i < (wordsOf s).length := by rw [← hN.out]; exact hi
    rw [hrow.cellAt i (by omega), List.getElem?_map, List.getElem?_eq_getElem hi2]
    simp [wordAt, List.getD_eq_getElem?_getD, List.getElem?_eq_getElem hi2]
  have hwbl := (hrow.lt wb rfl).2
  have k0 := HW.out 0 (by omega)
  obtain ⟨u0, hu0⟩ : ∃ u0, u0 = wordAt s 0 := ⟨_, rfl⟩
  rw [← hu0] at k0 hlk
  rw [← hN.out]
  have HKIN : Hid (Ints .i64 w1 xa ks) := hkin
  clear hr hrow hq hf HO1 hu0 hkin
  obtain ⟨w2, hw2⟩ : ∃ w2, w2 = w1.alloc (.cells #[.int .i64 op, .slice xa n xc, .func (.func xf) #[.pointer (some ⟨xr, 0, none⟩)] #[]] 66) := ⟨_, rfl⟩
  obtain ⟨A9, hA9⟩ : ∃ A9, A9 = w1.heap.size := ⟨_, rfl⟩
  have hb2 : Below w1.heap.size w1 w2 := by rw [hw2]; exact (Below.refl _ _).alloc (Nat.le_refl _) _
  have hb2w := hb1w.trans (hb2.mono hb1w.size)
  have h42 := (hb2.block A4 (Array.getElem?_eq_some_iff.1 h41).1).trans h41
  have h52 := (hb2.block A5 (Array.getElem?_eq_some_iff.1 h51).1).trans h51
  have h92 : w2.heap[A9]? = some (.cells #[.int .i64 op, .slice xa n xc, .func (.func xf) #[.pointer (some ⟨xr, 0, none⟩)] #[]] 66 (0, 0)) := by rw [hw2, hA9]; exact heap_alloc_new _ _
  have n59 : A5 ≠ A9 := by have := (Array.getElem?_eq_some_iff.1 h51).1; omega
  have n54 : ¬ A5 = A4 := fun e => n45 e.symm
  go_upto_region 7 with fail
  rw [← hw2, ← hA9]
  clear hw2 hA9 hlk k0
  have x1 : w2.cell? ⟨A9, 1, none⟩ = some (.slice xa n xc) := Go.Joins.cell_of_block h92 1
  have x0 : w2.cell? ⟨A9, 0, none⟩ = some (.int .i64 op) := Go.Joins.cell_of_block h92 0
  have hwn : IntKind.i64.wrap (1 + (n : Int)) = 1 + (n : Int) := by rw [IntKind.wrap_i64]; omega
  by_cases hlen : N = 1 + n
  case neg =>
    have bl : ((N : Int) != 1 + (n : Int)) = true := by simp; omega
    have HNO : Hid (¬ ∃ op ks, LineOK s op ks) := by
      rintro ⟨op', ks', hl⟩
      have e := hl.row
      rw [hrow0] at e
      simp only [Option.some.injEq, Prod.mk.injEq] at e
      have e2 := hl.len
      rw [← hN.out, ← e.2, ← hn.out] at e2
      exact hlen e2
    clear hlen
    obtain ⟨⟨c0, c1, c2, c3, c4, c5⟩, cf⟩ := cells6s h42
    have g0 := cf 0
    have g1 := cf 1
    have g2 := cf 2
    have g3 := cf 3
    have g4 := cf 4
    have g5 := cf 5
    simp only [noCmd] at c0 c1 c2 c3 c4 c5
    have o0 : w2.cell? ⟨A5, 0, none⟩ = some (.int .i64 0) := Go.Joins.cell_of_block h52 0
    have o1 : w2.cell? ⟨A5, 1, none⟩ = some (.slice none 0 0) := Go.Joins.cell_of_block h52 1
    have o2 : w2.cell? ⟨A5, 2, none⟩ = some .nilFunc := Go.Joins.cell_of_block h52 2
    have p0 := Go.Joins.unfrozen_of_block h52 0
    have p1 := Go.Joins.unfrozen_of_block h52 1
    have p2 := Go.Joins.unfrozen_of_block h52 2
    clear cf
    go_wp2_with fail
    obtain ⟨X, hX⟩ : ∃ X, X = (((((((((w2.setCell ⟨A4, 0, none⟩ (.int .i64 0)).setCell ⟨A4, 1, none⟩ (.int .i64 0)).setCell ⟨A4, 2, none⟩ (.int .i64 0)).setCell ⟨A4, 3, none⟩ (.int .i64 0)).setCell ⟨A4, 4, none⟩ (.int .i64 0)).setCell ⟨A4, 5, none⟩ (.string ⟨#[]⟩)).setCell ⟨A5, 0, none⟩ (.int .i64 0)).setCell ⟨A5, 1, none⟩ (.slice none 0 0)).setCell ⟨A5, 2, none⟩ (.nilFunc)) := ⟨_, rfl⟩
    rw [← hX]
    obtain ⟨x4, x5, xb⟩ := put9 n45 h42 h52 _ _ _ _ _ _ _ _ _ X hX
    have hbX := xb hb2w HA.out.1 HA.out.2
    clear hX xb
    have y0 : X.cell? ⟨A4, 0, none⟩ = some (.int .i64 0) := Go.Joins.cell_of_block x4 0
    have y1 : X.cell? ⟨A4, 1, none⟩ = some (.int .i64 0) := Go.Joins.cell_of_block x4 1
    have y2 : X.cell? ⟨A4, 2, none⟩ = some (.int .i64 0) := Go.Joins.cell_of_block x4 2
    have y3 : X.cell? ⟨A4, 3, none⟩ = some (.int .i64 0) := Go.Joins.cell_of_block x4 3
    have y4 : X.cell? ⟨A4, 4, none⟩ = some (.int .i64 0) := Go.Joins.cell_of_block x4 4
    have y5 : X.cell? ⟨A4, 5, none⟩ = some (.string ⟨#[]⟩) := Go.Joins.cell_of_block x4 5
    have q0 : X.cell? ⟨A5, 0, none⟩ = some (.int .i64 0) := Go.Joins.cell_of_block x5 0
    have q1 : X.cell? ⟨A5, 1, none⟩ = some (.slice none 0 0) := Go.Joins.cell_of_block x5 1
    have q2 : X.cell? ⟨A5, 2, none⟩ = some .nilFunc := Go.Joins.cell_of_block x5 2
    exact bodyPost_ret (v := .tuple #[.agg noCmd.vals, .agg #[.int .i64 0, .slice none 0 0, .nilFunc], .int .i64 16]) (by simp [results, Tryz.results12, go_sem, noCmd, Cmd.vals, y0, y1, y2, y3, y4, y5, q0, q1, q2]) rfl ⟨.inr (.inr ⟨h, HNO.out, rfl⟩), hbX⟩
  case pos =>
  have bl : ((N : Int) != 1 + (n : Int)) = false := bne_eq_false_iff_eq.2 (by omega)
  have HLEN : Hid _ := hlen
  obtain ⟨w3, hw3⟩ : ∃ w3, w3 = w2.alloc (.cells (readTo s ks op 0).vals 23) := ⟨_, rfl⟩
  obtain ⟨A11, hA11⟩ : ∃ A11, A11 = w2.heap.size := ⟨_, rfl⟩
  have hb3 : Below w2.heap.size w2 w3 := by rw [hw3]; exact (Below.refl _ _).alloc (Nat.le_refl _) _
  have hb3w := hb2w.trans (hb3.mono hb2w.size)
  have h113 : w3.heap[A11]? = some (.cells (readTo s ks op 0).vals 23 (0, 0)) := by rw [hw3, hA11]; exact heap_alloc_new _ _
  have l4 := (Array.getElem?_eq_some_iff.1 h42).1
  have l5 := (Array.getElem?_eq_some_iff.1 h52).1
  have l9 := (Array.getElem?_eq_some_iff.1 h92).1
  have h43 := (hb3.block A4 l4).trans h42
  have h53 := (hb3.block A5 l5).trans h52
  have h93 := (hb3.block A9 l9).trans h92
  have HAA : Hid (A4 < A11 ∧ A5 < A11 ∧ A9 < A11 ∧ wb < A11 ∧ w.heap.size ≤ A11 ∧ w1.heap.size ≤ A11) := by
    have := hb2.size
    have := hb2w.size
    unfold Hid
    omega
  clear hlen
  go_upto_region 10 with fail
  have hw3' : w2.alloc (.cells #[.int .i64 op, .int .i64 0, .int .i64 0, .int .i64 0, .int .i64 0, .string ⟨#[]⟩] 23) = w3 := by rw [hw3]; rfl
  rw [hw3', ← hA11]
  clear hw3 hw3' hA11 x0 x1
  have x1 : w3.cell? ⟨A9, 1, none⟩ = some (.slice xa n xc) := Go.Joins.cell_of_block h93 1
  go_wp2_with fail
  have hK3 : Hid (Ints .i64 w3 xa ks) := HKIN.out.moved (hb2.trans (hb3.mono hb2.size))
  have HWF : Hid (∀ i, i < N → 1 ≤ (wordAt s i).size ∧ (wordAt s i).size ≤ 1000) := fun i hi => by
    have hm := wordAt_mem (s := s) (i := i) (by rw [← hN.out]; exact hi)
    exact ⟨words_full hgood _ hm, Nat.le_trans (word_size hm) h⟩
  have HW3 : Hid (∀ i, i < N → w3.cell? ⟨wb, i, none⟩ = some (.string (wordAt s i))) := fun i hi => ((hb2.trans (hb3.mono hb2.size)).cell (p := ⟨wb, i, none⟩) hwbl).trans (HW.out i hi)
  have hs3 := hb3.size
  clear x1
  go_loopw [55] (fun iv wr => ∃ i : Nat, i ≤ n ∧ iv = .int .i64 (i : Int) ∧ Hid (OkTo s ks i) ∧ Hid (wr.heap[A11]? = some (.cells (readTo s ks op i).vals 23 (0, 0))) ∧ Hid (OnlyC w3 wr A11)) (fun iv _ => n - (intOf iv).toNat)
  case atStart => exact ⟨0, Nat.zero_le _, rfl, (fun j hj => by omega : OkTo s ks 0), h113, OnlyC.refl _ _⟩
  case round =>
  obtain ⟨i, hi, rfl, HOK, H11, HON⟩ := hrel
  have hl11 := (Array.getElem?_eq_some_iff.1 h113).1
  obtain ⟨a4, a5, a9, awb, aw, aw1⟩ := HAA.out
  have h44 := (HON.out.block A4 (by omega) (by omega)).trans h43
  have h54 := (HON.out.block A5 (by omega) (by omega)).trans h53
  have h94 := (HON.out.block A9 (by omega) (by omega)).trans h93
  by_cases hin : i < n
  case pos =>
    have hii : (i : Int) < (n : Int) := by omega
    have hik : i < ks.length := by rw [← hn.out]; exact hin
    have hI1 : i + 1 < N := by have := HLEN.out; omega
    obtain ⟨kb, ko, hxa, hkc⟩ : ∃ b off, xa = some ⟨b, off, none⟩ ∧ ∀ j, j < ks.length → w1.cell? ⟨b, off + j, none⟩ = some (.int .i64 (ks.getD j 0)) := by
      rcases HKIN.out with h0 | h0
      · rw [h0] at hik; simp at hik
      · exact h0
    subst hxa
    obtain ⟨κ, hκ⟩ : ∃ κ : Nat, ks.getD i 0 = (κ : Int) ∧ κ < 7 := by
      have hm : ks.getD i 0 ∈ ks := by rw [List.getD_eq_getElem?_getD, List.getElem?_eq_getElem hik]; exact List.getElem_mem hik
      have := hkk _ hm
      exact ⟨(ks.getD i 0).toNat, by omega, by omega⟩
    have hkl := World.block_lt_of_cell? w1 _ (hkc i hik)
    simp only at hkl
    have hs12 := hb2.size
    have q1 : wr.cell? ⟨kb, ko + i, none⟩ = some (.int .i64 (κ : Int)) := by
      rw [← hκ.1, ← hkc i hik]
      exact (World.cell?_of_block (HON.out.block kb (by omega) (by omega))).trans ((hb2.trans (hb3.mono hb2.size)).cell (p := ⟨kb, ko + i, none⟩) hkl)
    obtain ⟨u, hu⟩ : ∃ u, u = wordAt s (1 + i) := ⟨_, rfl⟩
    have q2 : wr.cell? ⟨wb, 1 + i, none⟩ = some (.string u) := by
      rw [hu]
      exact (World.cell?_of_block (HON.out.block wb (by omega) (by omega))).trans (HW3.out (1 + i) (by omega))
    have husz := HWF.out (1 + i) (by omega)
    rw [← hu] at husz
    have hcall := readWord_any κ hκ.2 u husz.1 (by omega) A11 (readTo s ks op i) wr H11.out
    have hj1 : (1 : Int) + (i : Int) < (N : Int) := by omega
    have hj2 : ((1 : Int) + (i : Int)).toNat = 1 + i := by omega
    have HU : Hid _ := hu
    have HKA : Hid _ := hκ
    clear hu hκ hkc
    go_wp2_with fail
    refine hcall.mono ?_
    rintro e5 w5 hrd
    have HON5 := HON.out.read hrd
    have h45 := (HON5.block A4 (by omega) (by omega)).trans h43
    have h55 := (HON5.block A5 (by omega) (by omega)).trans h53
    have hb5w := HON5.below hb3w aw
    clear hcall q1 q2
    rcases hrd.1 with ⟨hok, rfl, h115⟩ | ⟨hok, rfl⟩
    · have HN : Hid (OkTo s ks (i + 1)) := by
        intro j hj
        by_cases e : j < i
        · exact HOK.out j e
        · have e2 : j = i := by omega
          rw [e2, HKA.out.1, Nat.add_comm i 1, ← HU.out]
          exact hok
      have H5 : Hid (w5.heap[A11]? = some (.cells (readTo s ks op (i + 1)).vals 23 (0, 0))) := by
        unfold Hid
        rw [readTo, HKA.out.1, Nat.add_comm i 1, ← HU.out]
        exact h115
      clear hok h115 hrd
      go_wp2_with fail
      go_roundw
      case rel => exact ⟨i + 1, by omega, by go_num, HN, H5, HON5⟩
      case measure => simp [intOf]; omega
    · have HNO : Hid (¬ ∃ op ks, LineOK s op ks) := by
        rintro ⟨op', ks', hl⟩
        have e := hl.row
        rw [hrow0] at e
        simp only [Option.some.injEq, Prod.mk.injEq] at e
        have e2 := hl.ok
        rw [← e.2] at e2
        have e3 := e2 i hik
        rw [HKA.out.1, Nat.add_comm i 1, ← HU.out] at e3
        exact hok e3
      clear hok hrd
      obtain ⟨⟨c0, c1, c2, c3, c4, c5⟩, cf⟩ := cells6s h45
      have g0 := cf 0
      have g1 := cf 1
      have g2 := cf 2
      have g3 := cf 3
      have g4 := cf 4
      have g5 := cf 5
      simp only [noCmd] at c0 c1 c2 c3 c4 c5
      have o0 : w5.cell? ⟨A5, 0, none⟩ = some (.int .i64 0) := Go.Joins.cell_of_block h55 0
      have o1 : w5.cell? ⟨A5, 1, none⟩ = some (.slice none 0 0) := Go.Joins.cell_of_block h55 1
      have o2 : w5.cell? ⟨A5, 2, none⟩ = some .nilFunc := Go.Joins.cell_of_block h55 2
      have p0 := Go.Joins.unfrozen_of_block h55 0
      have p1 := Go.Joins.unfrozen_of_block h55 1
      have p2 := Go.Joins.unfrozen_of_block h55 2
      clear cf
      go_wp2_with fail
      obtain ⟨X, hX⟩ : ∃ X, X = (((((((((w5.setCell ⟨A4, 0, none⟩ (.int .i64 0)).setCell ⟨A4, 1, none⟩ (.int .i64 0)).setCell ⟨A4, 2, none⟩ (.int .i64 0)).setCell ⟨A4, 3, none⟩ (.int .i64 0)).setCell ⟨A4, 4, none⟩ (.int .i64 0)).setCell ⟨A4, 5, none⟩ (.string ⟨#[]⟩)).setCell ⟨A5, 0, none⟩ (.int .i64 0)).setCell ⟨A5, 1, none⟩ (.slice none 0 0)).setCell ⟨A5, 2, none⟩ (.nilFunc)) := ⟨_, rfl⟩
      rw [← hX]
      obtain ⟨x4, x5, xb⟩ := put9 n45 h45 h55 _ _ _ _ _ _ _ _ _ X hX
      have hbX := xb hb5w HA.out.1 HA.out.2
      clear hX xb
      have y0 : X.cell? ⟨A4, 0, none⟩ = some (.int .i64 0) := Go.Joins.cell_of_block x4 0
      have y1 : X.cell? ⟨A4, 1, none⟩ = some (.int .i64 0) := Go.Joins.cell_of_block x4 1
      have y2 : X.cell? ⟨A4, 2, none⟩ = some (.int .i64 0) := Go.Joins.cell_of_block x4 2
      have y3 : X.cell? ⟨A4, 3, none⟩ = some (.int .i64 0) := Go.Joins.cell_of_block x4 3
      have y4 : X.cell? ⟨A4, 4, none⟩ = some (.int .i64 0) := Go.Joins.cell_of_block x4 4
      have y5 : X.cell? ⟨A4, 5, none⟩ = some (.string ⟨#[]⟩) := Go.Joins.cell_of_block x4 5
      have q0 : X.cell? ⟨A5, 0, none⟩ = some (.int .i64 0) := Go.Joins.cell_of_block x5 0
      have q1 : X.cell? ⟨A5, 1, none⟩ = some (.slice none 0 0) := Go.Joins.cell_of_block x5 1
      have q2 : X.cell? ⟨A5, 2, none⟩ = some .nilFunc := Go.Joins.cell_of_block x5 2
      exact bodyPost_ret (v := .tuple #[.agg noCmd.vals, .agg #[.int .i64 0, .slice none 0 0, .nilFunc], .int .i64 16]) (by simp [results, Tryz.results12, go_sem, noCmd, Cmd.vals, y0, y1, y2, y3, y4, y5, q0, q1, q2]) rfl ⟨.inr (.inr ⟨h, HNO.out, rfl⟩), hbX⟩

  case neg =>
    obtain rfl : i = n := by omega
    have hii : ¬ (i : Int) < (i : Int) := by omega
    obtain ⟨C, hC⟩ : ∃ C, Hid (C = readTo s ks op i) := ⟨_, rfl⟩
    have h11 := H11.out
    rw [← hC.out] at h11
    obtain ⟨⟨c0, c1, c2, c3, c4, c5⟩, _⟩ := cells6s h11
    obtain ⟨⟨z0, z1, z2, z3, z4, z5⟩, zf⟩ := cells6s h44
    have g0 := zf 0
    have g1 := zf 1
    have g2 := zf 2
    have g3 := zf 3
    have g4 := zf 4
    have g5 := zf 5
    simp only [noCmd] at z0 z1 z2 z3 z4 z5
    have o0 : wr.cell? ⟨A5, 0, none⟩ = some (.int .i64 0) := Go.Joins.cell_of_block h54 0
    have o1 : wr.cell? ⟨A5, 1, none⟩ = some (.slice none 0 0) := Go.Joins.cell_of_block h54 1
    have o2 : wr.cell? ⟨A5, 2, none⟩ = some .nilFunc := Go.Joins.cell_of_block h54 2
    have p0 := Go.Joins.unfrozen_of_block h54 0
    have p1 := Go.Joins.unfrozen_of_block h54 1
    have p2 := Go.Joins.unfrozen_of_block h54 2
    have y0 : wr.cell? ⟨A9, 0, none⟩ = some (.int .i64 op) := Go.Joins.cell_of_block h94 0
    have y1 : wr.cell? ⟨A9, 1, none⟩ = some (.slice xa i xc) := Go.Joins.cell_of_block h94 1
    have y2 : wr.cell? ⟨A9, 2, none⟩ = some (.func (.func xf) #[.pointer (some ⟨xr, 0, none⟩)] #[]) := Go.Joins.cell_of_block h94 2
    clear zf
    have m1 : ¬ A4 = A11 := by omega
    have m2 : ¬ A11 = A4 := by omega
    have m3 : ¬ A5 = A11 := by omega
    have m4 : ¬ A11 = A5 := by omega
    have m5 : ¬ A4 = A9 := type_neL h44 h94 (by decide)
    have m6 : ¬ A9 = A4 := fun e => m5 e.symm
    have m7 : ¬ A5 = A9 := n59
    have m8 : ¬ A9 = A5 := fun e => n59 e.symm
    have HPF : Hid (LineOK s op ks) := ⟨hgood, hrow0, by rw [← hN.out, HLEN.out, hn.out], by rw [← hn.out]; exact HOK.out⟩
    have hbRw := HON.out.below hb3w aw
    go_upto_region 16 with fail
    clear hii
    go_region
    obtain ⟨X, hX⟩ : ∃ X, X = (((((((((wr.setCell ⟨A4, 0, none⟩ (.int .i64 C.op)).setCell ⟨A4, 1, none⟩ (.int .i64 C.path)).setCell ⟨A4, 2, none⟩ (.int .i64 C.dir)).setCell ⟨A4, 3, none⟩ (.int .i64 C.ix)).setCell ⟨A4, 4, none⟩ (.int .i64 C.n)).setCell ⟨A4, 5, none⟩ (.string C.data)).setCell ⟨A5, 0, none⟩ (.int .i64 op)).setCell ⟨A5, 1, none⟩ (.slice xa i xc)).setCell ⟨A5, 2, none⟩ (.func (.func xf) #[.pointer (some ⟨xr, 0, none⟩)] #[])) := ⟨_, rfl⟩
    rw [← hX]
    obtain ⟨x4, x5, xb⟩ := put9 n45 h44 h54 _ _ _ _ _ _ _ _ _ X hX
    have hbX := (xb hbRw HA.out.1 HA.out.2).drew
    obtain ⟨Y, hY⟩ : ∃ Y, Y = X.drew := ⟨_, rfl⟩
    rw [← hY] at hbX ⊢
    have x4' : Y.heap[A4]? = some (.cells C.vals 23 (0, 0)) := by rw [hY]; exact x4
    have x5' : Y.heap[A5]? = some (.cells #[.int .i64 op, .slice xa i xc, .func (.func xf) #[.pointer (some ⟨xr, 0, none⟩)] #[]] 66 (0, 0)) := by rw [hY]; exact x5
    clear hX xb hY x4 x5 c0 c1 c2 c3 c4 c5 z0 z1 z2 z3 z4 z5 g0 g1 g2 g3 g4 g5 o0 o1 o2 p0 p1 p2 y0 y1 y2
    obtain ⟨⟨c0, c1, c2, c3, c4, c5⟩, _⟩ := cells6s x4'
    have q0 : Y.cell? ⟨A5, 0, none⟩ = some (.int .i64 op) := Go.Joins.cell_of_block x5' 0
    have q1 : Y.cell? ⟨A5, 1, none⟩ = some (.slice xa i xc) := Go.Joins.cell_of_block x5' 1
    have q2 : Y.cell? ⟨A5, 2, none⟩ = some (.func (.func xf) #[.pointer (some ⟨xr, 0, none⟩)] #[]) := Go.Joins.cell_of_block x5' 2
    go_wp2_with fail
    refine bodyPost_ret (v := .tuple #[.agg C.vals, .agg #[.int .i64 op, .slice xa i xc, .func (.func xf) #[.pointer (some ⟨xr, 0, none⟩)] #[]], .int .i64 0]) (by simp [results, Tryz.results12, go_sem, Cmd.vals, c0, c1, c2, c3, c4, c5, q0, q1, q2]) rfl ⟨.inr (.inl ⟨h, ⟨xk, op, ks, xa, xc, xf, xr⟩, hxL, HPF.out, ?_⟩), hbX⟩
    simp only [Ent.val]
    rw [← hn.out, ← hC.out]
end Go.Proofs.YtjiaiaclmceeeaaGreatDoor
