import Derived.Test.YtjiaiaclmceeeaaGreatDoorLSpec2
import Derived.Deep.Cut
import Derived.Deep.CutRange
import Derived.Deep.CutBlock
namespace Go.Proofs.YtjiaiaclmceeeaaGreatDoor
open Go.ChangeShapes Go.WideShapes Go.ChangeAt Go.RowKit
set_option linter.unusedVariables false
set_option linter.unusedSimpArgs false

theorem OnlyC.put {w3 wr : World} {A : Nat} (h : OnlyC w3 wr A) (j : Nat) (v : Value) {o : Obj} (hb : wr.heap[A]? = some o) : OnlyC w3 (wr.setCell ⟨A, j, none⟩ v) A := by
  have hs : (wr.setCell ⟨A, j, none⟩ v).heap.size = wr.heap.size := by simp
  exact ⟨by rw [hs]; exact h.size, fun k hk hne => (heap_setCell_other _ _ _ _ hne).trans (h.block k hk hne), h.os, h.tape, h.output⟩
theorem num6_one (u : ByteArray) (hb : u.size ≤ 9223372036854775807) : ∃ (x : Int) (b : Bool), Num6 9 u x b ∧ (b = true → NumOK6 u ∧ x = (dig u u.size : Nat)) ∧ (b = false → ¬ NumOK6 u) := by
  rcases num_cases6 u hb with ⟨h1, h2, _⟩ | ⟨h1, h2, _⟩
  · exact ⟨_, true, h2, fun _ => ⟨h1, rfl⟩, fun h => by cases h⟩
  · exact ⟨_, false, h2, (fun h => by cases h), fun _ => h1⟩
theorem hex_one (u : ByteArray) (hb : u.size ≤ 1048576) : ∃ (x : ByteArray) (b : Bool), Hex 11 u x b ∧ (b = true → HexOK u ∧ x = hexF u) ∧ (b = false → ¬ HexOK u) := by
  rcases hex_cases u hb with ⟨h1, h2, _⟩ | ⟨h1, h2, _⟩
  · exact ⟨_, true, h2, fun _ => ⟨h1, rfl⟩, fun h => by cases h⟩
  · exact ⟨_, false, h2, (fun h => by cases h), fun _ => h1⟩
theorem mark_any (b : Bool) (w : World) : Calls Tryz.prog 10 #[.bool b] w fun e w' => e = .returned (.int .i64 (if b then 1 else 0)) ∧ w' = w := by
  cases b
  · go_enter Tryz.func10, Tryz.ntmps10
    go_wp2_with fail
    go_ret
    exact ⟨rfl, rfl⟩
  · go_enter Tryz.func10, Tryz.ntmps10
    go_wp2_with fail
    go_ret
    exact ⟨rfl, rfl⟩
set_option maxHeartbeats 2000000 in
set_option maxRecDepth 100000 in
theorem specLine_at (s : ByteArray) (h : s.size ≤ 1000) (hok : BytesOK s s.size) (w : World) : Calls Tryz.prog 4 #[.string s] w (ParseP s w) := by
  have d1 : decide ((1000 : Int) < (s.size : Int)) = false := decide_eq_false (by omega)
  obtain ⟨W, hW⟩ : ∃ W, W = w.alloc (.cells noCmd.vals 23) := ⟨_, rfl⟩
  obtain ⟨A2, hA2⟩ : ∃ A2, A2 = w.heap.size := ⟨_, rfl⟩
  have hbW : Below w.heap.size w W := by rw [hW]; exact (Below.refl _ _).alloc (Nat.le_refl _) _
  have h2 : W.heap[A2]? = some (.cells noCmd.vals 23 (0, 0)) := by rw [hW, hA2]; exact heap_alloc_new _ _
  have hA : w.heap.size ≤ A2 := by omega
  have HB0 : Hid _ := hok
  have hcut := specCut s W (by omega)
  go_enter Tryz.func4, Tryz.ntmps4
  go_upto_region 1 with fail
  have hW' : w.alloc (.cells #[.int .i64 0, .int .i64 0, .int .i64 0, .int .i64 0, .int .i64 0, .string ⟨#[]⟩] 23) = W := by rw [hW]; rfl
  rw [hW', ← hA2]
  clear hW hW' hok hA2
  go_wp2_with fail
  go_loopw [4] (fun iv wr => ∃ k : Nat, k ≤ s.size ∧ iv = .int .i64 (k : Int) ∧ wr = W) (fun iv _ => s.size - (intOf iv).toNat)
  case atStart => exact ⟨0, Nat.zero_le _, rfl, rfl⟩
  case round =>
  obtain ⟨k, hk, rfl, rfl⟩ := hrel
  by_cases hlt : k < s.size
  case pos =>
    have hki : (k : Int) < (s.size : Int) := by omega
    have hc := bt_at hlt
    have q := HB0.out k hlt
    have q1 : decide (((s[k]'hlt).toNat : Int) < 32) = false := decide_eq_false (by omega)
    have q2 : decide ((126 : Int) < ((s[k]'hlt).toNat : Int)) = false := decide_eq_false (by omega)
    have q1' : ¬ ((s[k]'hlt).toNat : Int) < 32 := by omega
    have q2' : ¬ (126 : Int) < ((s[k]'hlt).toNat : Int) := by omega
    clear q hc hcut
    go_wp2_with fail
    go_roundw
    case rel => exact ⟨k + 1, by omega, by go_num, trivial⟩
    case measure => simp [intOf]; omega
  case neg =>
  obtain rfl : k = s.size := by omega
  clear hlt hk
  go_wp2_with fail
  refine hcut.mono ?_
  rintro e w1 ⟨av, cp, rfl, hrow, hb1⟩
  clear hcut
  have hb1w := hbW.trans (hb1.mono hbW.size)
  have h21 := (hb1.block A2 (Array.getElem?_eq_some_iff.1 h2).1).trans h2
  have hwp := words_pos s
  obtain ⟨N, hN⟩ : ∃ N, Hid (N = (wordsOf s).length) := ⟨_, rfl⟩
  rw [← hN.out] at hwp hrow
  have hN1 : (0 : Int) < (N : Int) := by omega
  obtain ⟨wb, hav⟩ : ∃ wb, av = some ⟨wb, 0, none⟩ := by
    rcases hrow.2 with ⟨e, h0⟩ | ⟨g, c, cur, e, _⟩
    · omega
    · simp only [Value.slice.injEq] at e
      exact ⟨g, e.1⟩
  subst hav
  have HW : Hid (∀ i, i < N → w1.cell? ⟨wb, i, none⟩ = some (.string (wordAt s i))) := fun i hi => by
    have hi2 : i < (wordsOf s).length := by rw [← hN.out]; exact hi
    rw [hrow.cellAt i (by omega), List.getElem?_map, List.getElem?_eq_getElem hi2]
    simp [wordAt, List.getD_eq_getElem?_getD, List.getElem?_eq_getElem hi2]
  have hwbl := (hrow.lt wb rfl).2
  have k0 := HW.out 0 (by omega)
  have hword := word_is (wordAt s 0) w1
  have hris := row_is (wordAt s 0)
  obtain ⟨u0, hu0⟩ : ∃ u0, u0 = wordAt s 0 := ⟨_, rfl⟩
  rw [← hu0] at k0 hword hris
  rw [← hN.out]
  have HU0 : Hid _ := hu0
  clear hrow hu0
  rcases hris with ⟨hnone, has⟩ | ⟨op, ks, hrow0, hop, hk3, hkk, has⟩
  case inl =>
    have HNO : Hid (¬ ∃ op ks, LineOK s op ks) := by
      rintro ⟨op', ks', hl⟩
      have e := hl.row
      rw [← HU0.out, hnone] at e
      cases e
    rcases hask : asks u0.toList with ⟨a, K⟩
    rw [hask] at has hword
    simp only at has hword
    subst has
    clear hask hnone
    obtain ⟨⟨c0, c1, c2, c3, c4, c5⟩, cf⟩ := cells6s h21
    have g0 := cf 0
    have g1 := cf 1
    have g2 := cf 2
    have g3 := cf 3
    have g4 := cf 4
    have g5 := cf 5
    simp only [noCmd] at c0 c1 c2 c3 c4 c5
    clear cf
    go_wp2_with fail
    refine hword.mono ?_
    rintro e w1' ⟨rfl, rfl⟩
    go_wp2_with fail
    obtain ⟨X, hX⟩ : ∃ X, X = ((((((w1'.setCell ⟨A2, 0, none⟩ (.int .i64 0)).setCell ⟨A2, 1, none⟩ (.int .i64 0)).setCell ⟨A2, 2, none⟩ (.int .i64 0)).setCell ⟨A2, 3, none⟩ (.int .i64 0)).setCell ⟨A2, 4, none⟩ (.int .i64 0)).setCell ⟨A2, 5, none⟩ (.string ⟨#[]⟩)) := ⟨_, rfl⟩
    rw [← hX]
    obtain ⟨x4, xb⟩ := put6 h21 _ _ _ _ _ _ X hX
    have hbX := xb hb1w hA
    clear hX xb c0 c1 c2 c3 c4 c5
    have x4' : X.heap[A2]? = some (.cells noCmd.vals 23 (0, 0)) := x4
    obtain ⟨⟨c0, c1, c2, c3, c4, c5⟩, _⟩ := cells6s x4'
    simp only [noCmd] at c0 c1 c2 c3 c4 c5
    exact bodyPost_ret (v := .tuple #[.agg noCmd.vals, .int .i64 16]) (by simp [results, Tryz.results4, go_sem, Cmd.vals, noCmd, c0, c1, c2, c3, c4, c5]) rfl ⟨.inr (.inr ⟨h, HNO.out, rfl⟩), hbX⟩
  case inr =>
  have hask := has
  rw [has] at hword
  simp only at hword
  clear has hask
  obtain ⟨K, hK⟩ : ∃ K : ByteArray, Hid (K = ⟨(ks.map codeOf).toArray⟩) := ⟨_, rfl⟩
  rw [← hK.out] at hword
  have hKs : Hid (K.size = ks.length) := by
    unfold Hid
    rw [hK.out]
    simp [ByteArray.size]
  have hK3 : K.size ≤ 3 := by rw [hKs.out]; exact hk3
  have hop0 : (op == 0) = false := beq_eq_false_iff_ne.2 (by omega)
  have hop0' : ¬ op = 0 := by omega
  have hopb : 1 ≤ op ∧ op ≤ 17 := hop
  go_wp2_with fail
  refine hword.mono ?_
  rintro e w1' ⟨rfl, rfl⟩
  clear hword k0 hop
  have hwn : IntKind.i64.wrap (1 + (K.size : Int)) = 1 + (K.size : Int) := by rw [IntKind.wrap_i64]; omega
  by_cases hlen : N = 1 + K.size
  case neg =>
    have bl : ((N : Int) != 1 + (K.size : Int)) = true := by simp; omega
    have HNO : Hid (¬ ∃ op ks, LineOK s op ks) := by
      rintro ⟨op', ks', hl⟩
      have e := hl.row
      rw [← HU0.out, hrow0] at e
      simp only [Option.some.injEq, Prod.mk.injEq] at e
      have e2 := hl.len
      rw [← hN.out, ← e.2, ← hKs.out] at e2
      exact hlen e2
    clear hlen
    obtain ⟨⟨c0, c1, c2, c3, c4, c5⟩, cf⟩ := cells6s h21
    have g0 := cf 0
    have g1 := cf 1
    have g2 := cf 2
    have g3 := cf 3
    have g4 := cf 4
    have g5 := cf 5
    simp only [noCmd] at c0 c1 c2 c3 c4 c5
    clear cf
    go_wp2_with fail
    obtain ⟨X, hX⟩ : ∃ X, X = ((((((w1'.setCell ⟨A2, 0, none⟩ (.int .i64 0)).setCell ⟨A2, 1, none⟩ (.int .i64 0)).setCell ⟨A2, 2, none⟩ (.int .i64 0)).setCell ⟨A2, 3, none⟩ (.int .i64 0)).setCell ⟨A2, 4, none⟩ (.int .i64 0)).setCell ⟨A2, 5, none⟩ (.string ⟨#[]⟩)) := ⟨_, rfl⟩
    rw [← hX]
    obtain ⟨x4, xb⟩ := put6 h21 _ _ _ _ _ _ X hX
    have hbX := xb hb1w hA
    clear hX xb c0 c1 c2 c3 c4 c5
    have x4' : X.heap[A2]? = some (.cells noCmd.vals 23 (0, 0)) := x4
    obtain ⟨⟨c0, c1, c2, c3, c4, c5⟩, _⟩ := cells6s x4'
    simp only [noCmd] at c0 c1 c2 c3 c4 c5
    exact bodyPost_ret (v := .tuple #[.agg noCmd.vals, .int .i64 16]) (by simp [results, Tryz.results4, go_sem, Cmd.vals, noCmd, c0, c1, c2, c3, c4, c5]) rfl ⟨.inr (.inr ⟨h, HNO.out, rfl⟩), hbX⟩
  case pos =>
  have bl : ((N : Int) != 1 + (K.size : Int)) = false := bne_eq_false_iff_eq.2 (by omega)
  have HLEN : Hid _ := hlen
  obtain ⟨w3, hw3⟩ : ∃ w3, w3 = w1'.alloc (.cells (readTo s ks op 0).vals 23) := ⟨_, rfl⟩
  obtain ⟨A8, hA8⟩ : ∃ A8, A8 = w1'.heap.size := ⟨_, rfl⟩
  have hb3 : Below w1'.heap.size w1' w3 := by rw [hw3]; exact (Below.refl _ _).alloc (Nat.le_refl _) _
  have hb3w := hb1w.trans (hb3.mono hb1w.size)
  have h83 : w3.heap[A8]? = some (.cells (readTo s ks op 0).vals 23 (0, 0)) := by rw [hw3, hA8]; exact heap_alloc_new _ _
  have l2 := (Array.getElem?_eq_some_iff.1 h21).1
  have h23 := (hb3.block A2 l2).trans h21
  have HAA : Hid (A2 < A8 ∧ wb < A8 ∧ w.heap.size ≤ A8) := by
    have := hb1w.size
    unfold Hid
    omega
  clear hlen
  go_upto_region 13 with fail
  have hw3' : w1'.alloc (.cells #[.int .i64 op, .int .i64 0, .int .i64 0, .int .i64 0, .int .i64 0, .string ⟨#[]⟩] 23) = w3 := by rw [hw3]; rfl
  rw [hw3', ← hA8]
  clear hw3 hw3' hA8
  go_wp2_with fail
  have HWF : Hid (∀ i, i < N → (wordAt s i).size ≤ 1000) := fun i hi => by
    have hm := wordAt_mem (s := s) (i := i) (by rw [← hN.out]; exact hi)
    exact Nat.le_trans (word_size hm) h
  have HW3 : Hid (∀ i, i < N → w3.cell? ⟨wb, i, none⟩ = some (.string (wordAt s i))) := fun i hi => (hb3.cell (p := ⟨wb, i, none⟩) hwbl).trans (HW.out i hi)
  have hs3 := hb3.size
  go_loopw [9] (fun iv wr => ∃ i : Nat, i ≤ K.size ∧ iv = .int .i64 (i : Int) ∧ Hid (OkTo s ks i) ∧ Hid (wr.heap[A8]? = some (.cells (readTo s ks op i).vals 23 (0, 0))) ∧ Hid (OnlyC w3 wr A8)) (fun iv _ => K.size - (intOf iv).toNat)
  case atStart => exact ⟨0, Nat.zero_le _, rfl, (fun j hj => by omega : OkTo s ks 0), h83, OnlyC.refl _ _⟩
  case round =>
  obtain ⟨i, hi, rfl, HOK, H8, HON⟩ := hrel
  have hl8 := (Array.getElem?_eq_some_iff.1 h83).1
  obtain ⟨a2, awb, aw⟩ := HAA.out
  have h24 := (HON.out.block A2 (by omega) (by omega)).trans h23
  by_cases hin : i < K.size
  case pos =>
    have hii : (i : Int) < (K.size : Int) := by omega
    have hik : i < ks.length := by rw [← hKs.out]; exact hin
    have hI1 : i + 1 < N := by have := HLEN.out; omega
    obtain ⟨κ, hκ⟩ : ∃ κ : Nat, ks.getD i 0 = (κ : Int) ∧ κ < 7 := by
      have hm : ks.getD i 0 ∈ ks := by rw [List.getD_eq_getElem?_getD, List.getElem?_eq_getElem hik]; exact List.getElem_mem hik
      have := hkk _ hm
      exact ⟨(ks.getD i 0).toNat, by omega, by omega⟩
    have hkb : K[i]'hin = codeOf κ := by
      have e1 : ks[i]'hik = (κ : Int) := by
        rw [← hκ.1, List.getD_eq_getElem?_getD, List.getElem?_eq_getElem hik]
        rfl
      have e2 : K = ⟨(ks.map codeOf).toArray⟩ := hK.out
      subst e2
      show ((ks.map codeOf).toArray)[i]'(by simpa using hik) = _
      simp [e1]
    obtain ⟨u, hu⟩ : ∃ u, u = wordAt s (i + 1) := ⟨_, rfl⟩
    have q2 : wr.cell? ⟨wb, i + 1, none⟩ = some (.string u) := by
      rw [hu]
      exact (World.cell?_of_block (HON.out.block wb (by omega) (by omega))).trans (HW3.out (i + 1) (by omega))
    have husz := HWF.out (i + 1) (by omega)
    rw [← hu] at husz
    obtain ⟨x, b, hnum, hb1', hb0'⟩ := num6_one u (by omega)
    have HBT : Hid _ := hb1'
    have HBF : Hid _ := hb0'
    have hnum1 := hnum wr
    have hj1 : (i : Int) + 1 < (N : Int) := by omega
    have hj2 : ((i : Int) + 1).toNat = i + 1 := by omega
    have HU : Hid _ := hu
    have HKA : Hid _ := hκ
    clear hu hκ hb1' hb0' hnum
    go_wp2_with fail
    refine hnum1.mono ?_
    rintro e5 w5 ⟨rfl, hb5⟩
    have hlwr := HON.out.size
    have HON5 : Hid (OnlyC w3 w5 A8) := ⟨Nat.le_trans HON.out.size hb5.size, fun j hj hne => (hb5.block j (by omega)).trans (HON.out.block j hj hne), hb5.os.trans HON.out.os, hb5.tape.trans HON.out.tape, hb5.output.trans HON.out.output⟩
    have h85 := (hb5.block A8 (by omega)).trans H8.out
    obtain ⟨C, hC⟩ : ∃ C, Hid (C = readTo s ks op i) := ⟨_, rfl⟩
    rw [← hC.out] at h85
    clear hnum1 q2
    go_upto_block 4 with fail
    go_cut [12] from 56 to 129 (fun okv wx => ∃ ok : Bool, okv = .bool ok ∧ (ok = true → okW κ u ∧ wx.heap[A8]? = some (.cells (setW κ u C).vals 23 (0, 0))) ∧ (ok = false → ¬ okW κ u) ∧ OnlyC w3 wx A8)
    case first =>
      obtain ⟨⟨c0, c1, c2, c3, c4, c5⟩, cf⟩ := cells6s h85
      have g0 := cf 0
      have g1 := cf 1
      have g2 := cf 2
      have g3 := cf 3
      have g4 := cf 4
      have g5 := cf 5
      clear cf
      have hkt := code_cases κ HKA.out.2
      have HOF := HON5.out
      rcases hkt with ⟨hk7, hkc⟩ | ⟨hk7, hkc⟩ | ⟨hk7, hkc⟩ | ⟨hk7, hkc⟩ | ⟨hk7, hkc⟩ | ⟨hk7, hkc⟩ | ⟨hk7, hkc⟩
      · rw [hkc] at hkb
        have hkn : (K[i]'hin).toNat = 78 := by rw [hkb]; rfl
        subst hk7
        clear hkc hkb
        go_wp2_with fail
        go_meet
        case rel =>
          refine ⟨b, rfl, fun e => ⟨(HBT.out e).1, ?_⟩, fun e => HBF.out e, HOF.put 4 _ h85⟩
          have e2 := (HBT.out e).2
          subst e2
          exact heap_setCell_same _ A8 4 _ _ _ h85
      · rw [hkc] at hkb
        have hkn : (K[i]'hin).toNat = 80 := by rw [hkb]; rfl
        subst hk7
        clear hkc hkb
        go_wp2_with fail
        go_meet
        case rel =>
          refine ⟨b, rfl, fun e => ⟨(HBT.out e).1, ?_⟩, fun e => HBF.out e, HOF.put 1 _ h85⟩
          have e2 := (HBT.out e).2
          subst e2
          exact heap_setCell_same _ A8 1 _ _ _ h85
      · rw [hkc] at hkb
        have hkn : (K[i]'hin).toNat = 73 := by rw [hkb]; rfl
        subst hk7
        clear hkc hkb
        go_wp2_with fail
        go_meet
        case rel =>
          refine ⟨b, rfl, fun e => ⟨(HBT.out e).1, ?_⟩, fun e => HBF.out e, HOF.put 3 _ h85⟩
          have e2 := (HBT.out e).2
          subst e2
          exact heap_setCell_same _ A8 3 _ _ _ h85
      · rw [hkc] at hkb
        have hkn : (K[i]'hin).toNat = 68 := by rw [hkb]; rfl
        subst hk7
        clear hkc hkb
        by_cases hb8 : u.toList = [98]
        · have e1 : (u.toList == [102]) = false := by rw [hb8]; rfl
          have e2 : (u.toList == [98]) = true := by rw [hb8]; rfl
          have hm := mark_any true w5
          have HD : Hid _ := hb8
          clear hb8
          go_wp2_with fail
          refine hm.mono ?_
          rintro e6 w6 ⟨rfl, rfl⟩
          clear hm
          go_wp2_with fail
          go_meet
          case rel =>
            refine ⟨true, rfl, fun _ => ⟨.inl HD.out, ?_⟩, (fun e => by cases e), HOF.put 2 _ h85⟩
            have := heap_setCell_same _ A8 2 _ _ (.int .i64 1) h85
            simpa [setW, HD.out, Cmd.vals] using this
        by_cases hf : u.toList = [102]
        · have e1 : (u.toList == [102]) = true := by rw [hf]; rfl
          have e2 : (u.toList == [98]) = false := by rw [hf]; rfl
          have hm := mark_any false w5
          have HD : Hid _ := hf
          clear hf hb8
          go_wp2_with fail
          refine hm.mono ?_
          rintro e6 w6 ⟨rfl, rfl⟩
          clear hm
          go_wp2_with fail
          go_meet
          case rel =>
            refine ⟨true, rfl, fun _ => ⟨.inr HD.out, ?_⟩, (fun e => by cases e), HOF.put 2 _ h85⟩
            have := heap_setCell_same _ A8 2 _ _ (.int .i64 0) h85
            simpa [setW, HD.out, Cmd.vals] using this
        · have e1 : (u.toList == [102]) = false := beq_eq_false_iff_ne.2 hf
          have e2 : (u.toList == [98]) = false := beq_eq_false_iff_ne.2 hb8
          have hm := mark_any false w5
          have HD : Hid (¬ (u.toList = [98] ∨ u.toList = [102])) := fun h => h.elim hb8 hf
          clear hf hb8
          go_wp2_with fail
          refine hm.mono ?_
          rintro e6 w6 ⟨rfl, rfl⟩
          clear hm
          go_wp2_with fail
          go_meet
          case rel =>
            exact ⟨false, rfl, (fun e => by cases e), fun _ => HD.out, HOF.put 2 _ h85⟩
      · rw [hkc] at hkb
        have hkn : (K[i]'hin).toNat = 84 := by rw [hkb]; rfl
        subst hk7
        clear hkc hkb
        by_cases hz : u.toList = []
        · have e1 : (u.toList == []) = true := by rw [hz]; rfl
          have HD : Hid (¬ 1 ≤ u.size) := by unfold Hid; rw [size_list, hz]; decide
          clear hz
          go_wp2_with fail
          go_meet
          case rel =>
            exact ⟨false, rfl, (fun e => by cases e), fun _ => HD.out, (HOF.put 5 _ h85).put 4 _ (heap_setCell_same _ A8 5 _ _ _ h85)⟩
        · have e1 : (u.toList == []) = false := beq_eq_false_iff_ne.2 hz
          have HD : Hid (1 ≤ u.size) := by
            unfold Hid
            rw [size_list]
            exact List.length_pos_iff.2 hz
          clear hz
          go_wp2_with fail
          go_meet
          case rel =>
            refine ⟨true, rfl, fun _ => ⟨HD.out, ?_⟩, (fun e => by cases e), (HOF.put 5 _ h85).put 4 _ (heap_setCell_same _ A8 5 _ _ _ h85)⟩
            exact heap_setCell_same _ A8 4 _ _ _ (heap_setCell_same _ A8 5 _ _ _ h85)
      · rw [hkc] at hkb
        have hkn : (K[i]'hin).toNat = 67 := by rw [hkb]; rfl
        subst hk7
        clear hkc hkb
        by_cases hz : u.size = 1
        · have e1 : ((u.size : Int) == 1) = true := by rw [hz]; rfl
          have e1' : (u.size == 1) = true := by rw [hz]; rfl
          have HD : Hid _ := hz
          clear hz
          go_wp2_with fail
          go_meet
          case rel =>
            refine ⟨true, rfl, fun _ => ⟨HD.out, ?_⟩, (fun e => by cases e), HOF.put 5 _ h85⟩
            exact heap_setCell_same _ A8 5 _ _ _ h85
        · have e1 : ((u.size : Int) == 1) = false := beq_eq_false_iff_ne.2 (by omega)
          have e1' : (u.size == 1) = false := beq_eq_false_iff_ne.2 hz
          have HD : Hid _ := hz
          clear hz
          go_wp2_with fail
          go_meet
          case rel =>
            exact ⟨false, rfl, (fun e => by cases e), fun _ => HD.out, HOF.put 5 _ h85⟩
      · rw [hkc] at hkb
        have hkn : (K[i]'hin).toNat = 72 := by rw [hkb]; rfl
        subst hk7
        clear hkc hkb
        obtain ⟨y, b', hhex, hyt, hyf⟩ := hex_one u (by omega)
        have HYT : Hid _ := hyt
        have HYF : Hid _ := hyf
        have hhex1 := hhex w5
        clear hyt hyf hhex
        go_wp2_with fail
        refine hhex1.mono ?_
        rintro e6 w6 ⟨rfl, hb6⟩
        have hl5 := (Array.getElem?_eq_some_iff.1 h85).1
        have hs5 := HOF.size
        have h86 := (hb6.block A8 (by omega)).trans h85
        have HO6 : OnlyC w3 w6 A8 := ⟨Nat.le_trans HOF.size hb6.size, fun j hj hne => (hb6.block j (by omega)).trans (HOF.block j hj hne), hb6.os.trans HOF.os, hb6.tape.trans HOF.tape, hb6.output.trans HOF.output⟩
        clear hhex1 c0 c1 c2 c3 c4 c5 g0 g1 g2 g3 g4 g5
        obtain ⟨⟨c0, c1, c2, c3, c4, c5⟩, cf⟩ := cells6s h86
        have g0 := cf 0
        have g1 := cf 1
        have g2 := cf 2
        have g3 := cf 3
        have g4 := cf 4
        have g5 := cf 5
        clear cf
        go_wp2_with fail
        go_meet
        case rel =>
          refine ⟨b', rfl, fun e => ⟨(HYT.out e).1, ?_⟩, fun e => HYF.out e, (HO6.put 5 _ h86).put 4 _ (heap_setCell_same _ A8 5 _ _ _ h86)⟩
          have e2 := (HYT.out e).2
          subst e2
          exact heap_setCell_same _ A8 4 _ _ _ (heap_setCell_same _ A8 5 _ _ _ h86)
    case rest =>
      obtain ⟨ok, rfl, hy, hn, HON6⟩ := hcut
      have hb6w := HON6.below hb3w aw
      have h26 := (HON6.block A2 (by omega) (by omega)).trans h23
      cases ok with
      | true =>
        obtain ⟨y1, y2⟩ := hy rfl
        have HN : Hid (OkTo s ks (i + 1)) := by
          intro j hj
          by_cases e : j < i
          · exact HOK.out j e
          · have e2 : j = i := by omega
            rw [e2, HKA.out.1, ← HU.out]
            exact y1
        have H6 : Hid (wc.heap[A8]? = some (.cells (readTo s ks op (i + 1)).vals 23 (0, 0))) := by
          unfold Hid
          rw [readTo, HKA.out.1, ← HU.out, ← hC.out]
          exact y2
        have HON6' : Hid _ := HON6
        clear y1 y2 hy hn HON6
        go_wp2_with fail
        go_roundw
        case rel => exact ⟨i + 1, by omega, by go_num, HN, H6, HON6'⟩
        case measure => simp [intOf]; omega
      | false =>
        have hno := hn rfl
        have HNO : Hid (¬ ∃ op ks, LineOK s op ks) := by
          rintro ⟨op', ks', hl⟩
          have e := hl.row
          rw [← HU0.out, hrow0] at e
          simp only [Option.some.injEq, Prod.mk.injEq] at e
          have e2 := hl.ok
          rw [← e.2] at e2
          have e3 := e2 i hik
          rw [HKA.out.1, ← HU.out] at e3
          exact hno e3
        clear hno hn hy HON6
        obtain ⟨⟨c0, c1, c2, c3, c4, c5⟩, cf⟩ := cells6s h26
        have g0 := cf 0
        have g1 := cf 1
        have g2 := cf 2
        have g3 := cf 3
        have g4 := cf 4
        have g5 := cf 5
        simp only [noCmd] at c0 c1 c2 c3 c4 c5
        clear cf
        go_wp2_with fail
        obtain ⟨X, hX⟩ : ∃ X, X = ((((((wc.setCell ⟨A2, 0, none⟩ (.int .i64 0)).setCell ⟨A2, 1, none⟩ (.int .i64 0)).setCell ⟨A2, 2, none⟩ (.int .i64 0)).setCell ⟨A2, 3, none⟩ (.int .i64 0)).setCell ⟨A2, 4, none⟩ (.int .i64 0)).setCell ⟨A2, 5, none⟩ (.string ⟨#[]⟩)) := ⟨_, rfl⟩
        rw [← hX]
        obtain ⟨x4, xb⟩ := put6 h26 _ _ _ _ _ _ X hX
        have hbX := xb hb6w hA
        clear hX xb c0 c1 c2 c3 c4 c5
        have x4' : X.heap[A2]? = some (.cells noCmd.vals 23 (0, 0)) := x4
        obtain ⟨⟨c0, c1, c2, c3, c4, c5⟩, _⟩ := cells6s x4'
        simp only [noCmd] at c0 c1 c2 c3 c4 c5
        exact bodyPost_ret (v := .tuple #[.agg noCmd.vals, .int .i64 16]) (by simp [results, Tryz.results4, go_sem, Cmd.vals, noCmd, c0, c1, c2, c3, c4, c5]) rfl ⟨.inr (.inr ⟨h, HNO.out, rfl⟩), hbX⟩
  case neg =>
    obtain rfl : i = K.size := by omega
    have hii : ¬ (K.size : Int) < (K.size : Int) := by omega
    obtain ⟨C, hC⟩ : ∃ C, Hid (C = readTo s ks op K.size) := ⟨_, rfl⟩
    have h8 := H8.out
    rw [← hC.out] at h8
    obtain ⟨⟨c0, c1, c2, c3, c4, c5⟩, _⟩ := cells6s h8
    obtain ⟨⟨z0, z1, z2, z3, z4, z5⟩, zf⟩ := cells6s h24
    have g0 := zf 0
    have g1 := zf 1
    have g2 := zf 2
    have g3 := zf 3
    have g4 := zf 4
    have g5 := zf 5
    simp only [noCmd] at z0 z1 z2 z3 z4 z5
    clear zf
    have m1 : ¬ A2 = A8 := by omega
    have m2 : ¬ A8 = A2 := by omega
    have HPF : Hid (LineOK s op ks) := line_good HB0.out (by rw [← HU0.out]; exact hrow0) (by rw [← hN.out, HLEN.out, hKs.out]) (by rw [← hKs.out]; exact HOK.out)
    have hbRw := HON.out.below hb3w aw
    go_wp2_with fail
    obtain ⟨X, hX⟩ : ∃ X, X = ((((((wr.setCell ⟨A2, 0, none⟩ (.int .i64 C.op)).setCell ⟨A2, 1, none⟩ (.int .i64 C.path)).setCell ⟨A2, 2, none⟩ (.int .i64 C.dir)).setCell ⟨A2, 3, none⟩ (.int .i64 C.ix)).setCell ⟨A2, 4, none⟩ (.int .i64 C.n)).setCell ⟨A2, 5, none⟩ (.string C.data)) := ⟨_, rfl⟩
    rw [← hX]
    obtain ⟨x4, xb⟩ := put6 h24 _ _ _ _ _ _ X hX
    have hbX := xb hbRw hA
    clear hX xb c0 c1 c2 c3 c4 c5 z0 z1 z2 z3 z4 z5
    have x4' : X.heap[A2]? = some (.cells C.vals 23 (0, 0)) := x4
    obtain ⟨⟨c0, c1, c2, c3, c4, c5⟩, _⟩ := cells6s x4'
    exact bodyPost_ret (v := .tuple #[.agg C.vals, .int .i64 0]) (by simp [results, Tryz.results4, go_sem, Cmd.vals, c0, c1, c2, c3, c4, c5]) rfl ⟨.inr (.inl ⟨h, op, ks, HPF.out, by rw [hC.out, hKs.out]⟩), hbX⟩
theorem specLine_any (s : ByteArray) (w : World) : Calls Tryz.prog 4 #[.string s] w (ParseP s w) := by
  by_cases h : 1000 < s.size
  · exact specLine_long s h w
  by_cases hb : BytesOK s s.size
  · exact specLine_at s (by omega) hb w
  · exact specLine_bytes s (by omega) hb w
end Go.Proofs.YtjiaiaclmceeeaaGreatDoor
