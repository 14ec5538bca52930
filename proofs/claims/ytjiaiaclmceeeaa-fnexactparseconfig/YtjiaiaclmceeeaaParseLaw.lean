import Derived.Test.YtjiaiaclmceeeaaSpecParse2
import Derived.Test.YtjiaiaclmceeeaaImplParse2
namespace Go.Proofs.Ytjiaiaclmceeeaa
open Go.ChangeShapes Go.WideShapes Go.ChangeAt Go.RowKit
set_option linter.unusedVariables false

theorem word_size (s : ByteArray) (i : Nat) : (word s i).size ≤ s.size := by
  unfold word
  by_cases h : i < (wordsOf s).length
  · have e : (wordsOf s).getD i ⟨#[]⟩ = (wordsOf s)[i] := by simp [h]
    rw [e]
    have hm : (wordsOf s)[i] ∈ wordsOf s := List.getElem_mem h
    generalize (wordsOf s)[i] = u at hm
    unfold wordsOf strs at hm
    rcases List.mem_append.1 hm with hm | hm
    · obtain ⟨p, _, rfl⟩ := List.mem_map.1 hm
      rw [ByteArray.size_extract]; omega
    · simp at hm
      subst hm
      rw [ByteArray.size_extract]; omega
  · have e : (wordsOf s).getD i ⟨#[]⟩ = ⟨#[]⟩ := by simp [h]
    rw [e]
    exact Nat.zero_le _

theorem bothParse (s : ByteArray) (hn : s.size ≤ 1048576) : ∃ m0 m1 m2 m3 m4 m5 m6 m7 m8 m9 m10 m11 code : Int, Cfgs 8 s #[.int .i64 m0, .int .i64 m1, .int .i64 m2, .int .i64 m3, .int .i64 m4, .int .i64 m5, .int .i64 m6, .int .i64 m7, .int .i64 m8, .int .i64 m9, .int .i64 m10, .int .u32 m11] code ∧ Cfgs 9 s #[.int .i64 m0, .int .i64 m1, .int .i64 m2, .int .i64 m3, .int .i64 m4, .int .i64 m5, .int .i64 m6, .int .i64 m7, .int .i64 m8, .int .i64 m9, .int .i64 m10, .int .u32 m11] code := by
  have hz : ∀ i, i < 13 → (word s i).size ≤ 9223372036854775807 := fun i _ => by have := word_size s i; omega
  by_cases hA : (wordsOf s).length = 13
  · by_cases hB : word s 0 = conf
    · have hfull : Good s → ∀ i, i < 13 → 1 ≤ (word s i).size := fun hg i hi => by
        have e : word s i = (wordsOf s)[i]'(by omega) := by unfold word; simp [hA, hi]
        rw [e]
        exact words_full hg _ (List.getElem_mem _)
      obtain ⟨r, hs, hi⟩ : ∃ r, Cfg (val s 1) (val s 2) (val s 3) (val s 4) (val s 5) (val s 6) (val s 7) (val s 8) (val s 9) (val s 10) (val s 11) (val s 12 % 4294967296) 11 r ∧ Cfg (val s 1) (val s 2) (val s 3) (val s 4) (val s 5) (val s 6) (val s 7) (val s 8) (val s 9) (val s 10) (val s 11) (val s 12 % 4294967296) 12 r := by
        rcases both_cfg (val s 1) (val s 2) (val s 3) (val s 4) (val s 5) (val s 6) (val s 7) (val s 8) (val s 9) (val s 10) (val s 11) (val s 12 % 4294967296) with ⟨_, _, h1, h2⟩ | ⟨h1, h2⟩
        · exact ⟨true, h1, h2⟩
        · exact ⟨false, h1, h2⟩
      by_cases hall : ∀ j, 1 ≤ j → j ≤ 12 → NumOK (word s j)
      · have hg : Good s := Parsed.good ⟨hA, hB, fun i h1 h2 => hall i h1 (by omega)⟩
        by_cases hok : val s 12 < 4294967296 ∧ r = true
        · have hout : Out s r (cfgOf s) 0 := .inr ⟨hok.1, hok.2, rfl, rfl⟩
          exact ⟨val s 1, val s 2, val s 3, val s 4, val s 5, val s 6, val s 7, val s 8, val s 9, val s 10, val s 11, val s 12 % 4294967296, 0, spec_nums s hn hA hB hz r hs _ _ (.inr ⟨hall, hout⟩), impl_nums s hn hg hA hB hz (hfull hg) r hi _ _ (.inr ⟨hall, hout⟩)⟩
        · have hout : Out s r #[.int .i64 0, .int .i64 0, .int .i64 0, .int .i64 0, .int .i64 0, .int .i64 0, .int .i64 0, .int .i64 0, .int .i64 0, .int .i64 0, .int .i64 0, .int .u32 0] 17 := .inl ⟨by
            by_cases h1 : 4294967296 ≤ val s 12
            · exact .inl h1
            · refine .inr ?_
              cases r with
              | false => rfl
              | true => exact absurd ⟨by omega, rfl⟩ hok, rfl, rfl⟩
          exact ⟨0, 0, 0, 0, 0, 0, 0, 0, 0, 0, 0, 0, 17, spec_nums s hn hA hB hz r hs _ _ (.inr ⟨hall, hout⟩), impl_nums s hn hg hA hB hz (hfull hg) r hi _ _ (.inr ⟨hall, hout⟩)⟩
      · refine ⟨0, 0, 0, 0, 0, 0, 0, 0, 0, 0, 0, 0, 16, spec_nums s hn hA hB hz r hs _ _ (.inl ⟨hall, rfl, rfl⟩), ?_⟩
        by_cases hg : Good s
        · exact impl_nums s hn hg hA hB hz (hfull hg) r hi _ _ (.inl ⟨hall, rfl, rfl⟩)
        · exact impl_cut s hn hg
    · refine ⟨0, 0, 0, 0, 0, 0, 0, 0, 0, 0, 0, 0, 16, spec_word s hn hA hB, ?_⟩
      by_cases hg : Good s
      · exact impl_word s hn hg hA hB
      · exact impl_cut s hn hg
  · refine ⟨0, 0, 0, 0, 0, 0, 0, 0, 0, 0, 0, 0, 16, spec_len s hn hA, ?_⟩
    by_cases hg : Good s
    · exact impl_len s hn hg hA
    · exact impl_cut s hn hg

set_option maxRecDepth 100000 in
set_option maxHeartbeats 1000000 in
theorem eqConfig_same (m0 m1 m2 m3 m4 m5 m6 m7 m8 m9 m10 m11 : Int) (w : World) : Calls Try.prog 10 #[.agg #[.int .i64 m0, .int .i64 m1, .int .i64 m2, .int .i64 m3, .int .i64 m4, .int .i64 m5, .int .i64 m6, .int .i64 m7, .int .i64 m8, .int .i64 m9, .int .i64 m10, .int .u32 m11], .agg #[.int .i64 m0, .int .i64 m1, .int .i64 m2, .int .i64 m3, .int .i64 m4, .int .i64 m5, .int .i64 m6, .int .i64 m7, .int .i64 m8, .int .i64 m9, .int .i64 m10, .int .u32 m11]] w fun e w' => e = .returned (.bool true) ∧ Below w.heap.size w w' := by
  have hbX := fun o o1 : Obj => ((Below.refl w.heap.size w).alloc (Nat.le_refl _) o).alloc (by simp) o1
  go_enter Try.func10, Try.ntmps10
  go_wp2
  go_ret
  exact ⟨rfl, hbX _ _⟩

set_option maxRecDepth 100000 in
set_option maxHeartbeats 1000000 in
theorem lawParse (s : ByteArray) (w : World) (hm : s.size ≤ 9223372036854775807) : Calls Try.prog 4 #[.string s] w fun e w' => e = .returned (.bool true) ∧ Below w.heap.size w w' := by
  by_cases hn : s.size ≤ 1048576
  · obtain ⟨m0, m1, m2, m3, m4, m5, m6, m7, m8, m9, m10, m11, code, hs, hi⟩ := bothParse s hn
    have hn' : ¬ (1048576 : Int) < (s.size : Int) := by omega
    go_enter Try.func4, Try.ntmps4
    go_wp2_with fail
    refine Calls.mono (hs _) ?_
    rintro e w1 ⟨rfl, hb1⟩
    obtain ⟨V1, hV1⟩ : ∃ x, x = w1.alloc (.cells #[.int .i64 m0, .int .i64 m1, .int .i64 m2, .int .i64 m3, .int .i64 m4, .int .i64 m5, .int .i64 m6, .int .i64 m7, .int .i64 m8, .int .i64 m9, .int .i64 m10, .int .u32 m11] 26) := ⟨_, rfl⟩
    have hbV : Below w.heap.size w V1 := by rw [hV1]; exact hb1.alloc hb1.size _
    have k0 : V1.cell? ⟨w1.heap.size, 0, none⟩ = some (.int .i64 m0) := by rw [hV1]; simp
    have k1 : V1.cell? ⟨w1.heap.size, 1, none⟩ = some (.int .i64 m1) := by rw [hV1]; simp
    have k2 : V1.cell? ⟨w1.heap.size, 2, none⟩ = some (.int .i64 m2) := by rw [hV1]; simp
    have k3 : V1.cell? ⟨w1.heap.size, 3, none⟩ = some (.int .i64 m3) := by rw [hV1]; simp
    have k4 : V1.cell? ⟨w1.heap.size, 4, none⟩ = some (.int .i64 m4) := by rw [hV1]; simp
    have k5 : V1.cell? ⟨w1.heap.size, 5, none⟩ = some (.int .i64 m5) := by rw [hV1]; simp
    have k6 : V1.cell? ⟨w1.heap.size, 6, none⟩ = some (.int .i64 m6) := by rw [hV1]; simp
    have k7 : V1.cell? ⟨w1.heap.size, 7, none⟩ = some (.int .i64 m7) := by rw [hV1]; simp
    have k8 : V1.cell? ⟨w1.heap.size, 8, none⟩ = some (.int .i64 m8) := by rw [hV1]; simp
    have k9 : V1.cell? ⟨w1.heap.size, 9, none⟩ = some (.int .i64 m9) := by rw [hV1]; simp
    have k10 : V1.cell? ⟨w1.heap.size, 10, none⟩ = some (.int .i64 m10) := by rw [hV1]; simp
    have k11 : V1.cell? ⟨w1.heap.size, 11, none⟩ = some (.int .u32 m11) := by rw [hV1]; simp
    go_wp2_with fail
    rw [← hV1]
    clear hV1 hb1
    refine Calls.mono (hi _) ?_
    rintro e w2 ⟨rfl, hb2⟩
    have j0 := (hb2.cell (World.block_lt_of_cell? _ _ k0)).trans k0
    have j1 := (hb2.cell (World.block_lt_of_cell? _ _ k1)).trans k1
    have j2 := (hb2.cell (World.block_lt_of_cell? _ _ k2)).trans k2
    have j3 := (hb2.cell (World.block_lt_of_cell? _ _ k3)).trans k3
    have j4 := (hb2.cell (World.block_lt_of_cell? _ _ k4)).trans k4
    have j5 := (hb2.cell (World.block_lt_of_cell? _ _ k5)).trans k5
    have j6 := (hb2.cell (World.block_lt_of_cell? _ _ k6)).trans k6
    have j7 := (hb2.cell (World.block_lt_of_cell? _ _ k7)).trans k7
    have j8 := (hb2.cell (World.block_lt_of_cell? _ _ k8)).trans k8
    have j9 := (hb2.cell (World.block_lt_of_cell? _ _ k9)).trans k9
    have j10 := (hb2.cell (World.block_lt_of_cell? _ _ k10)).trans k10
    have j11 := (hb2.cell (World.block_lt_of_cell? _ _ k11)).trans k11
    have hbw2 := hbV.trans (hb2.mono hbV.size)
    have bl : w1.heap.size < w2.heap.size := World.block_lt_of_cell? _ _ j0
    have bn : ¬ w1.heap.size = w2.heap.size := by omega
    have bm : ¬ w2.heap.size = w1.heap.size := by omega
    clear hb2 k0 k1 k2 k3 k4 k5 k6 k7 k8 k9 k10 k11
    obtain ⟨V2, hV2⟩ : ∃ x, x = w2.alloc (.cells #[.int .i64 m0, .int .i64 m1, .int .i64 m2, .int .i64 m3, .int .i64 m4, .int .i64 m5, .int .i64 m6, .int .i64 m7, .int .i64 m8, .int .i64 m9, .int .i64 m10, .int .u32 m11] 26) := ⟨_, rfl⟩
    have hbV2 : Below w.heap.size w V2 := by rw [hV2]; exact hbw2.alloc hbw2.size _
    go_wp2_with fail
    rw [← hV2]
    clear hV2
    refine Calls.mono (eqConfig_same m0 m1 m2 m3 m4 m5 m6 m7 m8 m9 m10 m11 _) ?_
    rintro e w3 ⟨rfl, hb3⟩
    go_wp2
    go_ret
    exact ⟨rfl, hbV2.trans (hb3.mono hbV2.size)⟩
  · have hn' : (1048576 : Int) < (s.size : Int) := by omega
    go_enter Try.func4, Try.ntmps4
    go_wp2
    go_ret
    exact ⟨rfl, Below.refl _ _⟩
end Go.Proofs.Ytjiaiaclmceeeaa
