import Derived.Test.YtkamdaadgndmbaaNFl2
namespace Go.Proofs.Ytkamdaadgndmbaa
open Go.ChangeShapes Go.WideShapes Go.ChangeAt Go.RowKit
set_option linter.unusedVariables false

/-! ### Marking a bag's datagrams -/
def lenG (g : Bg) : Nat := (g.map fun q => q.1.length).sum
def markGs : Int → Bg → Bg
  | _, [] => []
  | s, q :: r => (markedB s q.1.length, q.2) :: markGs (s + (q.1.length : Int)) r
theorem lenG_cons (q : List Int × Value) (r : Bg) : lenG (q :: r) = q.1.length + lenG r := by simp [lenG]
theorem lenG_snoc (r : Bg) (q : List Int × Value) : lenG (r ++ [q]) = lenG r + q.1.length := by simp [lenG]
theorem markGs_length (g : Bg) : ∀ s, (markGs s g).length = g.length := by
  induction g with
  | nil => intro s; rfl
  | cons q r ih => intro s; simp [markGs, ih]
theorem markGs_snoc (q : List Int × Value) (g : Bg) : ∀ s, markGs s (g ++ [q]) = markGs s g ++ [(markedB (s + (lenG g : Nat)) q.1.length, q.2)] := by
  induction g with
  | nil => intro s; simp [markGs, lenG]
  | cons p r ih =>
    intro s
    simp only [List.cons_append, markGs, ih, lenG_cons]
    have e : s + (p.1.length : Int) + (lenG r : Nat) = s + ((p.1.length + lenG r : Nat) : Int) := by omega
    rw [e]
theorem markGs_val (g : Bg) : ∀ s, (markGs s g).map (·.2) = g.map (·.2) := by
  induction g with
  | nil => intro s; rfl
  | cons q r ih => intro s; simp [markGs, ih]
theorem lenG_le (g : Bg) (m : Nat) (h : ∀ q ∈ g, q.1.length ≤ m) : lenG g ≤ g.length * m := by
  induction g with
  | nil => simp [lenG]
  | cons q r ih =>
    have h1 := h q (List.mem_cons_self ..)
    have h2 := ih fun p hp => h p (List.mem_cons_of_mem _ hp)
    rw [lenG_cons, List.length_cons, Nat.add_mul]
    omega
/-- What marking a bag's datagrams leaves of the memory. -/
structure OnlyG (w w' : World) (g : Bg) : Prop where
  os : w'.os = w.os
  tape : w'.tape = w.tape
  output : w'.output = w.output
  size : w.heap.size ≤ w'.heap.size
  block : ∀ k, k < w.heap.size → (∀ q ∈ g, q.2.ownBlock ≠ some k) → w'.heap[k]? = w.heap[k]?
theorem markTo_at {g : Bg} {k : Nat} (s : Int) (h : k < g.length) : (markGs s (g.take k) ++ g.drop k)[k]? = some g[k] := by
  have e : (markGs s (g.take k)).length = k := by rw [markGs_length, List.length_take]; omega
  rw [List.getElem?_append_right (by omega), e, Nat.sub_self, List.getElem?_drop]
  simp [h]
theorem markTo_set {g : Bg} {k : Nat} (s : Int) (h : k < g.length) : (markGs s (g.take k) ++ g.drop k).set k (markedB (s + (lenG (g.take k) : Nat)) (g[k]).1.length, (g[k]).2) = markGs s (g.take (k + 1)) ++ g.drop (k + 1) := by
  have e : (markGs s (g.take k)).length = k := by rw [markGs_length, List.length_take]; omega
  rw [List.set_append_right _ _ (by omega), e, Nat.sub_self, List.take_succ_eq_append_getElem h, markGs_snoc, List.append_assoc]
  congr 1
  rw [List.drop_eq_getElem_cons h]
  rfl
theorem markTo_val (g : Bg) (s : Int) (k : Nat) : (markGs s (g.take k) ++ g.drop k).map (·.2) = g.map (·.2) := by
  rw [List.map_append, markGs_val, ← List.map_append, List.take_append_drop]
/-- One datagram's bytes are others. -/
theorem RowB.bytes {w w' : World} {base : Nat} {v : Value} {g : Bg} (h : RowB w base v g) (hap : (g.filterMap fun q => q.2.ownBlock).Nodup) {i : Nat} {y F : List Int} {dv : Value} (hp : g[i]? = some (y, dv)) (hF : F.length = y.length) (hg : w.grownBy w' dv.ownBlock) (hnew : w'.ownsRow base 5 1 dv y.length (F.map (.int .u8))) : RowB w' base v (g.set i (F, dv)) := by
  obtain ⟨hi, hie⟩ := List.getElem?_eq_some_iff.1 hp
  have hv : (g.set i (F, dv)).map (·.2) = g.map (·.2) := by
    rw [List.map_set]
    refine List.ext_getElem? fun j => ?_
    by_cases e : i = j
    · subst e; rw [List.getElem?_set_self (by simpa using hi), List.getElem?_map, hp]; rfl
    · rw [List.getElem?_set_ne e]
  refine ⟨?_, fun q hq => ?_⟩
  · rw [hv, List.length_set]
    refine row_stays h.row fun k hk => hg.block k (h.row.lt k hk).2 fun e => ?_
    obtain ⟨c1, hc1⟩ := row_block h.row hk
    obtain ⟨c2, hc2⟩ := row_block (h.dat _ (List.mem_of_getElem? hp)) e.symm
    exact type_ne hc1 hc2 (by decide) rfl
  · rcases mem_set_at hq with rfl | ⟨j, hj, hne, rfl⟩
    · simp only [hF]; exact hnew
    · have hdj := h.dat _ (List.getElem_mem hj)
      refine row_stays hdj fun k hk => hg.block k (hdj.lt k hk).2 fun e => ?_
      exact apart_of hap hj hi hne hk (by rw [hie]; exact e.symm)
set_option maxHeartbeats 1000000 in
set_option maxRecDepth 100000 in
theorem markByteSS_any (g : Bg) (base : Nat) (a : Option Addr) (n cap : Nat) (s : Int) (w : World) (hn : g.length = n) (h : RowB w base (.slice a n cap) g) (hap : (g.filterMap fun q => q.2.ownBlock).Nodup) (hl : n ≤ 64) (hd : ∀ q ∈ g, q.1.length ≤ 64) (s0 : 0 ≤ s) (s1 : s ≤ 10000000) :
    Calls Try.prog 36 #[.slice a n cap, .int .i64 s] w fun e w' => e = .returned (.int .i64 (s + (lenG g : Nat))) ∧ RowB w' base (.slice a n cap) (markGs s g) ∧ OnlyG w w' g := by
  have HN : Hid (g.length = n) := hn
  have hsum : ∀ k, lenG (g.take k) ≤ 4096 := fun k => by
    have h1 := lenG_le (g.take k) 64 fun q hq => hd q (List.mem_of_mem_take hq)
    have h2 : (g.take k).length ≤ 64 := by rw [List.length_take]; omega
    have h3 := Nat.mul_le_mul_right 64 h2
    omega
  have hD0 : RowB w base (.slice a n cap) (markGs s (g.take 0) ++ g.drop 0) := by simpa [markGs] using h
  have HS : Hid _ := hsum
  have HD : Hid _ := hd
  clear hn hsum hd
  go_enter Try.func36, Try.ntmps36
  go_wp2_with fail
  go_loopw [1, 5] (fun sv i wr => ∃ (k : Nat) (q : Int), k ≤ n ∧ i = .int .i64 (k : Int) ∧ sv = .int .i64 q ∧ Hid (q = s + (lenG (g.take k) : Nat)) ∧ RowB wr base (.slice a n cap) (markGs s (g.take k) ++ g.drop k) ∧ OnlyG w wr g) (fun _ i _ => n - (intOf i).toNat)
  case atStart => exact ⟨0, s, Nat.zero_le _, rfl, rfl, by unfold Hid; simp [lenG], hD0, ⟨rfl, rfl, rfl, Nat.le_refl _, fun _ _ _ => rfl⟩⟩
  case round =>
  clear hD0
  obtain ⟨k, q, hk, rfl, rfl, hq, hR, hO⟩ := hrel
  by_cases hlt : k < n
  · have hkl : k < g.length := by have := HN.out; omega
    have hq1 := HS.out k
    have hqe := hq.out
    have q0 : 0 ≤ q := by omega
    have q1 : q ≤ 1000000000 := by omega
    have hat := markTo_at s hkl
    have hset := markTo_set s hkl
    have hdat := hR.dat _ (List.mem_of_getElem? hat)
    have hln : (markGs s (g.take k) ++ g.drop k).length = n := by rw [List.length_append, markGs_length, List.length_take, List.length_drop]; have := HN.out; omega
    have hrow := hR.row
    rw [hln] at hrow
    rcases hrow.2 with ⟨e, _⟩ | ⟨gb, cp', cur, e, hgb, hgh, _⟩
    · simp only [Value.slice.injEq] at e; omega
    simp only [Value.slice.injEq] at e
    obtain ⟨rfl, -, e9⟩ := e
    subst e9
    have c0 : wr.cell? ⟨gb, k, none⟩ = some (g[k]).2 := by rw [hrow.cellAt k (by omega), List.getElem?_map, hat]; rfl
    have hdk := HD.out _ (List.getElem_mem hkl)
    have hmem : g[k] ∈ g := List.getElem_mem hkl
    have hsucc : lenG (g.take (k + 1)) = lenG (g.take k) + (g[k]).1.length := by rw [List.take_succ_eq_append_getElem hkl, lenG_snoc]
    have hap2 : ((markGs s (g.take k) ++ g.drop k).filterMap fun q => q.2.ownBlock).Nodup := by
      have e1 : ∀ G : Bg, (G.filterMap fun q => q.2.ownBlock) = (G.map (·.2)).filterMap Value.ownBlock := fun G => by rw [List.filterMap_map]; rfl
      rw [e1, markTo_val, ← e1]
      exact hap
    obtain ⟨⟨y, dv⟩, he⟩ : ∃ p, g[k] = p := ⟨_, rfl⟩
    rw [he] at c0 hdk hdat hat hset hsucc hmem
    simp only at c0 hdk hdat hset hsucc
    obtain ⟨yl, hyl⟩ : ∃ yl, y.length = yl := ⟨_, rfl⟩
    rw [hyl] at hdat hdk
    have hmk := markByteS_any dv y q wr base yl hyl hdat (by omega) q0 q1
    obtain ⟨da, dc, rfl⟩ := own_shape hdat
    have HQ : Hid _ := hq
    have HAT : Hid _ := hat
    have HSET : Hid _ := hset
    have HSU : Hid _ := hsucc
    have HYL : Hid _ := hyl
    have HAP : Hid _ := hap2
    have HMEM : Hid _ := hmem
    clear hq hqe hat hset hsucc hyl hap2 hmem he hrow hgh hdat hln
    go_wp2_with fail
    refine hmk.mono ?_
    rintro e w2 ⟨rfl, ho2, hg2⟩
    have hR2 := hR.bytes HAP.out HAT.out (F := markedB q yl) (by rw [markedB_length, HYL.out]) hg2 (by rw [HYL.out]; exact ho2)
    rw [show markedB q yl = markedB (s + (lenG (g.take k) : Nat)) y.length by rw [HYL.out, ← HQ.out], HSET.out] at hR2
    have hO2 : OnlyG w w2 g := ⟨hg2.os.trans hO.os, hg2.tape.trans hO.tape, hg2.output.trans hO.output, Nat.le_trans hO.size hg2.size, fun j hj hno => (hg2.block j (Nat.lt_of_lt_of_le hj hO.size) fun e => hno _ HMEM.out e.symm).trans (hO.block j hj hno)⟩
    have hwr : IntKind.i64.wrap (q + (yl : Int)) = q + (yl : Int) := by rw [IntKind.wrap_i64]; omega
    clear hmk hR hO
    go_wp2_with fail
    go_roundw
    case rel => exact ⟨k + 1, q + (yl : Int), by omega, by go_num, rfl, by unfold Hid; rw [HSU.out, HYL.out, HQ.out]; omega, hR2, hO2⟩
    case measure => simp [intOf]; omega
  · obtain rfl : k = n := by omega
    have hkk : ¬ (k : Int) < (k : Int) := by omega
    rw [List.take_of_length_le (by have := HN.out; omega), List.drop_of_length_le (by have := HN.out; omega), List.append_nil] at hR
    have hqe : Hid (q = s + (lenG g : Nat)) := by
      have := hq.out
      rw [List.take_of_length_le (by have := HN.out; omega)] at this
      exact this
    clear hq
    go_wp2_with fail
    go_ret
    exact ⟨by have e9 := hqe.out; first | exact e9 | (rw [e9]; done) | simp [e9], hR, hO⟩
set_option maxHeartbeats 1000000 in
set_option maxRecDepth 100000 in
theorem heldByteSS_any (g : Bg) (base : Nat) (a : Option Addr) (n cap : Nat) (s : Int) (w : World) (hn : g.length = n) (h : RowB w base (.slice a n cap) (markGs s g)) (hl : n ≤ 64) (hd : ∀ q ∈ g, q.1.length ≤ 64) (s0 : 0 ≤ s) (s1 : s ≤ 10000000) :
    Calls Try.prog 37 #[.slice a n cap, .int .i64 s] w fun e w' => e = .returned (.int .i64 (s + (lenG g : Nat))) ∧ w' = w := by
  have HN : Hid (g.length = n) := hn
  have hsum : ∀ k, lenG (g.take k) ≤ 4096 := fun k => by
    have h1 := lenG_le (g.take k) 64 fun q hq => hd q (List.mem_of_mem_take hq)
    have h2 : (g.take k).length ≤ 64 := by rw [List.length_take]; omega
    have h3 := Nat.mul_le_mul_right 64 h2
    omega
  have HS : Hid _ := hsum
  have HD : Hid _ := hd
  clear hn hsum hd
  go_enter Try.func37, Try.ntmps37
  go_wp2_with fail
  go_loopw [1, 5] (fun sv i wr => ∃ (k : Nat) (q : Int), k ≤ n ∧ i = .int .i64 (k : Int) ∧ sv = .int .i64 q ∧ Hid (q = s + (lenG (g.take k) : Nat)) ∧ wr = w) (fun _ i _ => n - (intOf i).toNat)
  case atStart => exact ⟨0, s, Nat.zero_le _, rfl, rfl, by unfold Hid; simp [lenG], rfl⟩
  case round =>
  obtain ⟨k, q, hk, rfl, rfl, hq, rfl⟩ := hrel
  by_cases hlt : k < n
  · have hkl : k < g.length := by have := HN.out; omega
    have hq1 := HS.out k
    have hqe := hq.out
    have q0 : 0 ≤ q := by omega
    have q1 : q ≤ 1000000000 := by omega
    have hat : (markGs s g)[k]? = some (markedB (s + (lenG (g.take k) : Nat)) (g[k]).1.length, (g[k]).2) := by
      have e : g = (g.take k ++ [g[k]]) ++ g.drop (k + 1) := by rw [← List.take_succ_eq_append_getElem hkl, List.take_append_drop]
      have hm : ∀ (u v : Bg) s, markGs s (u ++ v) = markGs s u ++ markGs (s + (lenG u : Nat)) v := by
        intro u
        induction u with
        | nil => intro v s; simp [markGs, lenG]
        | cons p r ih =>
          intro v s
          simp only [List.cons_append, markGs, ih, lenG_cons]
          congr 3
          omega
      conv => lhs; rw [e]
      rw [hm, markGs_snoc, List.append_assoc, List.getElem?_append_right (by rw [markGs_length, List.length_take]; omega)]
      have e2 : k - (markGs s (g.take k)).length = 0 := by rw [markGs_length, List.length_take]; omega
      rw [e2]
      rfl
    have hdat := h.dat _ (List.mem_of_getElem? hat)
    have hrow := h.row
    rw [markGs_length, HN.out] at hrow
    rcases hrow.2 with ⟨e, _⟩ | ⟨gb, cp', cur, e, hgb, hgh, _⟩
    · simp only [Value.slice.injEq] at e; omega
    simp only [Value.slice.injEq] at e
    obtain ⟨rfl, -, e9⟩ := e
    subst e9
    have c0 : wr.cell? ⟨gb, k, none⟩ = some (g[k]).2 := by rw [hrow.cellAt k (by omega), List.getElem?_map, hat]; rfl
    have hdk := HD.out _ (List.getElem_mem hkl)
    have hsucc : lenG (g.take (k + 1)) = lenG (g.take k) + (g[k]).1.length := by rw [List.take_succ_eq_append_getElem hkl, lenG_snoc]
    obtain ⟨⟨y, dv⟩, he⟩ : ∃ p, g[k] = p := ⟨_, rfl⟩
    rw [he] at c0 hdk hdat hsucc
    simp only [markedB_length] at c0 hdk hdat hsucc
    obtain ⟨yl, hyl⟩ : ∃ yl, y.length = yl := ⟨_, rfl⟩
    rw [hyl, ← hqe] at hdat
    rw [hyl] at hdk
    obtain ⟨da, dc, rfl⟩ := own_shape hdat
    have hhe := heldByteS_any da yl dc q wr (Ints.ofRow hdat) (by omega) q0 q1
    have HQ : Hid _ := hq
    have HSU : Hid _ := hsucc
    have HYL : Hid _ := hyl
    have hwr : IntKind.i64.wrap (q + (yl : Int)) = q + (yl : Int) := by rw [IntKind.wrap_i64]; omega
    have d9 : decide (q + (yl : Int) < 0) = false := by rw [decide_eq_false_iff_not]; omega
    clear hq hqe hat hsucc hyl he hrow hgh hdat
    go_wp2_with fail
    refine hhe.mono ?_
    rintro e w2 ⟨rfl, rfl⟩
    clear hhe
    go_wp2_with fail
    go_roundw
    case rel => exact ⟨k + 1, q + (yl : Int), by omega, by go_num, rfl, by unfold Hid; rw [HSU.out, HYL.out, HQ.out]; omega, by first | rfl | trivial⟩
    case measure => simp [intOf]; omega
  · obtain rfl : k = n := by omega
    have hkk : ¬ (k : Int) < (k : Int) := by omega
    have hqe : Hid (q = s + (lenG g : Nat)) := by
      have := hq.out
      rw [List.take_of_length_le (by have := HN.out; omega)] at this
      exact this
    clear hq
    go_wp2_with fail
    go_ret
    exact ⟨by have e9 := hqe.out; first | exact e9 | (rw [e9]; done) | simp [e9], by first | rfl | trivial⟩
end Go.Proofs.Ytkamdaadgndmbaa
