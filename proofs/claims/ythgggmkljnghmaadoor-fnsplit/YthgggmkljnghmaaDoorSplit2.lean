import Derived.Test.YthgggmkljnghmaaDoorSplit1
namespace Go.Proofs.YthgggmkljnghmaaDoor
open Go.ChangeShapes Go.WideShapes Go.ChangeAt Go.RowKit
set_option linter.unusedVariables false

theorem info_frame : (Tryd.prog.info? 30).map (fun i => (i.zero, i.size, i.bytes)) = some (some (.agg #[.int .i64 0, .int .i64 0, .int .u32 0, .int .u64 0, .int .i64 0, .slice none 0 0]), 6, 64) := by kernel_rfl

/-- One append of one struct of six cells that lies in block b, in a walk. -/
theorem wpList_app6 (w : World) {ops : Array Oper} {rest : List Oper} {o : Oper} {a : Act} {Q : Exit → Act → World → Prop} (hgd : o.guard = none) (s x : Operand)
    (ho : o.op = .call { callee := .builtin .append, args := #[s, x], argTypes := #[41, 41] })
    (base : Nat) (av : Option Addr) (n cap : Nat) (xs : List Value) (hs : a.eval s = .slice av n cap) (hown : w.ownsRow base 30 6 (.slice av n cap) n xs)
    (b : Nat) (u0 u1 u2 u3 u4 u5 : Value) (hx : a.eval x = .slice (some ⟨b, 0, none⟩) 1 1) (hb : w.heap[b]? = some (.cells #[u0, u1, u2, u3, u4, u5] 30)) (h1 : ∀ u ∈ [u0, u1, u2, u3, u4, u5], u.oneCell' = true) (hl : n ≤ 1048576) (hbase : base ≤ w.heap.size)
    (h : ∀ g cap' w', w'.ownsRow base 30 6 (.slice (some ⟨g, 0, none⟩) (n + 1) cap') (n + 1) (xs ++ [u0, u1, u2, u3, u4, u5]) → w.grownBy w' (Value.slice av n cap).ownBlock →
      wpList Tryd.prog ops Q rest (a.put o.dst (.slice (some ⟨g, 0, none⟩) (n + 1) cap')) w') : wpList Tryd.prog ops Q (o :: rest) a w := by
  obtain ⟨i0, hi, hz0, hz1, hz2⟩ := info_parts info_frame
  obtain ⟨⟨f0, f1, f2, f3, f4, f5⟩, _⟩ := six_at hb
  refine wpList_append_own w hgd s x 41 ho base 30 i0 (.agg #[.int .i64 0, .int .i64 0, .int .u32 0, .int .u64 0, .int .i64 0, .slice none 0 0]) 6 64 Tryd.underlying41 hi hz0 hz1 hz2 rfl (by decide) (.slice av n cap) n xs hs hown ⟨b, 0, none⟩ 1 1 [u0, u1, u2, u3, u4, u5] hx rfl ?_ h1 ?_ ?_ hbase ?_
  · intro j u hj
    match j, hj with
    | 0, hj => simp at hj; subst hj; rw [← f0]; congr 1
    | 1, hj => simp at hj; subst hj; rw [← f1]; congr 1
    | 2, hj => simp at hj; subst hj; rw [← f2]; congr 1
    | 3, hj => simp at hj; subst hj; rw [← f3]; congr 1
    | 4, hj => simp at hj; subst hj; rw [← f4]; congr 1
    | 5, hj => simp at hj; subst hj; rw [← f5]; congr 1
  · unfold maxLen; omega
  · omega
  · intro v' w' h2 h3 h4
    rcases h2.2 with ⟨rfl, h0⟩ | ⟨g, cap', cur, rfl, rest⟩
    · omega
    · exact h g cap' w' h2 h3

/-! The chunks of a list of bytes. -/
theorem chunk_at (cs : List (List Int)) (tail : List Int) (k : Nat) (hk : k < cs.length) : (cs.flatten ++ tail).drop (cs.take k).flatten.length = cs[k] ++ ((cs.drop (k + 1)).flatten ++ tail) := by
  have e : cs = cs.take k ++ (cs[k] :: cs.drop (k + 1)) := by rw [← List.drop_eq_getElem_cons hk, List.take_append_drop]
  have e2 : cs.flatten = (cs.take k).flatten ++ (cs[k] ++ (cs.drop (k + 1)).flatten) := by
    conv => lhs; rw [e]
    rw [List.flatten_append, List.flatten_cons]
  rw [e2, List.append_assoc, List.drop_left, List.append_assoc]
theorem chunk_len (cs : List (List Int)) (k : Nat) (hk : k < cs.length) : (cs.take (k + 1)).flatten.length = (cs.take k).flatten.length + cs[k].length := by
  rw [List.take_succ_eq_append_getElem hk, List.flatten_append]
  simp
theorem chunk_le (cs : List (List Int)) (k : Nat) : (cs.take k).flatten.length ≤ cs.flatten.length := by
  have e : cs.flatten = (cs.take k).flatten ++ (cs.drop k).flatten := by rw [← List.flatten_append, List.take_append_drop]
  rw [e]
  simp
theorem szOf_left (c r : List Int) (h : 4 ≤ c.length) : szOf (c ++ r) = szOf c := by
  unfold szOf fld
  rw [List.drop_append_of_le_length (by omega), List.take_append_of_le_length (by simp; omega)]

set_option maxHeartbeats 1600000 in
set_option maxRecDepth 100000 in
theorem split_any (a : Option Addr) (cs : List (List Int)) (tail : List Int) (L cap : Nat) (w : World) (hz : Ints .u8 w a (cs.flatten ++ tail)) (hL : (cs.flatten ++ tail).length = L) (hzv : ∀ x ∈ cs.flatten ++ tail, 0 ≤ x ∧ x ≤ 255) (hgood : ∀ c ∈ cs, Good c) (hcl : cs.length ≤ 999) (htl : tail.length < 22) (hcap : L ≤ cap) (hl : L ≤ 1048576) (hg : Laid w) :
    Calls Tryd.prog 22 #[.slice a L cap] w fun e w' => ∃ av cp vs, e = .returned (.tuple #[.slice av cs.length cp, .int .i64 cs.flatten.length, .int .i64 (if tail = [] then 0 else 2)]) ∧
      w'.ownsRow w.heap.size 30 6 (.slice av cs.length cp) cs.length vs.flatten ∧ Items w' cs vs ∧ Below w.heap.size w w' := by
  have hLt : cs.flatten.length + tail.length = L := by rw [← hL]; simp
  obtain ⟨T, hT⟩ : ∃ T : Nat → Nat, ∀ k, (cs.take k).flatten.length = T k := ⟨_, fun _ => rfl⟩
  have hTle : ∀ k, T k ≤ cs.flatten.length := fun k => by rw [← hT]; exact chunk_le cs k
  obtain ⟨N, hN⟩ : ∃ N, cs.flatten.length = N := ⟨_, rfl⟩
  have hTend : T cs.length = N := by rw [← hT, List.take_length, hN]
  have HTend : Hid _ := hTend
  have hT0 : T 0 = 0 := by rw [← hT]; rfl
  have HLt : Hid _ := hLt
  have HL : Hid _ := hL
  have HN : Hid _ := hN
  obtain ⟨D, hD⟩ : ∃ D : Int, (if tail = [] then (0 : Int) else 2) = D := ⟨_, rfl⟩
  rw [hN, hD]
  clear hTend hLt hL
  go_enter Tryd.func22, Tryd.ntmps22
  go_wp2
  go_loopw [5, 6] (fun v t wr => ∃ (k : Nat) (av : Option Addr) (cp : Nat) (vs : List (List Value)), k ≤ cs.length ∧ v = .slice av k cp ∧ t = .int .i64 (T k) ∧ wr.ownsRow w.heap.size 30 6 (.slice av k cp) k vs.flatten ∧ Items wr (cs.take k) vs ∧ Below w.heap.size w wr)
    (fun v _ _ => cs.length - (match v with | .slice _ n _ => n | _ => 0))
  case atStart => exact ⟨0, none, 0, [], Nat.zero_le _, rfl, by rw [hT0]; rfl, World.ownsRow_nil _ _ _ _, trivial, Below.refl _ _⟩
  case round =>
    obtain ⟨k, av0, cp0, vs, hk, rfl, rfl, hown, hit, hb⟩ := hrel
    have hTk := hTle k
    by_cases hlt : k < cs.length
    · have hgc := hgood cs[k] (List.getElem_mem hlt)
      have hdrop := chunk_at cs tail k hlt
      have hlen := chunk_len cs k hlt
      rw [hT] at hdrop hlen
      rw [hT] at hlen
      obtain ⟨c, hc⟩ : ∃ c, cs[k] = c := ⟨_, rfl⟩
      obtain ⟨r, hr⟩ : ∃ r, (cs.drop (k + 1)).flatten ++ tail = r := ⟨_, rfl⟩
      rw [hc] at hgc hdrop hlen
      rw [hr] at hdrop
      have hclen := hgc.1
      have hstep : Hid (cs.take (k + 1) = cs.take k ++ [c]) := by unfold Hid; rw [List.take_succ_eq_append_getElem hlt, hc]
      have hdl : (c ++ r).length = L - T k := by rw [← hdrop, List.length_drop, HL.out]
      simp at hdl
      have hTL : T k < L := by omega
      have hcapT : ¬ cap = T k := by omega
      have hzr : Ints .u8 wr (if cap = T k then a else a.map (·.add (T k))) (c ++ r) := by
        have := (hz.moved hb).drop (T k) cap (by rw [HL.out]; exact hcap)
        rwa [hdrop] at this
      rw [if_neg hcapT] at hzr
      have hrv : ∀ x ∈ c ++ r, 0 ≤ x ∧ x ≤ 255 := by
        intro x hx
        rw [← hdrop] at hx
        exact hzv x (List.mem_of_mem_drop hx)
      have hno2 : Option.map (fun x => x.add (T k)) a = none → cap - T k = 0 := by
        intro h0
        rcases hzr with h1 | ⟨bb, off, h1, _⟩
        · simp at h1
          rw [h1.1] at hclen
          simp at hclen
          omega
        · rw [h0] at h1
          cases h1
      have hsz := szOf_left c r (by omega)
      have hMlen : (c ++ r).length = L - T k := by simp; omega
      have h1 := holdsWhole_yes (Option.map (fun x => x.add (T k)) a) (c ++ r) (L - T k) (cap - T k) wr hzr hMlen hrv (by omega)
      have h2 := frameSize_any (Option.map (fun x => x.add (T k)) a) (c ++ r) (L - T k) (cap - T k) wr hzr hMlen hrv (by omega)
      rw [hsz] at h2
      have hzc : Ints .u8 wr (Option.map (fun x => x.add (T k)) a) c := by have := hzr.take c.length; rwa [List.take_left] at this
      have h3 := implDecode (Option.map (fun x => x.add (T k)) a) c c.length (cap - T k) wr (hg.moved hb) hzc rfl (fun x hx => hrv x (by simp [hx])) hno2 (by omega) (by omega)
      rw [hclen] at h3
      have hsb : szOf c ≤ 255 := by have := fld_lt (fun x hx => hrv x (by simp [hx])) 3 1 256 rfl (zs := c); unfold szOf; omega
      obtain ⟨z, hzE⟩ : ∃ z, Hid (szOf c = z) := ⟨_, rfl⟩
      rw [hzE.out] at h2 h3 hclen hsb
      have hcz2 : 22 + z ≤ L - T k := by simp at hMlen; omega
      have HC : Hid _ := hclen
      have HLEN : Hid _ := hlen
      clear hdrop hdl hMlen hr hc hzr hzc hrv hsz hclen hlen hno2
      have hi1 : (T k : Int) < (L : Int) := by omega
      have hi2 : (22 : Int) + (z : Int) ≤ ((cap - T k : Nat) : Int) := by have := HC.out; omega
      have hi3 : ((22 : Int) + (z : Int)).toNat = 22 + z := by omega
      have hk2 : ¬ k = 1000 := by omega
      have hk3 : ((k : Int) == 1000) = false := by simp; omega
      have hcT : ¬ cap - T k = 0 := by omega
      go_wp2_with fail
      refine h1.mono ?_
      rintro e w1 ⟨rfl, hw1⟩
      have hw1' := hw1.symm
      subst hw1'
      clear h1 hw1
      go_wp2_with fail
      refine h2.mono ?_
      rintro e w1 ⟨rfl, hw1⟩
      have hw1' := hw1.symm
      subst hw1'
      clear h2 hw1
      go_wp2_with fail
      refine h3.mono ?_
      rintro e w1 ⟨hb1, ⟨d, hd, _⟩ | ⟨_, av, cp, ho1, rfl⟩⟩
      · exact (bad_good hd hgc).elim
      unfold frameAt
      rw [hzE.out] at ho1
      rw [hzE.out]
      have hown1 := owned_kept hown hb1
      have hit1 := hit.moved hb1
      have hbw1 := hb.trans (hb1.mono hb.size)
      clear h3 hown hit hb
      have hs1 := hbw1.size
      have hblk : ((w1.alloc (.cells #[.int .i64 (fld c 1 1), .int .i64 (fld c 2 1), .int .u32 (fld c 4 4), .int .u64 (fld c 8 8), .int .i64 (fld c 16 2), .slice av z cp] 30)).alloc (.cells #[.int .i64 (fld c 1 1), .int .i64 (fld c 2 1), .int .u32 (fld c 4 4), .int .u64 (fld c 8 8), .int .i64 (fld c 16 2), .slice av z cp] 30)).heap[w1.heap.size + 1]? = some (.cells #[.int .i64 (fld c 1 1), .int .i64 (fld c 2 1), .int .u32 (fld c 4 4), .int .u64 (fld c 8 8), .int .i64 (fld c 16 2), .slice av z cp] 30) := alloc_block _ _ _ (by simp)
      have hbA : Below w1.heap.size w1 ((w1.alloc (.cells #[.int .i64 (fld c 1 1), .int .i64 (fld c 2 1), .int .u32 (fld c 4 4), .int .u64 (fld c 8 8), .int .i64 (fld c 16 2), .slice av z cp] 30)).alloc (.cells #[.int .i64 (fld c 1 1), .int .i64 (fld c 2 1), .int .u32 (fld c 4 4), .int .u64 (fld c 8 8), .int .i64 (fld c 16 2), .slice av z cp] 30)) := ((Below.refl _ _).alloc (Nat.le_refl _) _).alloc (by simp) _
      go_wp2_with (at_builtin; refine wpList_app6 _ (by rfl) _ _ (by rfl) w.heap.size av0 k cp0 vs.flatten (by rfl) (owned_kept hown1 hbA) (w1.heap.size + 1) _ _ _ _ _ _ (by rfl) hblk (by simp [Value.oneCell']) (by omega) (by simp; omega) ?_; intro g cap' w4 ho4 hg4)
      have hitA := hit1.moved hbA
      have hit4 := hitA.grown (owned_kept hown1 hbA) (by decide) hg4
      have hrow4 := (owned_kept ho1 hbA).kept hg4 (apart_types (owned_kept ho1 hbA) (owned_kept hown1 hbA) (by decide))
      have hitem : Item w4 c [.int .i64 (fld c 1 1), .int .i64 (fld c 2 1), .int .u32 (fld c 4 4), .int .u64 (fld c 8 8), .int .i64 (fld c 16 2), .slice av z cp] := ⟨av, cp, by rw [hzE.out], by rw [hzE.out]; exact owned_base hrow4 (Nat.zero_le _)⟩
      have hb4 := below_grown (hbw1.trans (hbA.mono hs1)) (owned_kept hown1 hbA) hg4 (Nat.le_refl _) (by simp; omega)
      have hT1 : T (k + 1) = T k + (22 + z) := by have := HLEN.out; have := HC.out; omega
      go_roundw
      case rel => exact ⟨k + 1, _, _, vs ++ [[.int .i64 (fld c 1 1), .int .i64 (fld c 2 1), .int .u32 (fld c 4 4), .int .u64 (fld c 8 8), .int .i64 (fld c 16 2), .slice av z cp]], by omega, rfl, by rw [hT1]; go_num, by rw [List.flatten_append]; simpa using ho4, by rw [hstep.out]; exact hit4.snoc hitem, hb4⟩
      case measure => simp; omega
    · obtain rfl : k = cs.length := by omega
      have hend := HTend.out
      rw [hend] at hTk ⊢
      rw [List.take_length] at hit
      have hNL : N + tail.length = L := by have := HLt.out; have := HN.out; omega
      by_cases ht : tail = []
      · rw [if_pos ht] at hD
        subst hD
        have hNL2 : ¬ N < L := by rw [ht] at hNL; simp at hNL; omega
        clear hNL
        go_wp2
        refine bodyPost_ret (v := .tuple #[.slice av0 cs.length cp0, .int .i64 N, .int .i64 0]) (by simp [results, Tryd.results22, go_sem]) rfl ?_
        exact ⟨av0, cp0, vs, rfl, hown, hit, hb⟩
      · rw [if_neg ht] at hD
        subst hD
        have htp : 0 < tail.length := by cases tail with | nil => exact absurd rfl ht | cons => simp
        have hNL2 : N < L := by omega
        have hNL3 : L - N < 22 := by omega
        have hcN : ¬ cap = N := by omega
        have hwh := holdsWhole_no (Option.map (fun x => x.add N) a) (L - N) (cap - N) wr hNL3
        clear hNL
        go_wp2_with fail
        refine hwh.mono ?_
        rintro e w1 ⟨rfl, hw1⟩
        have hw1' := hw1.symm
        subst hw1'
        go_wp2
        refine bodyPost_ret (v := .tuple #[.slice av0 cs.length cp0, .int .i64 N, .int .i64 2]) (by simp [results, Tryd.results22, go_sem]) rfl ?_
        exact ⟨av0, cp0, vs, rfl, hown, hit, hb⟩
end Go.Proofs.YthgggmkljnghmaaDoor
