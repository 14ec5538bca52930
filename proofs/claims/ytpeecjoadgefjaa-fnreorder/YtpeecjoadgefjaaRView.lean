import Derived.Test.YtpeecjoadgefjaaRTop
import Derived.Test.YtpeecjoadgefjaaSpanBase
namespace Go.Proofs.Ytpeecjoadgefjaa
open Go.ChangeShapes Go.WideShapes Go.ChangeAt Go.RowKit
set_option linter.unusedVariables false

/-! ### The spans that are held -/
def lastP (S : Sp) : Int × Int := S.getD (S.length - 1) (0, 0)
def addLast (S : Sp) (x : Int) : Sp := if 0 < S.length ∧ (lastP S).2 = x then S.set (S.length - 1) ((lastP S).1, x + 1) else S ++ [(x, x + 1)]
def heldRun (f : Int → Option Int) : Nat → Int → Sp → Sp
  | 0, _, S => S
  | k + 1, x, S => heldRun f k (x + 1) (if (f x).isSome then addLast S x else S)
def heldR (z : Nat) (s : RB) : Sp := heldRun s.f z s.read []
theorem addLast_length (S : Sp) (x : Int) : (addLast S x).length ≤ S.length + 1 := by unfold addLast; split <;> simp
theorem addLast_fits {S : Sp} {x : Int} (h : Fits S) (x0 : 0 ≤ x) (x1 : x + 1 ≤ 18446744073709551615) : Fits (addLast S x) := by
  unfold addLast
  split
  · rename_i hc
    intro p hp
    rcases List.mem_or_eq_of_mem_set hp with hp | hp
    · exact h p hp
    · subst hp
      have hm : lastP S ∈ S := by unfold lastP; rw [List.getD_eq_getElem?_getD, List.getElem?_eq_getElem (show S.length - 1 < S.length by omega)]; exact List.getElem_mem _
      have := h _ hm
      exact ⟨this.1, this.2.1, by simp only; omega, x1⟩
  · intro p hp
    rcases List.mem_append.1 hp with hp | hp
    · exact h p hp
    · simp at hp; subst hp
      exact ⟨x0, by simp only; omega, by simp only; omega, x1⟩
theorem heldRun_length (f : Int → Option Int) : ∀ k x S, (heldRun f k x S).length ≤ S.length + k := by
  intro k
  induction k with
  | zero => intro x S; simp [heldRun]
  | succ k ih =>
    intro x S
    rw [heldRun]
    split
    · have := ih (x + 1) (addLast S x); have := addLast_length S x; omega
    · have := ih (x + 1) S; omega
theorem heldRun_fits (f : Int → Option Int) : ∀ (k : Nat) (x : Int) (S : Sp), Fits S → 0 ≤ x → x + k ≤ 18446744073709551615 → Fits (heldRun f k x S) := by
  intro k
  induction k with
  | zero => intro x S h _ _; exact h
  | succ k ih =>
    intro x S h x0 x1
    rw [heldRun]
    split
    · exact ih (x + 1) _ (addLast_fits h x0 (by omega)) (by omega) (by omega)
    · exact ih (x + 1) S h (by omega) (by omega)

/-- One append of one span that lies in block b, in a walk. -/
theorem wpList_appSp (w : World) {ops : Array Oper} {rest : List Oper} {o : Oper} {a : Act} {Q : Exit → Act → World → Prop} (hgd : o.guard = none) (s x : Operand)
    (ho : o.op = .call { callee := .builtin .append, args := #[s, x], argTypes := #[27, 27] })
    (base : Nat) (av : Option Addr) (n cap : Nat) (S : Sp) (hs : a.eval s = .slice av n cap) (hown : w.ownsRow base 31 2 (.slice av n cap) n (flat S))
    (b : Nat) (c d : Int) (hx : a.eval x = .slice (some ⟨b, 0, none⟩) 1 1) (hb : w.heap[b]? = some (.cells #[.int .u64 c, .int .u64 d] 31)) (hl : n ≤ 1048576) (hbase : base ≤ w.heap.size)
    (h : ∀ g cap' w', w'.ownsRow base 31 2 (.slice (some ⟨g, 0, none⟩) (n + 1) cap') (n + 1) (flat (S ++ [(c, d)])) → w.grownBy w' (Value.slice av n cap).ownBlock →
      wpList Try.prog ops Q rest (a.put o.dst (.slice (some ⟨g, 0, none⟩) (n + 1) cap')) w') : wpList Try.prog ops Q (o :: rest) a w := by
  obtain ⟨i0, hi, hz0, hz1, hz2⟩ := info_parts info_span
  have f0 : w.cell? ⟨b, 0, none⟩ = some (.int .u64 c) := Go.Joins.cell_of_block hb 0
  have f1 : w.cell? ⟨b, 1, none⟩ = some (.int .u64 d) := Go.Joins.cell_of_block hb 1
  refine wpList_append_own w hgd s x 27 ho base 31 i0 (.agg #[.int .u64 0, .int .u64 0]) 2 16 Try.underlying27 hi hz0 hz1 hz2 rfl (by decide) (.slice av n cap) n (flat S) hs hown ⟨b, 0, none⟩ 1 1 [.int .u64 c, .int .u64 d] hx rfl ?_ (by intro u hu; simp at hu; rcases hu with rfl | rfl <;> rfl) ?_ ?_ hbase ?_
  · intro j u hj
    match j, hj with
    | 0, hj => simp at hj; subst hj; rw [← f0]; congr 1
    | 1, hj => simp at hj; subst hj; rw [← f1]; congr 1
  · unfold maxLen; omega
  · omega
  · intro v' w' h2 h3 h4
    rcases h2.2 with ⟨rfl, h0⟩ | ⟨g, cap', cur, rfl, rest⟩
    · omega
    · exact h g cap' w' (by rw [flat_append, flat_one]; exact h2) h3
theorem BufAt.below {w w' : World} {B base z g cap : Nat} {s : RB} {L : SlotL} (h : BufAt w B base z s g cap L) (hb : Below w.heap.size w w') : BufAt w' B base z s g cap L :=
  h.kept (hb.block B (Array.getElem?_eq_some_iff.1 h.blk).1) (hb.block g (h.row.lt g rfl).2)

set_option maxHeartbeats 1000000 in
set_option maxRecDepth 100000 in
theorem held_any (w : World) (B base z g cap : Nat) (s : RB) (L : SlotL) (h : BufAt w B base z s g cap L) :
    Calls Try.prog 78 #[.pointer (some ⟨B, 0, none⟩)] w fun e w' => ∃ av cp, e = .returned (.slice av (heldR z s).length cp) ∧ w'.ownsRow w.heap.size 31 2 (.slice av (heldR z s).length cp) (heldR z s).length (flat (heldR z s)) ∧ Below w.heap.size w w' := by
  obtain ⟨⟨c0, c1, c2, c3⟩, cf⟩ := h.cells
  obtain ⟨r, hr⟩ : ∃ r, Hid (r = s.read) := ⟨_, rfl⟩
  have h1 := h.r0
  have h2 := h.r1
  have h3 := h.z1
  have h4 := h.z2
  rw [← hr.out] at c1 h1 h2
  have HR : Hid (heldR z s = heldRun s.f z r []) := by unfold Hid; rw [hr.out]; rfl
  have HB : Hid (BufAt w B base z s g cap L) := h
  clear h cf c0 c2 c3
  go_enter Try.func78, Try.ntmps78
  go_wp2_with fail
  go_loopw [3, 4] (fun sv v wr => ∃ (k : Nat) (S : Sp) (av : Option Addr) (cp : Nat), v = .int .u64 (r + (k : Int)) ∧ k ≤ z ∧ sv = .slice av S.length cp ∧ S.length ≤ k ∧ Fits S ∧ Hid (heldRun s.f z r [] = heldRun s.f (z - k) (r + k) S) ∧ wr.ownsRow w.heap.size 31 2 (.slice av S.length cp) S.length (flat S) ∧ Below w.heap.size w wr) (fun _ v _ => z - ((intOf v) - r).toNat)
  case atStart => exact ⟨0, [], none, 0, by simp, Nat.zero_le _, rfl, Nat.le_refl _, by intro p hp; simp at hp, by unfold Hid; simp, ⟨rfl, .inl ⟨rfl, rfl⟩⟩, Below.refl _ _⟩
  case round =>
  obtain ⟨k, S, av, cp, rfl, hk, rfl, hSl, hSf, HS, hrow, hbl⟩ := hrel
  have hbr := HB.out.below hbl
  have ht := top_any wr B base z g cap s L hbr
  rw [← hr.out] at ht
  have hsz := hbl.size
  go_wp2_with fail
  refine ht.mono ?_
  rintro e w1 ⟨rfl, m1, rfl⟩
  by_cases hlt : k < z
  case neg =>
    obtain rfl : k = z := by omega
    have hd : decide (r + (k : Int) < r + (k : Int)) = false := by simp
    have HE : Hid (heldR k s = S) := by unfold Hid; rw [HR.out, HS.out, Nat.sub_self]; rfl
    go_wp2_with fail
    go_ret
    rw [HE.out]
    exact ⟨av, cp, rfl, hrow, drewsN hbl m1⟩
  case pos =>
  obtain ⟨W, hW, hWb, hWr, hWl, hWs⟩ : ∃ W, W = wr.drewN m1 ∧ BufAt W B base z s g cap L ∧ W.ownsRow w.heap.size 31 2 (.slice av S.length cp) S.length (flat S) ∧ Below w.heap.size w W ∧ w.heap.size ≤ W.heap.size := ⟨_, rfl, hbr.drewN m1, hrow, drewsN hbl m1, hsz⟩
  obtain ⟨x, hx⟩ : ∃ x, Hid (x = r + (k : Int)) := ⟨_, rfl⟩
  have hd : decide (x < r + (z : Int)) = true := by rw [decide_eq_true_iff, hx.out]; omega
  have hx0 : 0 ≤ x := by have := hx.out; omega
  have hx1 : x + 1 ≤ 9000000000000010000 := by have := hx.out; omega
  have hs := slotOf_any W B base z g cap s L hWb x hx0 (by omega)
  obtain ⟨y0, y1⟩ := hWb.slot (x := x) (by rw [← hr.out, hx.out]; omega) (by rw [← hr.out, hx.out]; omega)
  rw [slotV_held] at y0
  obtain ⟨J, hJ⟩ : ∃ J, J = (x % (z : Int)).toNat * 2 := ⟨_, rfl⟩
  rw [← hJ] at hs y0
  obtain ⟨b, hb⟩ : ∃ b, Hid ((s.f x).isSome = b) := ⟨_, rfl⟩
  rw [hb.out] at y0
  have hwx : IntKind.u64.wrap (x + 1) = x + 1 := by rw [IntKind.wrap_u64]; omega
  obtain ⟨R, hR⟩ : ∃ R, Hid (z - k = R + 1) := ⟨z - k - 1, by unfold Hid; omega⟩
  have HS2 : Hid (heldRun s.f z r [] = heldRun s.f (z - (k + 1)) (x + 1) (if b = true then addLast S x else S)) := by
    unfold Hid
    rw [HS.out, hR.out, heldRun, ← hx.out, hb.out, show z - (k + 1) = R by have := hR.out; omega]
  have hxk : Hid (x + 1 = r + ((k + 1 : Nat) : Int)) := by unfold Hid; rw [hx.out]; omega
  rw [← hx.out, ← hW]
  clear hW hJ y1 hbr hbl hrow ht HS
  go_wp2_with fail
  refine hs.mono ?_
  rintro e w2 ⟨rfl, m2, rfl⟩
  cases b
  case false =>
    go_wp2_with fail
    go_roundw
    case rel => exact ⟨k + 1, S, av, cp, by rw [hxk.out], by omega, rfl, by omega, hSf, by rw [← hxk.out]; exact HS2.out, hWr, drewsN hWl m2⟩
    case measure => simp [intOf]; have := hx.out; omega
  case true =>
  obtain ⟨n, hn⟩ : ∃ n, Hid (S.length = n) := ⟨_, rfl⟩
  rw [hn.out] at hWr hSl ⊢
  have hns : (n : Int) ≤ 4096 := by omega
  by_cases hA : 0 < n ∧ (lastP S).2 = x
  case pos =>
    obtain ⟨q, hq⟩ : ∃ q, n = q + 1 := ⟨n - 1, by omega⟩
    subst hq
    obtain ⟨gg, hav, hgg⟩ : ∃ gg, av = some ⟨gg, 0, none⟩ ∧ w.heap.size ≤ gg := by
      rcases hWr.2 with ⟨e, h0⟩ | ⟨g', c', cur, e, hb', _⟩
      · omega
      · simp only [Value.slice.injEq] at e
        exact ⟨g', e.1, hb'⟩
    subst hav
    have hql : q < S.length := by rw [hn.out]; omega
    have hlp : lastP S = S[q] := by unfold lastP; rw [hn.out, Nat.add_sub_cancel, List.getD_eq_getElem?_getD, List.getElem?_eq_getElem hql]; rfl
    obtain ⟨lo, hlo⟩ : ∃ lo, lastP S = (lo, x) := ⟨(lastP S).1, by rw [← hA.2]⟩
    have hSq : S[q] = (lo, x) := by rw [← hlp, hlo]
    have hq1 : W.cell? ⟨gg, q * 2 + 1, none⟩ = some (.int .u64 x) := by rw [hWr.cellAt _ (by omega), (flat_at hql).2, hSq]
    have hq0 : W.cell? ⟨gg, q * 2, none⟩ = some (.int .u64 lo) := by rw [hWr.cellAt _ (by omega), (flat_at hql).1, hSq]
    have hqf := hWr.frozenAt (q * 2 + 1)
    have HS3 : Hid (addLast S x = S.set q (lo, x + 1)) := by unfold Hid addLast; rw [if_pos ⟨by rw [hn.out]; exact hA.1, hA.2⟩, hn.out, Nat.add_sub_cancel, hlo]
    have hst : ∀ m, ((W.drewN m).setCell ⟨gg, q * 2 + 1, none⟩ (.int .u64 (x + 1))).ownsRow w.heap.size 31 2 (.slice (some ⟨gg, 0, none⟩) (q + 1) cp) (q + 1) (flat (S.set q (lo, x + 1))) := by
      intro m
      have h2 := ((owned_drewN hWr m).stored (q * 2 + 1) (.int .u64 (x + 1))).1
      have e : (flat S).set (q * 2 + 1) (.int .u64 (x + 1)) = flat (S.set q (lo, x + 1)) := by
        rw [← flat_set S q (lo, x + 1) hql]
        congr 1
        refine (List.ext_getElem? fun i => ?_)
        by_cases hi : i = q * 2
        · subst hi
          rw [(flat_at hql).1, hSq, List.getElem?_set_self (by rw [flat_length]; omega)]
        · rw [List.getElem?_set_ne (by omega)]
      rw [e] at h2
      exact h2
    have hbl3 : ∀ m, Below w.heap.size w ((W.drewN m).setCell ⟨gg, q * 2 + 1, none⟩ (.int .u64 (x + 1))) := fun m => (drewsN hWl m).setCell (p := ⟨gg, q * 2 + 1, none⟩) hgg _
    have hfit := addLast_fits (x := x) hSf hx0 (by omega)
    have HA : Hid _ := hA
    clear hA hWr hWl hSq hlp hlo hs hql
    go_wp2_with fail
    go_roundw
    case rel =>
      refine ⟨k + 1, S.set q (lo, x + 1), some ⟨gg, 0, none⟩, cp, by rw [hxk.out], by omega, by rw [List.length_set, hn.out], by rw [List.length_set, hn.out]; omega, by rw [← HS3.out]; exact hfit, ?_, ?_, hbl3 _⟩
      · rw [← hxk.out, ← HS3.out]; exact HS2.out
      · rw [List.length_set, hn.out]; exact hst _
    case measure => simp [intOf]; have := hx.out; omega
  case neg =>
  have HS3 : Hid (addLast S x = S ++ [(x, x + 1)]) := by unfold Hid addLast; rw [if_neg (by rw [hn.out]; exact hA)]
  have HA : Hid _ := hA
  have hfit := addLast_fits (x := x) hSf hx0 (by omega)
  clear hA hs
  obtain ⟨V, hV, v1, v2, v3⟩ : ∃ V, V = W.drewN m2 ∧ V.ownsRow w.heap.size 31 2 (.slice av n cp) n (flat S) ∧ Below w.heap.size w V ∧ w.heap.size ≤ V.heap.size := ⟨_, rfl, hWr, drewsN hWl m2, hWs⟩
  go_upto_region 7 with fail
  rw [← hV]
  clear hV y0 hWr hWl hWs
  go_cut [36] from 26 to 35 (fun v wx => v = .bool false ∧ V = wx)
  case first =>
    by_cases hn0 : n = 0
    · subst hn0
      go_wp2_with fail
      go_meet
      case rel => exact ⟨rfl, rfl⟩
    · obtain ⟨q, hq⟩ : ∃ q, n = q + 1 := ⟨n - 1, by omega⟩
      subst hq
      obtain ⟨gg, hav, hgg⟩ : ∃ gg, av = some ⟨gg, 0, none⟩ ∧ w.heap.size ≤ gg := by
        rcases v1.2 with ⟨e, h0⟩ | ⟨g', c', cur, e, hb', _⟩
        · omega
        · simp only [Value.slice.injEq] at e
          exact ⟨g', e.1, hb'⟩
      subst hav
      have hql : q < S.length := by rw [hn.out]; omega
      have hlp : lastP S = S[q] := by unfold lastP; rw [hn.out, Nat.add_sub_cancel, List.getD_eq_getElem?_getD, List.getElem?_eq_getElem hql]; rfl
      obtain ⟨hi9, hh9⟩ : ∃ y, Hid ((lastP S).2 = y) := ⟨_, rfl⟩
      have hq1 : V.cell? ⟨gg, q * 2 + 1, none⟩ = some (.int .u64 hi9) := by rw [v1.cellAt _ (by omega), (flat_at hql).2, ← hlp, hh9.out]
      have d9 : (hi9 == x) = false := by
        have := fun h => HA.out ⟨by omega, h⟩
        rw [hh9.out] at this
        simpa using this
      clear hlp hql
      go_wp2_with fail
      go_meet
      case rel => exact ⟨rfl, rfl⟩
  case rest =>
  obtain ⟨rfl, hwe⟩ := hcut
  subst hwe
  have hnb := box_new V (.cells #[.int .u64 x, .int .u64 (x + 1)] 31) _ rfl
  go_wp2_with (at_builtin; refine wpList_appSp _ (by rfl) _ _ (by rfl) w.heap.size av n cp S (by rfl) (own_alloc v1 _) V.heap.size x (x + 1) (by rfl) hnb (by omega) (by simp; omega) ?_; intro g9 cap' w4 ho4 hg4)
  have hb4 : Below w.heap.size w w4 := (v2.alloc v3 (.cells #[.int .u64 x, .int .u64 (x + 1)] 31)).grown hg4 (by simp; omega) (fun j hj => (v1.lt j hj).1)
  go_roundw
  case rel =>
    refine ⟨k + 1, S ++ [(x, x + 1)], some ⟨g9, 0, none⟩, cap', by rw [hxk.out], by omega, by rw [List.length_append, hn.out]; rfl, by rw [List.length_append, hn.out]; simp; omega, by rw [← HS3.out]; exact hfit, ?_, ?_, hb4⟩
    · rw [← hxk.out, ← HS3.out]; exact HS2.out
    · rw [List.length_append, hn.out]; exact ho4
  case measure => simp [intOf]; have := hx.out; omega
end Go.Proofs.Ytpeecjoadgefjaa
