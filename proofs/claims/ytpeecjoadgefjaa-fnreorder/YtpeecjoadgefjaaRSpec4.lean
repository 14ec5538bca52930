import Derived.Test.YtpeecjoadgefjaaRSpec2
import Derived.Deep.RegionLaw
import Derived.Deep.AppendLies
namespace Go.Proofs.Ytpeecjoadgefjaa
open Go.ChangeShapes Go.WideShapes Go.ChangeAt Go.RowKit
set_option linter.unusedVariables false

theorem own_drew {w : World} {base : Nat} {e : TypeId} {size : Nat} {v : Value} {n : Nat} {xs : List Value} (h : w.ownsRow base e size v n xs) : w.drew.ownsRow base e size v n xs := h
/-- One append of one byte that lies at ad, in a region that draws. -/
theorem step_app8 (w : World) {ops : Array Oper} {o : Oper} {a : Act} {K : Act → World → Prop} {Q : Exit → Act → World → Prop} {E : Prop} (hgd : o.guard = none) (s x : Operand)
    (ho : o.op = .call { callee := .builtin .append, args := #[s, x], argTypes := #[36, 36] })
    (base : Nat) (av : Option Addr) (n cap : Nat) (zs : List Int) (c : Int) (hs : a.eval s = .slice av n cap) (hown : w.ownsRow base 5 1 (.slice av n cap) n (zs.map (.int .u8)))
    (ad : Addr) (hx : a.eval x = .slice (some ad) 1 1) (hnew : w.cell? ad = some (.int .u8 c)) (hl : n ≤ 1048576) (hbase : base ≤ w.heap.size)
    (h : ∀ g cap' w', w'.ownsRow base 5 1 (.slice (some ⟨g, 0, none⟩) (n + 1) cap') (n + 1) ((zs ++ [c]).map (.int .u8)) → w.grownBy w' (Value.slice av n cap).ownBlock → K (a.put o.dst (.slice (some ⟨g, 0, none⟩) (n + 1) cap')) w') :
    if Region.wanted o (yielded ops a.tmps) = true then Oper.wp Try.prog o a w K Q else E := by
  obtain ⟨i0, hi, hz0, hz1, hz2⟩ := info_parts info_u8
  refine step_append_lies w hgd s x 36 ho base 5 i0 (.int .u8 0) 1 1 Try.underlying36 hi hz0 hz1 hz2 rfl (by decide) (.slice av n cap) n (zs.map (.int .u8)) hs hown ad 1 1 [.int .u8 c] hx rfl ?_ ?_ (by omega) (by unfold maxLen; omega) (by omega) hbase w.heap.size rfl ?_
  · intro j u hj
    match j, hj with
    | 0, hj => simp at hj; subst hj; rw [← hnew]; congr 1
  · intro u hu; simp at hu; subst hu; rfl
  · intro g cap' w' h2 h3 _ _
    exact h g cap' w' (by simpa using h2) h3

/-- A buffer out of which k bytes were read, on the way: the answer in the box O, its bytes in a row of the call's own. -/
structure TakeB (w0 : World) (R O B base : Nat) (x : Int) (z : Nat) (s : RB) (o : Option Nat) (v : Value) (got : List Int) (k : Nat) (av : Option Addr) (cp : Nat) (w : World) : Prop where
  buf : AtB w0 R B base x z (goneN s k) o v got w
  box : w.heap[O]? = some (.cells #[.int .i64 0, .int .i64 (k : Int), .slice av k cp] 50 (0, 0))
  res : w.heap[R]? = some (.cells #[.int .i64 0, .int .i64 0, .slice none 0 0] 50 (0, 0))
  row : w.ownsRow w0.heap.size 5 1 (.slice av k cp) k ((bytesAt s.f s.read k).map (.int .u8))
  hO : w0.heap.size ≤ O
  ne : O ≠ R
section
variable {w0 w : World} {R O B base : Nat} {x : Int} {z : Nat} {s : RB} {o : Option Nat} {v : Value} {got : List Int} {k : Nat} {av : Option Addr} {cp : Nat}
theorem AtB.read1 (h : AtB w0 R B base x z s o v got w) (hr : s.read + 1 ≤ x + 20000000) (c : Int) (hc : c = s.read - x + 1) : AtB w0 R B base x z (gone1 s) o v got (w.setCell ⟨B, 3, none⟩ (.int .i64 c)) := by
  refine ⟨⟨?_, ?_, h.buf.got.gone1 hr⟩, h.blk, h.mv.set 3 _, h.hB, h.hR, h.vR⟩
  · rw [heap_setCell_same w B 3 _ _ (.int .i64 c) h.buf.blk, hc]
    simp only [gone1, bufCells]
    rw [show s.read - x + 1 = s.read + 1 - x by omega]
    rfl
  · refine row_stays h.buf.row fun k hk => heap_setCell_other _ _ _ _ (fun e => h.buf.ne (by rw [hk, e]))
/-- One byte more. -/
theorem TakeB.push (h : TakeB w0 R O B base x z s o v got k av cp w) (hr : s.read + k + 1 ≤ x + 20000000) {y : Int} (hy : (s.f (s.read + k)).getD 0 = y) {w4 : World} {g cap : Nat}
    (hrow : w4.ownsRow w0.heap.size 5 1 (.slice (some ⟨g, 0, none⟩) (k + 1) cap) (k + 1) ((bytesAt s.f s.read k ++ [y]).map (.int .u8))) (hg : (w.alloc (.cells #[.int .u8 y] 5)).drew.grownBy w4 (Value.slice av k cp).ownBlock)
    (c k1 : Int) (hc : c = s.read + k - x + 1) (hk1 : k1 = (k : Int) + 1) :
    TakeB w0 R O B base x z s o v got (k + 1) (some ⟨g, 0, none⟩) cap (((w4.setCell ⟨O, 2, none⟩ (.slice (some ⟨g, 0, none⟩) (k + 1) cap)).setCell ⟨B, 3, none⟩ (.int .i64 c)).setCell ⟨O, 1, none⟩ (.int .i64 k1)) := by
  have hBl := h.buf.buf.lt
  have hOl : O < w.heap.size := (Array.getElem?_eq_some_iff.1 h.box).1
  have hRl : R < w.heap.size := (Array.getElem?_eq_some_iff.1 h.res).1
  -- what the append leaves
  have hkeep : ∀ {j : Nat} {cs : Array Value} {t : TypeId}, w.heap[j]? = some (.cells cs t (0, 0)) → t ≠ 5 → w4.heap[j]? = some (.cells cs t (0, 0)) := fun {j cs t} hj ht => by
    have hjl : j < w.heap.size := (Array.getElem?_eq_some_iff.1 hj).1
    refine (hg.block j (by simp; omega) (fun e => ?_)).trans ((Below.heap_alloc _ _ _ hjl).trans hj)
    obtain ⟨c2, hc2⟩ := row_block h.row e.symm
    exact type_ne hj hc2 ht rfl
  have hB4 := hkeep h.buf.buf.blk (by decide)
  have hO4 := hkeep h.box (by decide)
  have hR4 := hkeep h.res (by decide)
  have hA4 : AtB w0 R B base x z (goneN s k) o v got w4 := by
    refine ⟨⟨hB4, row_stays h.buf.buf.row fun j hj => ?_, h.buf.buf.got⟩, h.buf.blk, ?_, h.buf.hB, h.buf.hR, h.buf.vR⟩
    · obtain ⟨cs, hcs⟩ := row_block h.buf.buf.row hj
      exact (hkeep hcs (by decide)).trans hcs.symm
    · refine (h.buf.mv.alloc (.cells #[.int .u8 y] 5)).grown (r2 := (Value.slice av k cp).ownBlock) ⟨hg.os, hg.tape, hg.output, hg.size, hg.block⟩ (.inr (.inr fun j hj => (h.row.lt j hj).1))
  have hOB : O ≠ B := by have := h.hO; have := h.buf.hB; omega
  have hRB : R ≠ B := by have := h.buf.hR; have := h.buf.hB; omega
  have hvO : v.ownBlock ≠ some O := fun e => by
    obtain ⟨cs, hcs⟩ := row_block h.buf.buf.row e
    exact type_ne hcs h.box (by decide) rfl
  have hA5 : AtB w0 R B base x z (goneN s k) o v got (w4.setCell ⟨O, 2, none⟩ (.slice (some ⟨g, 0, none⟩) (k + 1) cap)) := ⟨hA4.buf.far O 2 _ hOB hvO, hA4.blk, hA4.mv.far O 2 h.hO _, hA4.hB, hA4.hR, hA4.vR⟩
  have hA6 := hA5.read1 (by simp only [goneN]; omega) c (by simp only [goneN]; omega)
  rw [← goneN_succ] at hA6
  obtain ⟨cs, hcs⟩ := row_block hrow (k := g) rfl
  have hgO : g ≠ O := type_ne hcs hO4 (by decide)
  have hgB : g ≠ B := type_ne hcs hB4 (by decide)
  refine ⟨⟨hA6.buf.far O 1 _ hOB hvO, hA6.blk, hA6.mv.far O 1 h.hO _, hA6.hB, hA6.hR, hA6.vR⟩, ?_, ?_, ?_, h.hO, h.ne⟩
  · have h1 := heap_setCell_same w4 O 2 _ _ (.slice (some ⟨g, 0, none⟩) (k + 1) cap) hO4
    have h2 : ((w4.setCell ⟨O, 2, none⟩ (.slice (some ⟨g, 0, none⟩) (k + 1) cap)).setCell ⟨B, 3, none⟩ (.int .i64 c)).heap[O]? = _ := (heap_setCell_other _ _ _ _ hOB).trans h1
    rw [heap_setCell_same _ O 1 _ _ (.int .i64 k1) h2, hk1]
    rfl
  · rw [heap_setCell_other _ _ _ _ (Ne.symm h.ne), heap_setCell_other _ _ _ _ hRB, heap_setCell_other _ _ _ _ (Ne.symm h.ne)]
    exact hR4
  · rw [bytesAt_succ, hy]
    refine row_stays hrow fun j hj => ?_
    have e : g = j := by simpa [Value.ownBlock] using hj
    rw [← e, heap_setCell_other _ _ _ _ hgO, heap_setCell_other _ _ _ _ hgB, heap_setCell_other _ _ _ _ hgO]
theorem TakeB.drewN (h : TakeB w0 R O B base x z s o v got k av cp w) (m : Nat) : TakeB w0 R O B base x z s o v got k av cp (w.drewN m) := ⟨h.buf.drewN m, h.box, h.res, h.row, h.hO, h.ne⟩
end
theorem AtB.finish {w0 W : World} {R B base : Nat} {x : Int} {z : Nat} {s' : RB} {o : Option Nat} {v v0 : Value} {got : List Int} {cs : Array Value} (hA : AtB w0 R B base x z s' o v got W) (ho : o = v0.ownBlock) {av : Option Addr} {k cp : Nat} {c : Int} {dat : List Int}
    (hrow : W.ownsRow w0.heap.size 5 1 (.slice av k cp) k (dat.map (.int .u8))) (hR : W.heap[R]? = some (.cells cs 50 (0, 0))) {Q : ROut × RB} (hQ : Q = (⟨c, (k : Int), dat⟩, s')) :
    SStepsTo w0 B base x z v0 Q (.returned (.agg #[.int .i64 c, .int .i64 (k : Int), .slice av k cp])) (((W.setCell ⟨R, 0, none⟩ (.int .i64 c)).setCell ⟨R, 1, none⟩ (.int .i64 (k : Int))).setCell ⟨R, 2, none⟩ (.slice av k cp)) := by
  subst hQ
  have hl : dat.length = k := by have := owned_length hrow; simpa using this
  have h3 := hA.fill (.int .i64 c) (.int .i64 (k : Int)) (.slice av k cp)
  refine ⟨av, cp, v, got, by simp only; rw [hl], h3.buf, by rw [← ho]; exact h3.blk, ?_, by rw [← ho]; exact h3.mv⟩
  simp only
  rw [hl]
  refine row_stays hrow fun j hj => ?_
  obtain ⟨c2, hc2⟩ := row_block hrow hj
  have hne : j ≠ R := type_ne hc2 hR (by decide)
  rw [heap_setCell_other _ _ _ _ hne, heap_setCell_other _ _ _ _ hne, heap_setCell_other _ _ _ _ hne]
/-- The answer's code in the box O. -/
theorem TakeB.eof {w0 w : World} {R O B base : Nat} {x : Int} {z : Nat} {s : RB} {o : Option Nat} {v : Value} {got : List Int} {k : Nat} {av : Option Addr} {cp : Nat} (h : TakeB w0 R O B base x z s o v got k av cp w) (u : Value) :
    AtB w0 R B base x z (goneN s k) o v got (w.setCell ⟨O, 0, none⟩ u) ∧ (w.setCell ⟨O, 0, none⟩ u).heap[R]? = some (.cells #[.int .i64 0, .int .i64 0, .slice none 0 0] 50 (0, 0)) ∧ (w.setCell ⟨O, 0, none⟩ u).ownsRow w0.heap.size 5 1 (.slice av k cp) k ((bytesAt s.f s.read k).map (.int .u8)) := by
  have hOB : O ≠ B := by have := h.hO; have := h.buf.hB; omega
  have hvO : v.ownBlock ≠ some O := fun e => by
    obtain ⟨cs, hcs⟩ := row_block h.buf.buf.row e
    exact type_ne hcs h.box (by decide) rfl
  refine ⟨⟨h.buf.buf.far O 0 _ hOB hvO, h.buf.blk, h.buf.mv.far O 0 h.hO _, h.buf.hB, h.buf.hR, h.buf.vR⟩, (heap_setCell_other _ _ _ _ (Ne.symm h.ne)).trans h.res, row_stays h.row fun j hj => ?_⟩
  obtain ⟨c2, hc2⟩ := row_block h.row hj
  exact heap_setCell_other _ _ _ _ (type_ne hc2 h.box (by decide))
def numOf : Option Value → Nat
  | some (.int _ n) => n.toNat
  | _ => 0

set_option maxHeartbeats 2000000 in
set_option maxRecDepth 100000 in
theorem l5Take_any (w : World) (B base : Nat) (x : Int) (z : Nat) (s : RB) (v : Value) (got : List Int) (h : SpB w B base x z s v got) (n : Int) (n0 : -9223372036854775808 ≤ n) (n1 : n ≤ 9223372036854775807) (hr9 : s.read + z ≤ x + 20000000) :
    Calls Try.prog 86 #[.pointer (some ⟨B, 0, none⟩), .int .i64 n] w (SStepsTo w B base x z v (takeR z s n)) := by
  have hz1 := h.got.z1
  have hz2 := h.got.z2
  have hx0 := h.got.x0
  have hx1 := h.got.x1
  have hlo := h.got.lo
  have hhi := h.got.hi
  have hlen := h.got.len
  have hrl := runLen_le s.f z s.read
  have HRUN : Hid (∀ i : Nat, i < runLen s.f z s.read → 0 ≤ got.getD (s.read + i - x).toNat (-1)) := h.got.runs
  have HAT : Hid (∀ t, s.read ≤ t → s.f t = if 0 ≤ got.getD (t - x).toNat (-1) then some (got.getD (t - x).toNat (-1)) else none) := h.got.at_
  have HVAL : Hid (∀ v ∈ got, -1 ≤ v ∧ v ≤ 255) := h.got.val
  have HG0 : Hid (goneN s 0 = s) := goneN_zero h.got.win
  have hA0 := ((AtB.begin h (Nat.le_refl _)).alloc (.cells #[.int .i64 0, .int .i64 0, .slice none 0 0] 50)).alloc (.cells #[.int .i64 0, .int .i64 0, .slice none 0 0] 50)
  obtain ⟨V, hV⟩ : ∃ V, V = (w.alloc (.cells #[.int .i64 0, .int .i64 0, .slice none 0 0] 50)).alloc (.cells #[.int .i64 0, .int .i64 0, .slice none 0 0] 50) := ⟨_, rfl⟩
  have hRV : V.heap[w.heap.size]? = some (.cells #[.int .i64 0, .int .i64 0, .slice none 0 0] 50 (0, 0)) := by rw [hV]; exact (Below.heap_alloc _ _ _ (by simp)).trans (box_new _ _ _ rfl)
  have hOV : V.heap[w.heap.size + 1]? = some (.cells #[.int .i64 0, .int .i64 0, .slice none 0 0] 50 (0, 0)) := by rw [hV]; exact box_new _ _ _ (by simp)
  rw [← hV] at hA0
  obtain ⟨ob, hob⟩ : ∃ ob, Hid (ob = v.ownBlock) := ⟨_, rfl⟩
  rw [← hob.out] at hA0
  obtain ⟨R, hR⟩ : ∃ R, R = w.heap.size := ⟨_, rfl⟩
  obtain ⟨O, hO⟩ : ∃ O, O = w.heap.size + 1 := ⟨_, rfl⟩
  rw [← hR] at hRV hA0
  rw [← hO] at hOV
  have hRO : O ≠ R := by omega
  have hOw : w.heap.size ≤ O := by omega
  have hRw : w.heap.size ≤ R := by omega
  have hT0 : TakeB w R O B base x z s ob v got 0 none 0 V := ⟨by rw [HG0.out]; exact hA0, hOV, hRV, ⟨rfl, .inl ⟨rfl, rfl⟩⟩, hOw, hRO⟩
  have HT0 : Hid _ := hT0
  have hnx := l5Next_any V B base x z s v got hA0.buf
  obtain ⟨r, hr⟩ : ∃ r, Hid (r = s.read) := ⟨_, rfl⟩
  rw [← hr.out] at hlo hhi hlen hrl HRUN HAT hnx hr9
  obtain ⟨ℓ, hℓ⟩ : ∃ ℓ, Hid (ℓ = runLen s.f z r) := ⟨_, rfl⟩
  rw [← hℓ.out] at hnx hrl HRUN
  obtain ⟨NX, hNX⟩ : ∃ NX, Hid (NX = r - x + (ℓ : Int)) := ⟨_, rfl⟩
  rw [← hNX.out] at hnx
  obtain ⟨K, hK⟩ : ∃ K, Hid (K = takeN z s n) := ⟨_, rfl⟩
  have hKl : K ≤ ℓ := by rw [hK.out, hℓ.out, hr.out]; exact Nat.min_le_right ..
  have HK2 : Hid (K = min n.toNat ℓ) := by unfold Hid; rw [hK.out, hℓ.out, hr.out]; rfl
  obtain ⟨L, hL⟩ : ∃ L, Hid (L = got.length) := ⟨_, rfl⟩
  rw [← hL.out] at hlen
  clear h hA0 hRV hOV hT0
  go_enter Try.func86, Try.ntmps86
  go_upto_region 2 with fail
  rw [← hV, ← hO, ← hR]
  clear hV hR hO
  go_wp2_with fail
  refine hnx.mono ?_
  rintro e w1 ⟨rfl, hw1⟩
  subst hw1
  clear hnx
  go_wp2_with fail
  go_loopw [] (fun wr => ∃ (k : Nat) (av : Option Addr) (cp : Nat), k ≤ K ∧ Hid (TakeB w R O B base x z s ob v got k av cp wr)) (fun wr => K - numOf (wr.cell? ⟨O, 1, none⟩))
  case atStart => exact ⟨0, none, 0, Nat.zero_le _, HT0⟩
  case round =>
  obtain ⟨k, av, cp, hk, HT⟩ := hrel
  obtain ⟨⟨c0, c1, c2, c3, c4, c5⟩, cf⟩ := HT.out.buf.buf.cells
  obtain ⟨⟨o0, o1, o2⟩, of0, of1, of2⟩ := cells3r HT.out.box
  have hOB : O ≠ B := by have := HT.out.buf.hB; omega
  have hBO : B ≠ O := Ne.symm hOB
  obtain ⟨c, hc⟩ : ∃ c : Nat, Hid ((c : Int) = r + k - x) := ⟨(r + k - x).toNat, by unfold Hid; omega⟩
  have hcr : (goneN s k).read - x = (c : Int) := by rw [hc.out, hr.out]; rfl
  rw [hcr] at c3
  have hcN : (c : Int) < NX ↔ k < ℓ := by have := hc.out; have := hNX.out; omega
  have HCN : Hid _ := hcN
  clear hcN hcr
  have hc3 : c ≤ 30000000 := by have := hc.out; omega
  obtain ⟨a2, cap2, hve, _⟩ := HT.out.buf.buf.shape
  have hrow2 := HT.out.buf.buf.row
  rw [hve, ← hL.out] at hrow2 c2
  have HVE : Hid _ := hve
  clear hve
  by_cases hkK : k < K
  case pos =>
    have d1 : decide ((c : Int) < NX) = true := by rw [decide_eq_true_iff]; exact HCN.out.2 (by omega)
    have d2 : decide ((k : Int) < n) = true := by rw [decide_eq_true_iff]; have := HK2.out; omega
    have hg0 := HRUN.out k (by omega)
    have hct : (r + (k : Int) - x).toNat = c := by have := hc.out; omega
    rw [hct] at hg0
    have hcL : c < L := by
      by_cases h3 : c < L
      · exact h3
      · have h4 : got.getD c (-1) = -1 := by rw [List.getD_eq_getElem?_getD, List.getElem?_eq_none (by rw [← hL.out]; omega)]; rfl
        rw [h4] at hg0; omega
    have hcL2 : (c : Int) < (L : Int) := by omega
    have hcg : c < got.length := by rw [← hL.out]; exact hcL
    obtain ⟨y, hy⟩ : ∃ y, Hid (got.getD c (-1) = y) := ⟨_, rfl⟩
    rw [hy.out] at hg0
    have hy255 : y ≤ 255 := by
      have e : got.getD c (-1) = got[c] := by simp [hcg]
      rw [← hy.out, e]
      exact (HVAL.out _ (List.getElem_mem hcg)).2
    have hyf : Hid ((s.f (s.read + k)).getD 0 = y) := by
      unfold Hid
      rw [HAT.out (s.read + k) (by rw [hr.out]; omega), ← hr.out, hct, hy.out, if_pos hg0]
      rfl
    obtain ⟨g, hg⟩ : ∃ g, a2 = some ⟨g, 0, none⟩ := by
      rcases hrow2.2 with ⟨h', h0⟩ | ⟨g, cap', cur, h', _⟩
      · omega
      · simp only [Value.slice.injEq] at h'
        exact ⟨g, h'.1⟩
    subst hg
    have x0 : wr.cell? ⟨g, c, none⟩ = some (.int .i64 y) := by
      rw [hrow2.cellAt c (by omega)]
      simp only [List.getElem?_map, List.getElem?_eq_getElem hcg, Option.map_some, Option.some.injEq, Value.int.injEq, true_and]
      rw [← hy.out, List.getD_eq_getElem?_getD, List.getElem?_eq_getElem hcg]
      rfl
    have hyw : IntKind.u8.wrap y = y := by rw [IntKind.wrap_u8]; omega
    have hcw : IntKind.i64.wrap ((c : Int) + 1) = (c : Int) + 1 := by rw [IntKind.wrap_i64]; omega
    have hkw : IntKind.i64.wrap ((k : Int) + 1) = (k : Int) + 1 := by rw [IntKind.wrap_i64]; omega
    have hrow5 : (wr.alloc (.cells #[.int .u8 y] 5)).drew.ownsRow w.heap.size 5 1 (.slice av k cp) k ((bytesAt s.f s.read k).map (.int .u8)) := own_drew (own_alloc HT.out.row _)
    have ht5 : (wr.alloc (.cells #[.int .u8 y] 5)).drew.cell? ⟨wr.heap.size, 0, none⟩ = some (.int .u8 y) := Go.Joins.cell_of_block (box_new wr (.cells #[.int .u8 y] 5) wr.heap.size rfl) 0
    have hb5 : w.heap.size ≤ (wr.alloc (.cells #[.int .u8 y] 5)).drew.heap.size := by have := HT.out.buf.mv.size; simp; omega
    have hl5 : k ≤ 1048576 := by omega
    have HKEEP : Hid (∀ (w4 : World), (wr.alloc (.cells #[.int .u8 y] 5)).drew.grownBy w4 (Value.slice av k cp).ownBlock → ∀ {j : Nat} {cs : Array Value} {t : TypeId}, wr.heap[j]? = some (.cells cs t (0, 0)) → t ≠ 5 → w4.heap[j]? = some (.cells cs t (0, 0))) := by
      intro w4 hg4 j cs t hj ht
      have hjl : j < wr.heap.size := (Array.getElem?_eq_some_iff.1 hj).1
      refine (hg4.block j (by simp; omega) (fun e => ?_)).trans ((Below.heap_alloc _ _ _ hjl).trans hj)
      obtain ⟨c2, hc2⟩ := row_block HT.out.row e.symm
      exact type_ne hj hc2 ht rfl
    have HC4 : Hid (∀ (w4 : World), (wr.alloc (.cells #[.int .u8 y] 5)).drew.grownBy w4 (Value.slice av k cp).ownBlock → (w4.cell? ⟨O, 1, none⟩ = some (.int .i64 (k : Int)) ∧ w4.cell? ⟨O, 2, none⟩ = some (.slice av k cp) ∧ w4.cell? ⟨B, 3, none⟩ = some (.int .i64 (c : Int))) ∧ w4.frozen? ⟨O, 1, none⟩ = false ∧ w4.frozen? ⟨O, 2, none⟩ = false ∧ w4.frozen? ⟨B, 3, none⟩ = false) := by
      intro w4 hg4
      have hO4 := HKEEP.out w4 hg4 HT.out.box (by decide)
      have hB4 := HKEEP.out w4 hg4 HT.out.buf.buf.blk (by decide)
      have e3 : w4.cell? ⟨B, 3, none⟩ = some (.int .i64 ((goneN s k).read - x)) := Go.Joins.cell_of_block hB4 3
      exact ⟨⟨Go.Joins.cell_of_block hO4 1, Go.Joins.cell_of_block hO4 2, by rw [e3, hc.out, hr.out]; rfl⟩, Go.Joins.unfrozen_of_block hO4 _, Go.Joins.unfrozen_of_block hO4 _, Go.Joins.unfrozen_of_block hB4 _⟩
    have HPUSH : Hid (∀ (w4 : World) (g cap : Nat), w4.ownsRow w.heap.size 5 1 (.slice (some ⟨g, 0, none⟩) (k + 1) cap) (k + 1) ((bytesAt s.f s.read k ++ [y]).map (.int .u8)) → (wr.alloc (.cells #[.int .u8 y] 5)).drew.grownBy w4 (Value.slice av k cp).ownBlock → TakeB w R O B base x z s ob v got (k + 1) (some ⟨g, 0, none⟩) cap (((w4.setCell ⟨O, 2, none⟩ (.slice (some ⟨g, 0, none⟩) (k + 1) cap)).setCell ⟨B, 3, none⟩ (.int .i64 ((c : Int) + 1))).setCell ⟨O, 1, none⟩ (.int .i64 ((k : Int) + 1)))) := fun w4 g cap ho hg4 => HT.out.push (by rw [← hr.out]; omega) hyf.out ho hg4 _ _ (by rw [hc.out, hr.out]) rfl
    clear cf of0 of1 of2
    have hOl : O < wr.heap.size := (Array.getElem?_eq_some_iff.1 HT.out.box).1
    have hBl := HT.out.buf.buf.lt
    have hgl : g < wr.heap.size := (hrow2.lt g rfl).2
    go_wp2_with fail
    go_region_law (first
      | (refine step_app8 (wr.alloc (.cells #[.int .u8 y] 5)).drew (by rfl) _ _ (by rfl) w.heap.size av k cp (bytesAt s.f s.read k) y (by rfl) hrow5 ⟨wr.heap.size, 0, none⟩ (by rfl) ht5 hl5 hb5 ?_; intro g4 cap4 w4 ho4 hg4; obtain ⟨⟨q1, q2, q3⟩, qf1, qf2, qf3⟩ := HC4.out w4 hg4))
    all_goals
      have hP := HPUSH.out w4 g4 cap4 ho4 hg4
      have hPc := (cells3r hP.box).1.2.1
      go_wp2_with fail
      go_roundw
      case rel => exact ⟨k + 1, _, _, by omega, hP⟩
      case measure =>
        rw [hPc, o1]
        simp only [numOf]
        omega
  case neg =>
  obtain rfl : k = K := by omega
  obtain ⟨⟨r0, r1, r2⟩, rf0, rf1, rf2⟩ := cells3r HT.out.res
  go_upto_region 3 with fail
  go_cut [21] from 10 to 20 (fun v wx => v = .bool false ∧ wr = wx)
  case first =>
    by_cases h1 : k < ℓ
    · have d1 : decide ((c : Int) < NX) = true := by rw [decide_eq_true_iff]; exact HCN.out.2 h1
      have d2 : decide ((k : Int) < n) = false := by rw [decide_eq_false_iff_not]; have := HK2.out; omega
      go_wp2_with fail
      go_meet
      case rel => exact ⟨rfl, rfl⟩
    · have d1 : decide ((c : Int) < NX) = false := by rw [decide_eq_false_iff_not]; exact fun h => h1 (HCN.out.1 h)
      go_wp2_with fail
      go_meet
      case rel => exact ⟨rfl, rfl⟩
  case rest =>
  obtain ⟨rfl, hwe⟩ := hcut
  subst hwe
  have hrd := fun m => l5Read_any (wr.drewN m) B base x z _ v got (HT.out.buf.buf.drewN m)
  obtain ⟨ρ, hρ⟩ : ∃ ρ, Hid (ρ = (goneN s k).read) := ⟨_, rfl⟩
  rw [← hρ.out] at hrd
  obtain ⟨fin, hfin⟩ : ∃ fin, Hid (fin = s.fin) := ⟨_, rfl⟩
  have c4' : wr.cell? ⟨B, 4, none⟩ = some (.int .u64 fin) := by rw [c4, hfin.out]; rfl
  have c5' : wr.cell? ⟨B, 5, none⟩ = some (.bool (decide (s.hf = 1))) := c5
  clear c4 c5 c0 c1 c2 c3
  by_cases hE : k = 0 ∧ s.hf = 1 ∧ r = fin
  case pos =>
    obtain ⟨hE1, hE2, hE3⟩ := hE
    have HE : Hid (takeR z s n = (⟨15, (k : Int), bytesAt s.f s.read k⟩, goneN s k)) := by
      unfold Hid takeR
      rw [if_pos ⟨by rw [← hK.out]; exact hE1, hE2, by rw [← hr.out, ← hfin.out]; exact hE3⟩, hE1, HG0.out]
      rfl
    have d1 : ((k : Int) == 0) = true := by simpa using hE1
    have d2 : decide (s.hf = 1) = true := by rw [decide_eq_true_iff]; exact hE2
    have d3 : (ρ == fin) = true := by
      have e : ρ = fin := by rw [hρ.out, hE1, HG0.out, ← hr.out]; exact hE3
      simpa using e
    rw [d2] at c5'
    have hfn := fun m => ((HT.out.drewN m).eof (.int .i64 15)).1.finish hob.out ((HT.out.drewN m).eof (.int .i64 15)).2.2 ((HT.out.drewN m).eof (.int .i64 15)).2.1 HE.out
    have zz := fun m => (cells3r (set3r ((HT.out.drewN m).eof (.int .i64 15)).2.1 (.int .i64 15) (.int .i64 (k : Int)) (.slice av k cp))).1
    have z0 := fun m => (zz m).1
    have z1 := fun m => (zz m).2.1
    have z2 := fun m => (zz m).2.2
    have Q1 : Hid _ := hE1
    have Q2 : Hid _ := hE2
    have Q3 : Hid _ := hE3
    clear zz hE1 hE2 hE3
    go_wp2_with fail
    go_quiet ((go_at_call 71; exact Calls.quiet_of (hrd _)))
    go_wp2_with fail
    exact bodyPost_ret (v := .agg #[.int .i64 15, .int .i64 (k : Int), .slice av k cp]) (by simp [results, Try.results86, go_sem, z0, z1, z2]) rfl (hfn _)
  case neg =>
  have HE : Hid (takeR z s n = (⟨0, (k : Int), bytesAt s.f s.read k⟩, goneN s k)) := by
    unfold Hid takeR
    rw [if_neg (by rw [← hK.out, ← hr.out, ← hfin.out]; exact hE), ← hK.out]
    rfl
  have HN : Hid _ := hE
  clear hE
  go_upto_region 7 with fail
  go_cut [67] from 50 to 66 (fun v wx => v = .bool false ∧ ∃ m, wx = wr.drewN m)
  case first =>
    by_cases h1 : k = 0
    · have d1 : ((k : Int) == 0) = true := by simpa using h1
      by_cases h2 : s.hf = 1
      · have d2 : decide (s.hf = 1) = true := by rw [decide_eq_true_iff]; exact h2
        have d3 : (ρ == fin) = false := by
          have e : ρ ≠ fin := by rw [hρ.out, h1, HG0.out, ← hr.out]; exact fun h => HN.out ⟨h1, h2, h⟩
          simpa using e
        rw [d2] at c5'
        have Q1 : Hid _ := h1
        have Q2 : Hid _ := h2
        clear h1 h2
        go_quiet ((go_at_call 71; exact Calls.quiet_of (hrd _)))
        go_wp2_with fail
        go_meet
        case rel => exact ⟨rfl, _, rfl⟩
      · have d2 : decide (s.hf = 1) = false := by rw [decide_eq_false_iff_not]; exact h2
        rw [d2] at c5'
        have Q1 : Hid _ := h1
        have Q2 : Hid _ := h2
        clear h1 h2
        go_quiet (fail)
        go_wp2_with fail
        go_meet
        case rel => exact ⟨rfl, _, rfl⟩
    · have d1 : ((k : Int) == 0) = false := by simpa using h1
      have Q1 : Hid _ := h1
      clear h1
      go_quiet (fail)
      go_wp2_with fail
      go_meet
      case rel => exact ⟨rfl, _, rfl⟩
  case rest =>
  obtain ⟨rfl, m, rfl⟩ := hcut
  have hfn := (HT.out.drewN m).buf.finish hob.out (HT.out.drewN m).row (HT.out.drewN m).res HE.out
  obtain ⟨⟨z0, z1, z2⟩, _⟩ := cells3r (set3r (HT.out.drewN m).res (.int .i64 0) (.int .i64 (k : Int)) (.slice av k cp))
  clear hrd
  go_wp2_with fail
  exact bodyPost_ret (v := .agg #[.int .i64 0, .int .i64 (k : Int), .slice av k cp]) (by simp [results, Try.results86, go_sem, z0, z1, z2]) rfl hfn
end Go.Proofs.Ytpeecjoadgefjaa
