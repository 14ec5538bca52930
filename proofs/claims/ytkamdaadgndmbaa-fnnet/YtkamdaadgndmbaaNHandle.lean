import Derived.Test.YtkamdaadgndmbaaNSend2
namespace Go.Proofs.Ytkamdaadgndmbaa
open Go.ChangeShapes Go.WideShapes Go.ChangeAt Go.RowKit
set_option linter.unusedVariables false

theorem NetAt.kept {w w' : World} {X base : Nat} {s : NS} {L : List Lk} (h : NetAt w X base s L) (hb : ∀ k, k < w.heap.size → w'.heap[k]? = w.heap[k]?) : NetAt w' X base s L :=
  ⟨(hb X (Array.getElem?_eq_some_iff.1 h.blk).1).trans h.blk, h.bags.stays fun k cs t _ _ hk => hb k (Array.getElem?_eq_some_iff.1 hk).1, h.cut, h.bag⟩
/-- What an answer's bytes are: a row of their own, that lay in a bag and does no more, or nothing. -/
structure OutD (w' : World) (base : Nat) (L L' : List Lk) (y : List Int) (v : Value) : Prop where
  row : w'.ownsRow base 5 1 v y.length (y.map (.int .u8))
  old : ∀ k, v.ownBlock = some k → (∃ q ∈ bagsL L, ∃ r ∈ q.2, r.2.ownBlock = some k) ∧ ∀ q ∈ bagsL L', ∀ r ∈ q.2, r.2.ownBlock ≠ some k
theorem OutD.nil (w' : World) (base : Nat) (L L' : List Lk) : OutD w' base L L' [] (.slice none 0 0) := ⟨World.ownsRow_nil _ _ _ _, fun k hk => by cases hk⟩
theorem set2r {w : World} {b : Nat} {x y : Value} {t : TypeId} (h : w.heap[b]? = some (.cells #[x, y] t (0, 0))) (u v : Value) :
    ((w.setCell ⟨b, 0, none⟩ u).setCell ⟨b, 1, none⟩ v).heap[b]? = some (.cells #[u, v] t (0, 0)) := by
  have h0 := heap_setCell_same w b 0 _ _ u h
  exact heap_setCell_same _ b 1 _ _ v h0
theorem fill2_other (w : World) {b k : Nat} (h : k ≠ b) (u v : Value) : ((w.setCell ⟨b, 0, none⟩ u).setCell ⟨b, 1, none⟩ v).heap[k]? = w.heap[k]? := by
  rw [heap_setCell_other _ _ _ _ h, heap_setCell_other _ _ _ _ h]
theorem NetAt.fill {V : World} {X base R : Nat} {s : NS} {L : List Lk} {cs : Array Value} (h : NetAt V X base s L) (hR : V.heap[R]? = some (.cells cs 37 (0, 0))) (u v : Value) : NetAt ((V.setCell ⟨R, 0, none⟩ u).setCell ⟨R, 1, none⟩ v) X base s L :=
  ⟨(fill2_other V (type_ne h.blk hR (by decide)) u v).trans h.blk, h.bags.stays fun k c t _ ht hk => fill2_other V (type_ne hk hR (by rcases ht with rfl | rfl <;> decide)) u v, h.cut, h.bag⟩
theorem Keeps.fill {w V : World} {X base R : Nat} (h : Keeps w V X base) (hR : w.heap.size ≤ R) (u v : Value) : Keeps w ((V.setCell ⟨R, 0, none⟩ u).setCell ⟨R, 1, none⟩ v) X base :=
  ⟨h.os, h.tape, h.output, by simpa using h.size, fun k hk h1 h2 => (fill2_other V (by omega) u v).trans (h.block k hk h1 h2)⟩
theorem OutD.fill {V : World} {base R : Nat} {L L' : List Lk} {y : List Int} {d : Value} {cs : Array Value} (h : OutD V base L L' y d) (hR : V.heap[R]? = some (.cells cs 37 (0, 0))) (u v : Value) : OutD ((V.setCell ⟨R, 0, none⟩ u).setCell ⟨R, 1, none⟩ v) base L L' y d :=
  ⟨row_stays h.row fun k hk => by
    obtain ⟨c, hc⟩ := row_block h.row hk
    exact fill2_other V (type_ne hc hR (by decide)) u v, h.old⟩
theorem Keeps.at {w V : World} {X base R : Nat} {cs : Array Value} (h : Keeps w V X base) (hR : w.heap[R]? = some (.cells cs 37 (0, 0))) (hX : R ≠ X) : V.heap[R]? = some (.cells cs 37 (0, 0)) :=
  (h.block R (Array.getElem?_eq_some_iff.1 hR).1 hX (.inr fun c hc => type_ne hc hR (by decide) rfl)).trans hR
set_option maxRecDepth 100000 in
set_option maxHeartbeats 400000 in
theorem handle_any (X base i d : Nat) (s : NS) (L : List Lk) (w : World) (h : NetAt w X base s L) (hinv : InvN s) (hi : i < L.length) (hd : d < 2) (hb : base ≤ w.heap.size) (e : NEv) (hpa : e.pa = i) (hdi : e.di = d) (hkd : e.kd = 2 ∨ e.kd = 3 ∨ e.kd = 4) (kd ix : Int) (hk : e.kd = kd) (hx : e.ix = ix) :
    Calls Try.prog 53 #[.pointer (some ⟨X, i * 3, none⟩), .int .i64 kd, .int .i64 (d : Int), .int .i64 ix] w fun r w' => ∃ L' da dc, r = .returned (.agg #[.int .i64 (handleN s e).1.code, .slice da (handleN s e).1.dat.length dc]) ∧ L'.length = L.length ∧ NetAt w' X base (handleN s e).2 L' ∧ SubD w.heap.size L L' ∧ Keeps w w' X base ∧ OutD w' base L L' (handleN s e).1.dat (.slice da (handleN s e).1.dat.length dc) := by
  have hXl := (Array.getElem?_eq_some_iff.1 h.blk).1
  obtain ⟨W, hW⟩ : ∃ W, W = w.alloc (.cells #[.int .i64 0, .slice none 0 0] 37) := ⟨_, rfl⟩
  have hb0 : Below w.heap.size w W := by rw [hW]; exact (Below.refl _ _).alloc (Nat.le_refl _) _
  have hR : W.heap[w.heap.size]? = some (.cells #[.int .i64 0, .slice none 0 0] 37 (0, 0)) := by rw [hW]; exact heap_alloc_new _ _
  obtain ⟨R, hRe⟩ : ∃ R, R = w.heap.size := ⟨_, rfl⟩
  rw [← hRe] at hR
  have hRX : R ≠ X := by omega
  have hrow := h.row hi hd
  obtain ⟨av, cap, hsh⟩ := own_shape hrow
  have hbl : ((L[i]).bag d).2.length = (s.bag i d).length := by rw [← h.bag i hi d hd, List.length_map]
  have c1 : w.cell? ⟨X, i * 3 + 1 + d, none⟩ = some (.slice av (s.bag i d).length cap) := by
    rw [Go.Joins.cell_of_block h.blk, List.getElem?_toArray, flatL_bag hi hd, hsh, hbl]
  have hlen := hinv.len i d
  have hd2 : (d : Int) < 2 := by omega
  have c1W : W.cell? ⟨X, i * 3 + 1 + d, none⟩ = some (.slice av (s.bag i d).length cap) := (hb0.cell (p := ⟨X, i * 3 + 1 + d, none⟩) hXl).trans c1
  unfold handleN
  rw [hpa, hdi, hk, hx]
  obtain ⟨m, hm⟩ : ∃ m, Hid (m = (s.bag i d).length) := ⟨_, rfl⟩
  rw [← hm.out] at c1W hlen ⊢
  have hq := qsize_any X (i * 3 + 1 + d) av m cap W c1W (by omega)
  obtain ⟨⟨r0, r1⟩, rf⟩ := cells2r hR
  have rf0 := rf 0
  have rf1 := rf 1
  have hw1 : IntKind.i64.wrap ((m : Int) - 1) = (m : Int) - 1 := by rw [IntKind.wrap_i64]; omega
  have hNW := h.moved hb0
  have HK0 : Hid (Keeps w W X base) := Keeps.after hb0 (Keeps.refl _ _ _)
  have HB0 : Hid _ := hb0
  have HR : Hid _ := hR
  clear rf hrow
  by_cases h1 : ix < 0 ∨ (m : Int) ≤ ix
  · rw [if_pos h1]
    have hwi := within_no ix 0 ((m : Int) - 1) W (by omega)
    go_enter Try.func53, Try.ntmps53
    go_wp2_with fail
    rw [← hW, ← hRe]
    have HRE : Hid _ := hRe
    clear hW hRe
    refine hq.mono ?_
    rintro r w1 ⟨rfl, hw⟩
    subst hw
    go_wp2_with fail
    refine hwi.mono ?_
    rintro r w2 ⟨rfl, hw⟩
    subst hw
    obtain ⟨⟨z0, z1⟩, _⟩ := cells2r (set2r HR.out (.int .i64 7) (.slice none 0 0))
    go_wp2_with fail
    refine bodyPost_ret (v := .agg #[.int .i64 7, .slice none 0 0]) (by simp [results, Try.results53, go_sem, z0, z1]) rfl ⟨L, none, 0, rfl, rfl, hNW.fill HR.out _ _, SubD.refl _ _, HK0.out.fill (Nat.le_of_eq HRE.out.symm) _ _, (OutD.nil w2 base L L).fill HR.out _ _⟩
  · rw [if_neg h1]
    have hwi := within_yes ix 0 ((m : Int) - 1) W (by omega) (by omega)
    obtain ⟨p, rfl⟩ : ∃ p : Nat, ix = (p : Int) := ⟨ix.toNat, by omega⟩
    have hpm : p < m := by omega
    have hbs : base ≤ W.heap.size := Nat.le_trans hb hb0.size
    have htk := take_net X base i d p s L W hNW hi hd hbs (by have := hm.out; omega) (by have := hm.out; omega)
    obtain ⟨Y, hY⟩ : ∃ Y, Hid (Y = (s.bag i d).getD p []) := ⟨_, rfl⟩
    simp only [Int.toNat_natCast]
    rw [← hY.out] at htk ⊢
    obtain ⟨yl, hyl⟩ : ∃ yl, Hid (yl = Y.length) := ⟨_, rfl⟩
    by_cases h2 : kd = 2
    · rw [if_pos h2]
      have b2 : (kd == 2) = true := by simpa using h2
      have HQ : Hid _ := h2
      clear h2 hk hkd
      simp only
      rw [← hyl.out] at htk ⊢
      go_enter Try.func53, Try.ntmps53
      go_wp2_with fail
      rw [← hW, ← hRe]
      have HRE : Hid _ := hRe
      clear hW hRe
      refine hq.mono ?_
      rintro r w1 ⟨rfl, hw⟩
      subst hw
      go_wp2_with fail
      refine hwi.mono ?_
      rintro r w2 ⟨rfl, hw⟩
      subst hw
      go_wp2_with fail
      refine htk.mono ?_
      rintro r w3 ⟨L', ya, yc, rfl, hL, hN, hS, hK, ho, hold⟩
      have hR3 := hK.at HR.out hRX
      have HOD : Hid (OutD w3 base L L' Y (.slice ya yl yc)) := ⟨by rw [← hyl.out]; exact ho, hold⟩
      have HS : Hid _ := hS.le HB0.out.size
      have hK := Keeps.after HB0.out hK
      obtain ⟨⟨y0, y1⟩, yf⟩ := cells2r hR3
      have yf0 := yf 0
      have yf1 := yf 1
      clear yf htk
      obtain ⟨⟨z0, z1⟩, _⟩ := cells2r (set2r hR3 (.int .i64 0) (.slice ya yl yc))
      go_wp2_with fail
      refine bodyPost_ret (v := .agg #[.int .i64 0, .slice ya yl yc]) (by simp [results, Try.results53, go_sem, z0, z1]) rfl ⟨L', ya, yc, rfl, hL, hN.fill hR3 _ _, HS.out, hK.fill (Nat.le_of_eq HRE.out.symm) _ _, HOD.out.fill hR3 _ _⟩
    · rw [if_neg h2]
      have b2 : (kd == 2) = false := by simpa using h2
      by_cases h3 : kd = 3
      · rw [if_pos h3]
        have b3 : (kd == 3) = true := by simpa using h3
        have HQ : Hid _ := h3
        clear h2 h3 hk hkd
        rw [← hyl.out] at htk
        go_enter Try.func53, Try.ntmps53
        go_wp2_with fail
        rw [← hW, ← hRe]
        have HRE : Hid _ := hRe
        clear hW hRe
        refine hq.mono ?_
        rintro r w1 ⟨rfl, hw⟩
        subst hw
        go_wp2_with fail
        refine hwi.mono ?_
        rintro r w2 ⟨rfl, hw⟩
        subst hw
        go_wp2_with fail
        refine htk.mono ?_
        rintro r w3 ⟨L', ya, yc, rfl, hL, hN, hS, hK, ho, hold⟩
        have hR3 := hK.at HR.out hRX
        have HS : Hid _ := hS.le HB0.out.size
        have hK := Keeps.after HB0.out hK
        obtain ⟨⟨y0, y1⟩, yf⟩ := cells2r hR3
        have yf0 := yf 0
        have yf1 := yf 1
        clear yf htk ho hold
        obtain ⟨⟨z0, z1⟩, _⟩ := cells2r (set2r hR3 (.int .i64 0) (.slice none 0 0))
        go_wp2_with fail
        refine bodyPost_ret (v := .agg #[.int .i64 0, .slice none 0 0]) (by simp [results, Try.results53, go_sem, z0, z1]) rfl ⟨L', none, 0, rfl, hL, hN.fill hR3 _ _, HS.out, hK.fill (Nat.le_of_eq HRE.out.symm) _ _, (OutD.nil w3 base L L').fill hR3 _ _⟩
      · rw [if_neg h3]
        have b3 : (kd == 3) = false := by simpa using h3
        have b4 : (kd == 4) = true := by
          have : kd = 4 := by omega
          simpa using this
        clear h2 h3 hk hkd htk
        have hq2 := hq
        by_cases h4 : 64 ≤ m
        · rw [if_pos h4]
          have h4i : (64 : Int) ≤ (m : Int) := by omega
          go_enter Try.func53, Try.ntmps53
          go_wp2_with fail
          rw [← hW, ← hRe]
          have HRE : Hid _ := hRe
          clear hW hRe
          refine hq.mono ?_
          rintro r w1 ⟨rfl, hw⟩
          subst hw
          go_wp2_with fail
          refine hwi.mono ?_
          rintro r w2 ⟨rfl, hw⟩
          subst hw
          go_wp2_with fail
          refine hq2.mono ?_
          rintro r w3 ⟨rfl, hw⟩
          subst hw
          obtain ⟨⟨z0, z1⟩, _⟩ := cells2r (set2r HR.out (.int .i64 9) (.slice none 0 0))
          go_wp2_with fail
          refine bodyPost_ret (v := .agg #[.int .i64 9, .slice none 0 0]) (by simp [results, Try.results53, go_sem, z0, z1]) rfl ⟨L, none, 0, rfl, rfl, hNW.fill HR.out _ _, SubD.refl _ _, HK0.out.fill (Nat.le_of_eq HRE.out.symm) _ _, (OutD.nil w3 base L L).fill HR.out _ _⟩
        · rw [if_neg h4]
          have h4i : ¬ (64 : Int) ≤ (m : Int) := by omega
          have hrw := hNW.row hi hd
          have hbm : ((L[i]).bag d).2.length = m := by rw [hbl]; exact hm.out.symm
          have hpl : p < ((L[i]).bag d).2.length := by rw [hbm]; exact hpm
          obtain ⟨⟨yy, u⟩, hyu⟩ : ∃ q, ((L[i]).bag d).2[p]? = some q := ⟨_, List.getElem?_eq_getElem hpl⟩
          have hyy : Y = yy := by rw [hY.out, ← h.bag i hi d hd, List.getD_eq_getElem?_getD, List.getElem?_map, hyu]; rfl
          have hud : W.ownsRow base 5 1 u yy.length (yy.map (.int .u8)) := hNW.dat hi hd _ (List.mem_of_getElem? hyu)
          rw [← hyy] at hud
          obtain ⟨ya, yc, hu⟩ := own_shape hud
          rw [hu] at hud
          obtain ⟨g, rfl, hg⟩ : ∃ g, av = some ⟨g, 0, none⟩ ∧ W.cell? ⟨g, p, none⟩ = some u := by
            rw [hsh] at hrw
            rcases hrw.2 with ⟨_, h0⟩ | ⟨g, c', cur, e', _⟩
            · omega
            · simp only [Value.slice.injEq] at e'
              obtain ⟨rfl, _, rfl⟩ := e'
              refine ⟨g, rfl, ?_⟩
              have := hrw.cells (g := g) rfl p u (by rw [List.getElem?_map, hyu]; rfl)
              rw [Addr.add_lit, Nat.zero_add] at this
              exact this
          rw [hu, ← hyl.out] at hg
          have hY64 := (hinv.get i d p).1
          rw [← hY.out, ← hyl.out] at hY64
          have hpi : (p : Int) < (m : Int) := by omega
          have hcp := copyB ya Y yl yc hyl.out.symm W (Ints.ofRow hud) (by omega) (by
            intro hna
            subst hna
            rcases hud.2 with ⟨e', _⟩ | ⟨g', c', cur, e', _⟩
            · simp only [Value.slice.injEq] at e'; exact e'.2.2
            · cases e')
          have HYL : Hid _ := hyl
          clear hyu hyy hu hrw hud h1 hpl hbm
          go_enter Try.func53, Try.ntmps53
          go_wp2_with fail
          rw [← hW, ← hRe]
          have HRE : Hid _ := hRe
          clear hW hRe
          refine hq.mono ?_
          rintro r w1 ⟨rfl, hw⟩
          subst hw
          go_wp2_with fail
          refine hwi.mono ?_
          rintro r w2 ⟨rfl, hw⟩
          subst hw
          go_wp2_with fail
          refine hq2.mono ?_
          rintro r w3 ⟨rfl, hw⟩
          subst hw
          go_wp2_with fail
          refine hcp.mono ?_
          rintro r w4 ⟨ua, uc, rfl, hu4, hb4⟩
          have hput := put_net X base i d s L w4 (hNW.moved hb4) hi hd (Nat.le_trans hbs hb4.size) (by have := hm.out; omega) Y ua uc w3.heap.size (by rw [← hyl.out]; exact hu4) hbs (fun p hp q hq k hk => ((hNW.bags.dat p hp q hq).lt k hk).2) yl hyl.out.symm
          go_wp2_with fail
          refine hput.mono ?_
          rintro r w5 ⟨L', rfl, hL, hN, hS, hK⟩
          have hK := Keeps.after hb4 hK
          have hR3 := hK.at HR.out hRX
          have HS : Hid _ := hS.le HB0.out.size
          have hK := Keeps.after HB0.out hK
          obtain ⟨⟨y0, y1⟩, yf⟩ := cells2r hR3
          have yf0 := yf 0
          have yf1 := yf 1
          clear yf hput hcp
          obtain ⟨⟨z0, z1⟩, _⟩ := cells2r (set2r hR3 (.int .i64 0) (.slice none 0 0))
          go_wp2_with fail
          refine bodyPost_ret (v := .agg #[.int .i64 0, .slice none 0 0]) (by simp [results, Try.results53, go_sem, z0, z1]) rfl ⟨L', none, 0, rfl, hL, hN.fill hR3 _ _, HS.out, hK.fill (Nat.le_of_eq HRE.out.symm) _ _, (OutD.nil w5 base L L').fill hR3 _ _⟩
end Go.Proofs.Ytkamdaadgndmbaa
