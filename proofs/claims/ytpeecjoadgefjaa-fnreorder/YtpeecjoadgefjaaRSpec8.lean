import Derived.Test.YtpeecjoadgefjaaJ4
import Derived.Deep.RegionHeld3
import Derived.Deep.RegionWith
namespace Go.Proofs.Ytpeecjoadgefjaa
open Go.ChangeShapes Go.WideShapes Go.ChangeAt Go.RowKit
set_option linter.unusedVariables false

/-- The view on the way: its box O, the answer's box R, the spans in a row of the call's own. -/
structure GathB (w0 : World) (R O : Nat) (r nx : Int) (S : Sp) (av : Option Addr) (cp : Nat) (wr : World) : Prop where
  o : wr.heap[O]? = some (.cells #[.int .u64 r, .int .u64 nx, .slice av S.length cp, .int .i64 0, .int .u64 0] 44 (0, 0))
  r : wr.heap[R]? = some (.cells zeroRV 44 (0, 0))
  row : wr.ownsRow w0.heap.size 31 2 (.slice av S.length cp) S.length (flat S)
  bl : Below w0.heap.size w0 wr
theorem GathB.set {w0 wr : World} {R O : Nat} {r nx : Int} {S S' : Sp} {gg cp j : Nat} {u : Value} (h : GathB w0 R O r nx S (some ⟨gg, 0, none⟩) cp wr) (hl : S'.length = S.length) (he : (flat S).set j u = flat S') : GathB w0 R O r nx S' (some ⟨gg, 0, none⟩) cp (wr.setCell ⟨gg, j, none⟩ u) := by
  obtain ⟨cs, hcs⟩ := row_block h.row (k := gg) rfl
  have h1 := put_row h.row j u he
  refine ⟨?_, ?_, by rw [hl]; exact h1, h.bl.setCell (p := ⟨gg, j, none⟩) (h.row.lt gg rfl).1 _⟩
  · rw [heap_setCell_other _ _ _ _ (Ne.symm (type_ne hcs h.o (by decide))), hl]
    exact h.o
  · rw [heap_setCell_other _ _ _ _ (Ne.symm (type_ne hcs h.r (by decide)))]
    exact h.r
theorem GathB.keep {w0 wr w4 : World} {R O : Nat} {r nx : Int} {S : Sp} {av : Option Addr} {cp : Nat} {c d : Value} (h : GathB w0 R O r nx S av cp wr) (hg : (wr.alloc (.cells #[c, d] 31)).grownBy w4 (Value.slice av S.length cp).ownBlock) {j : Nat} {cs : Array Value} {t : TypeId} (hj : wr.heap[j]? = some (.cells cs t (0, 0))) (ht : t ≠ 31) : w4.heap[j]? = some (.cells cs t (0, 0)) := by
  have hjl : j < wr.heap.size := (Array.getElem?_eq_some_iff.1 hj).1
  refine (hg.block j (by simp; omega) (fun e9 => ?_)).trans ((Below.heap_alloc _ _ _ hjl).trans hj)
  obtain ⟨c9, hc9⟩ := row_block h.row e9.symm
  exact type_ne hj hc9 ht rfl
theorem GathB.push {w0 wr w4 : World} {R O : Nat} {r nx : Int} {S S' : Sp} {av : Option Addr} {cp g cap : Nat} {c d : Value} (h : GathB w0 R O r nx S av cp wr) (hO : w0.heap.size ≤ O) (hRO : R ≠ O) (hg : (wr.alloc (.cells #[c, d] 31)).grownBy w4 (Value.slice av S.length cp).ownBlock)
    (hrow : w4.ownsRow w0.heap.size 31 2 (.slice (some ⟨g, 0, none⟩) S'.length cap) S'.length (flat S')) :
    GathB w0 R O r nx S' (some ⟨g, 0, none⟩) cap (w4.setCell ⟨O, 2, none⟩ (.slice (some ⟨g, 0, none⟩) S'.length cap)) := by
  have hO4 := h.keep hg h.o (by decide)
  have hR4 := h.keep hg h.r (by decide)
  obtain ⟨cs, hcs⟩ := row_block hrow (k := g) rfl
  have hgO : g ≠ O := type_ne hcs hO4 (by decide)
  have hs := h.bl.size
  refine ⟨heap_setCell_same w4 O 2 _ _ _ hO4, (heap_setCell_other _ _ _ _ hRO).trans hR4, row_stays hrow fun k hk => heap_setCell_other _ _ _ _ ?_, ?_⟩
  · have e : g = k := by simpa [Value.ownBlock] using hk
    rw [← e]; exact hgO
  · exact ((h.bl.alloc hs (.cells #[c, d] 31)).grown hg (by simp; omega) (fun j hj => (h.row.lt j hj).1)).setCell (p := ⟨O, 2, none⟩) hO _
theorem heldRun_none {f : Int → Option Int} : ∀ (k : Nat) (x : Int) (S : Sp), (∀ t : Nat, t < k → f (x + t) = none) → heldRun f k x S = S := by
  intro k
  induction k with
  | zero => intro x S _; rfl
  | succ k ih =>
    intro x S h
    have h0 := h 0 (by omega)
    simp at h0
    rw [heldRun, h0]
    simp only [Option.isSome_none, Bool.false_eq_true, if_false]
    exact ih (x + 1) S fun t ht => by
      have := h (t + 1) (by omega)
      rw [show x + 1 + (t : Int) = x + ((t + 1 : Nat) : Int) by omega]
      exact this

set_option maxHeartbeats 1000000 in
set_option maxRecDepth 100000 in
theorem l5View_any (w : World) (B base : Nat) (x : Int) (z : Nat) (s : RB) (v : Value) (got : List Int) (h : SpB w B base x z s v got) (hff : s.hf = 0 → s.fin = 0) :
    Calls Try.prog 62 #[.pointer (some ⟨B, 0, none⟩)] w fun e w' => ∃ av cp, e = .returned (.agg (viewV z s av cp)) ∧ w'.ownsRow w.heap.size 31 2 (.slice av (heldR z s).length cp) (heldR z s).length (flat (heldR z s)) ∧ Below w.heap.size w w' := by
  have hBl := h.lt
  have hz1 := h.got.z1
  have hz2 := h.got.z2
  have hx0 := h.got.x0
  have hx1 := h.got.x1
  have hlo := h.got.lo
  have hhi := h.got.hi
  have hlen := h.got.len
  have hf := h.got.hf
  have hrl := runLen_le s.f z s.read
  have HNON : Hid (∀ t, s.read ≤ t → (s.f t = none ↔ got.getD (t - x).toNat (-1) < 0)) := fun t ht => h.got.none_iff ht
  have HB : Hid (SpB w B base x z s v got) := h
  have hR0 := heap_alloc_new w (.cells zeroRV 44)
  have hb0 : Below w.heap.size w (w.alloc (.cells zeroRV 44)) := (Below.refl _ _).alloc (Nat.le_refl _) _
  obtain ⟨V, hV⟩ : ∃ V, V = w.alloc (.cells zeroRV 44) := ⟨_, rfl⟩
  have hs : Hid (V.heap.size = w.heap.size + 1) := by rw [hV]; unfold Hid; simp
  rw [← hV] at hR0 hb0
  obtain ⟨R, hR⟩ : ∃ R, R = w.heap.size := ⟨_, rfl⟩
  rw [← hR] at hR0
  have hRw : w.heap.size ≤ R := by omega
  have hRV : R < V.heap.size := by have := hs.out; omega
  obtain ⟨r, hr⟩ : ∃ r, Hid (r = s.read) := ⟨_, rfl⟩
  obtain ⟨fin, hfin⟩ : ∃ fin, Hid (fin = s.fin) := ⟨_, rfl⟩
  obtain ⟨ℓ, hℓ⟩ : ∃ ℓ, Hid (ℓ = runLen s.f z s.read) := ⟨_, rfl⟩
  rw [← hℓ.out] at hrl
  rw [← hr.out] at hlo hhi hlen HNON
  obtain ⟨nx, hnx⟩ : ∃ nx, Hid (nx = r + (ℓ : Nat)) := ⟨_, rfl⟩
  obtain ⟨H, hH⟩ : ∃ H, Hid (H = heldR z s) := ⟨_, rfl⟩
  obtain ⟨kb, hkb⟩ : ∃ kb, Hid (kb = decide (s.hf = 1)) := ⟨_, rfl⟩
  have HVB : Hid (SpB V B base x z s v got) := h.below hb0
  obtain ⟨⟨c0, c1, c2, c3, c4, c5⟩, cf⟩ := HVB.out.cells
  obtain ⟨NX, hNX⟩ : ∃ NX, Hid (NX = r - x + (ℓ : Nat)) := ⟨_, rfl⟩
  have L1 : Calls Try.prog 71 #[.pointer (some ⟨B, 0, none⟩)] V.drew fun e w' => e = .returned (.int .u64 r) ∧ SpB w' B base x z s v got ∧ Below w.heap.size w w' ∧ V.heap.size ≤ w'.heap.size ∧ w'.heap[R]? = some (.cells zeroRV 44 (0, 0)) := by
    refine (l5Read_any V.drew B base x z s v got ⟨HVB.out.blk, HVB.out.row, HVB.out.got⟩).mono ?_
    rintro e w' ⟨rfl, m, rfl⟩
    exact ⟨by rw [hr.out], ⟨HVB.out.blk, HVB.out.row, HVB.out.got⟩, drewsN hb0.drew m, Nat.le_refl _, hR0⟩
  have hVA := HVB.out.alloc (.cells #[.int .u64 0, .int .u64 0, .slice none 0 0, .int .i64 0, .int .u64 0] 44)
  have hbA := hb0.alloc hb0.size (.cells #[.int .u64 0, .int .u64 0, .slice none 0 0, .int .i64 0, .int .u64 0] 44)
  have hRA := (Below.heap_alloc V (.cells #[.int .u64 0, .int .u64 0, .slice none 0 0, .int .i64 0, .int .u64 0] 44) R hRV).trans hR0
  have hOA := heap_alloc_new V (.cells #[.int .u64 0, .int .u64 0, .slice none 0 0, .int .i64 0, .int .u64 0] 44)
  have L1' : Calls Try.prog 71 #[.pointer (some ⟨B, 0, none⟩)] (V.alloc (.cells #[.int .u64 0, .int .u64 0, .slice none 0 0, .int .i64 0, .int .u64 0] 44)).drew fun e w' => e = .returned (.int .u64 r) ∧ SpB w' B base x z s v got ∧ Below w.heap.size w w' ∧ w'.heap[R]? = some (.cells zeroRV 44 (0, 0)) ∧ w'.heap[V.heap.size]? = some (.cells #[.int .u64 0, .int .u64 0, .slice none 0 0, .int .i64 0, .int .u64 0] 44) := by
    refine (l5Read_any (V.alloc (.cells #[.int .u64 0, .int .u64 0, .slice none 0 0, .int .i64 0, .int .u64 0] 44)).drew B base x z s v got ⟨hVA.blk, hVA.row, hVA.got⟩).mono ?_
    rintro e w' ⟨rfl, m, rfl⟩
    exact ⟨by rw [hr.out], ⟨hVA.blk, hVA.row, hVA.got⟩, ⟨hbA.os, hbA.tape, hbA.output, hbA.size, hbA.block⟩, hRA, hOA⟩
  clear hVA hbA hRA hOA
  have HNX : Hid (∀ w1, SpB w1 B base x z s v got → Calls Try.prog 69 #[.pointer (some ⟨B, 0, none⟩)] w1 fun e w' => e = .returned (.int .i64 NX) ∧ w1 = w') := by
    intro w1 h1
    refine (l5Next_any w1 B base x z s v got h1).mono ?_
    rintro e w' ⟨rfl, rfl⟩
    exact ⟨by rw [hNX.out, hℓ.out, hr.out], rfl⟩
  have HZ : Hid (∀ w1 : World, _) := fun w1 => cells5r (box_new w1 (.cells #[.int .u64 0, .int .u64 0, .slice none 0 0, .int .i64 0, .int .u64 0] 44) w1.heap.size rfl)
  have HG1 : Hid (∀ (w1 : World), Below w.heap.size w w1 → V.heap.size ≤ w1.heap.size → w1.heap[R]? = some (.cells zeroRV 44 (0, 0)) → GathB w R w1.heap.size r nx [] none 0 (w1.alloc (.cells #[.int .u64 r, .int .u64 nx, .slice none 0 0, .int .i64 0, .int .u64 0] 44)) ∧ w.heap.size ≤ w1.heap.size ∧ R ≠ w1.heap.size) := by
    intro w1 hb1 hs1 hR1
    have hne : R ≠ w1.heap.size := by omega
    exact ⟨⟨box_new w1 _ w1.heap.size rfl, (Below.heap_alloc _ _ _ (by omega)).trans hR1, ⟨rfl, .inl ⟨rfl, rfl⟩⟩, hb1.alloc hb1.size _⟩, hb1.size, hne⟩
  have HG2 : Hid (∀ (w1 : World), Below w.heap.size w w1 → w1.heap[R]? = some (.cells zeroRV 44 (0, 0)) → w1.heap[V.heap.size]? = some (.cells #[.int .u64 0, .int .u64 0, .slice none 0 0, .int .i64 0, .int .u64 0] 44) → GathB w R V.heap.size r nx [] none 0 (((((w1.setCell ⟨V.heap.size, 0, none⟩ (.int .u64 r)).setCell ⟨V.heap.size, 1, none⟩ (.int .u64 nx)).setCell ⟨V.heap.size, 2, none⟩ (.slice none 0 0)).setCell ⟨V.heap.size, 3, none⟩ (.int .i64 0)).setCell ⟨V.heap.size, 4, none⟩ (.int .u64 0)) ∧ w.heap.size ≤ V.heap.size ∧ R ≠ V.heap.size) := by
    intro w1 hb1 hR1 hO1
    have hne : R ≠ V.heap.size := by omega
    refine ⟨⟨set5r hO1 _ _ _ _ _, (fill5_other _ hne _ _ _ _ _).trans hR1, ⟨rfl, .inl ⟨rfl, rfl⟩⟩, fill5_below hb1 (by have := hb0.size; omega) _ _ _ _ _⟩, by have := hb0.size; omega, hne⟩
  have e1 : IntKind.u64.wrap NX = NX := by rw [IntKind.wrap_u64, hNX.out]; omega
  have e2 : IntKind.u64.wrap (x + NX) = nx := by rw [IntKind.wrap_u64, hNX.out, hnx.out]; omega
  unfold viewV
  rw [← hH.out, ← hℓ.out, ← hr.out, ← hnx.out, ← hfin.out]
  obtain ⟨hf', hhf⟩ : ∃ x, Hid (x = s.hf) := ⟨_, rfl⟩
  rw [← hhf.out]
  clear c1 c2 c3 c4 c5 cf h
  have HF : Hid _ := hf
  have HFF : Hid _ := hff
  clear hf hff
  go_enter Try.func62, Try.ntmps62
  go_upto_region 1 with fail
  rw [← hV, ← hR]
  clear hV hR
  have hBV : B ≠ V.heap.size := by have := hb0.size; omega
  go_cut [3] from 6 to 16 (fun ov wx => ∃ O, ov = .pointer (some ⟨O, 0, none⟩) ∧ GathB w R O r nx [] none 0 wx ∧ w.heap.size ≤ O ∧ R ≠ O)
  case first =>
    go_region_held3 (fun w' => w'.cell? ⟨B, 0, none⟩ = some (.int .u64 x)) (first | with_reducible assumption | (rw [cell_fill5 _ hBV]; with_reducible assumption) | go_keep | assumption)
      (first
        | (go_at_call 71; with_reducible (refine Calls.mono L1 ?_); rintro e w1 ⟨rfl, hS1, hB1, hs1, hR1⟩; have q0 := hS1.cells.1.1; have L2 := HNX.out w1 hS1; have L3 := HNX.out (w1.alloc (.cells #[.int .u64 0, .int .u64 0, .slice none 0 0, .int .i64 0, .int .u64 0] 44)) (hS1.alloc _); obtain ⟨⟨g0, g1, g2, g3, g4⟩, gf⟩ := HZ.out w1; have gf0 := gf 0; have gf1 := gf 1; have gf2 := gf 2; have gf3 := gf 3; have gf4 := gf 4; have hG := HG1.out w1 hB1 hs1 hR1; have hBl1 := hS1.lt)
        | (go_at_call 71; with_reducible (refine Calls.mono L1' ?_); rintro e w1 ⟨rfl, hS1, hB1, hR1, hO1⟩; have q0 := hS1.cells.1.1; have L2 := HNX.out w1 hS1; obtain ⟨⟨g0, g1, g2, g3, g4⟩, gf⟩ := cells5r hO1; have gf0 := gf 0; have gf1 := gf 1; have gf2 := gf 2; have gf3 := gf 3; have gf4 := gf 4; have hG := HG2.out w1 hB1 hR1 hO1)
        | (go_at_call 69; with_reducible (refine Calls.mono L2 ?_); rintro e w2 ⟨rfl, hw2⟩; subst hw2)
        | (go_at_call 69; with_reducible (refine Calls.mono L3 ?_); rintro e w2 ⟨rfl, hw2⟩; subst hw2))
    all_goals
      go_wp2_with fail
      go_meet
      case rel => exact ⟨_, rfl, hG⟩
  case rest =>
  obtain ⟨O, rfl, hG0, hOw, hRO⟩ := hcut
  have hOB : O ≠ B := by omega
  have hBO : B ≠ O := Ne.symm hOB
  obtain ⟨ρ, hρ⟩ : ∃ ρ : Nat, Hid ((ρ : Int) = r - x) := ⟨(r - x).toNat, by unfold Hid; omega⟩
  have hρ2 : ρ ≤ 20000000 := by have := hρ.out; omega
  obtain ⟨a2, cap2, hve, _⟩ := HB.out.shape
  obtain ⟨L, hL⟩ : ∃ L, Hid (L = got.length) := ⟨_, rfl⟩
  rw [← hL.out] at hlen
  have HC : Hid (∀ W, Below w.heap.size w W → (W.cell? ⟨B, 0, none⟩ = some (.int .u64 x) ∧ W.cell? ⟨B, 2, none⟩ = some (.slice a2 L cap2) ∧ W.cell? ⟨B, 3, none⟩ = some (.int .i64 (ρ : Int)) ∧ W.cell? ⟨B, 4, none⟩ = some (.int .u64 fin) ∧ W.cell? ⟨B, 5, none⟩ = some (.bool kb)) ∧ W.ownsRow base 2 1 (.slice a2 L cap2) L (got.map (.int .i64))) := by
    intro W hW
    have h1 := HB.out.below hW
    obtain ⟨⟨c0, c1, c2, c3, c4, c5⟩, _⟩ := h1.cells
    have h2 := h1.row
    rw [hve, ← hL.out] at h2 c2
    exact ⟨⟨c0, c2, by rw [c3, hρ.out, hr.out], by rw [c4, hfin.out], by rw [c5, hkb.out]⟩, h2⟩
  clear hve L1 L1' c0
  have HR : Hid (H = heldRun s.f z r []) := by unfold Hid; rw [hH.out, hr.out]; rfl
  have HG0 : Hid _ := hG0
  obtain ⟨⟨c0, c2, c3, c4, c5⟩, _⟩ := HC.out wc hG0.bl
  clear c0 c2 c4 c5 hG0
  go_wp2_with fail
  go_loopw [4] (fun iv wr => ∃ (k : Nat) (S : Sp) (av : Option Addr) (cp : Nat), iv = .int .i64 ((ρ + k : Nat) : Int) ∧ k ≤ z ∧ S.length ≤ k ∧ Hid (heldRun s.f z r [] = heldRun s.f (z - k) (r + k) S) ∧ Hid (GathB w R O r nx S av cp wr)) (fun iv _ => L - (intOf iv).toNat)
  case atStart => exact ⟨0, [], none, 0, by simp, Nat.zero_le _, Nat.le_refl _, by unfold Hid; simp, HG0⟩
  case round =>
  clear HG0 c3
  obtain ⟨k, S, av, cp, rfl, hk, hSl, HS, HG⟩ := hrel
  obtain ⟨⟨c0, c2, c3, c4, c5⟩, hrow2⟩ := HC.out wr HG.out.bl
  obtain ⟨⟨o0, o1, o2, o3, o4⟩, of⟩ := cells5r HG.out.o
  obtain ⟨n, hn⟩ : ∃ n, Hid (S.length = n) := ⟨_, rfl⟩
  rw [hn.out] at o2 hSl
  have hRowS := HG.out.row
  rw [hn.out] at hRowS
  obtain ⟨i, hi⟩ : ∃ i, i = ρ + k := ⟨_, rfl⟩
  rw [← hi]
  have hi3 : i ≤ 30000000 := by omega
  by_cases hlt : i < L
  case neg =>
    have hd : ¬ (i : Int) < (L : Int) := by omega
    have HE : Hid (H = S) := by
      unfold Hid
      rw [HR.out, HS.out]
      refine heldRun_none _ _ _ fun t ht => (HNON.out _ (by omega)).2 ?_
      rw [List.getD_eq_getElem?_getD, List.getElem?_eq_none (by rw [← hL.out]; have := hρ.out; omega)]
      decide
    have HI : Hid _ := hi
    clear hi
    obtain ⟨⟨r0, r1, r2, r3, r4⟩, rf⟩ := cells5r HG.out.r
    have rf0 := rf 0
    have rf1 := rf 1
    have rf2 := rf 2
    have rf3 := rf 3
    have rf4 := rf 4
    have of3 := of 3
    have of4 := of 4
    clear rf of
    cases kb
    · have h0 : s.hf = 0 := by
        rcases HF.out with h | h
        · exact h
        · have := hkb.out; rw [h] at this; simp at this
      obtain ⟨⟨z0, z1, z2, z3, z4⟩, _⟩ := cells5r (set5r HG.out.r (.int .u64 r) (.int .u64 nx) (.slice av n cp) (.int .i64 0) (.int .u64 0))
      have HF0 : Hid _ := h0
      clear h0
      go_wp2_with fail
      refine bodyPost_ret (v := .agg #[.int .u64 r, .int .u64 nx, .slice av n cp, .int .i64 0, .int .u64 0]) (by simp [results, Try.results62, go_sem, z0, z1, z2, z3, z4]) rfl ⟨av, cp, ?_, ?_, fill5_below HG.out.bl hRw _ _ _ _ _⟩
      · rw [HE.out, hn.out, hhf.out, hfin.out, HF0.out, HFF.out HF0.out]
      · rw [HE.out, hn.out]
        exact row_stays hRowS fun j hj => fill5_other _ (by
          obtain ⟨c9, hc9⟩ := row_block hRowS hj
          exact type_ne hc9 HG.out.r (by decide)) _ _ _ _ _
    · have h0 : s.hf = 1 := by have := hkb.out; simpa using this.symm
      have hR3 : ((wr.setCell ⟨O, 3, none⟩ (.int .i64 1)).setCell ⟨O, 4, none⟩ (.int .u64 fin)).heap[R]? = some (.cells zeroRV 44 (0, 0)) := by rw [heap_setCell_other _ _ _ _ hRO, heap_setCell_other _ _ _ _ hRO]; exact HG.out.r
      obtain ⟨⟨z0, z1, z2, z3, z4⟩, _⟩ := cells5r (set5r hR3 (.int .u64 r) (.int .u64 nx) (.slice av n cp) (.int .i64 1) (.int .u64 fin))
      have hbl3 : Below w.heap.size w ((wr.setCell ⟨O, 3, none⟩ (.int .i64 1)).setCell ⟨O, 4, none⟩ (.int .u64 fin)) := (HG.out.bl.setCell (p := ⟨O, 3, none⟩) hOw _).setCell (p := ⟨O, 4, none⟩) hOw _
      have HF0 : Hid _ := h0
      have hOR : O ≠ R := Ne.symm hRO
      clear h0
      go_wp2_with fail
      refine bodyPost_ret (v := .agg #[.int .u64 r, .int .u64 nx, .slice av n cp, .int .i64 1, .int .u64 fin]) (by simp [results, Try.results62, go_sem, z0, z1, z2, z3, z4]) rfl ⟨av, cp, ?_, ?_, fill5_below hbl3 hRw _ _ _ _ _⟩
      · rw [HE.out, hn.out, hhf.out, HF0.out]
      · rw [HE.out, hn.out]
        refine row_stays hRowS fun j hj => ?_
        obtain ⟨c9, hc9⟩ := row_block hRowS hj
        have h1 : j ≠ R := type_ne hc9 HG.out.r (by decide)
        have h2 : j ≠ O := type_ne hc9 HG.out.o (by decide)
        rw [fill5_other _ h1, heap_setCell_other _ _ _ _ h2, heap_setCell_other _ _ _ _ h2]
  case pos =>
  have hKg : i < got.length := by rw [← hL.out]; exact hlt
  have hiL : (i : Int) < (L : Int) := by omega
  obtain ⟨g, hg⟩ : ∃ g, a2 = some ⟨g, 0, none⟩ := by
    rcases hrow2.2 with ⟨h', h0⟩ | ⟨g, cap', cur, h', _⟩
    · omega
    · simp only [Value.slice.injEq] at h'
      exact ⟨g, h'.1⟩
  subst hg
  obtain ⟨u, hu⟩ : ∃ u, Hid (got.getD i (-1) = u) := ⟨_, rfl⟩
  have y0 : wr.cell? ⟨g, i, none⟩ = some (.int .i64 u) := by
    rw [hrow2.cellAt i (by omega)]
    simp only [List.getElem?_map, List.getElem?_eq_getElem hKg, Option.map_some, Option.some.injEq, Value.int.injEq, true_and]
    rw [← hu.out, List.getD_eq_getElem?_getD, List.getElem?_eq_getElem hKg]
    rfl
  obtain ⟨q, hq⟩ : ∃ q, Hid (q = x + (i : Int)) := ⟨_, rfl⟩
  have hqk : Hid (q = r + (k : Int)) := by unfold Hid; have := hq.out; have := hρ.out; omega
  have hqi : (q - x).toNat = i := by have := hq.out; omega
  have hfq : (s.f q = none) ↔ u < 0 := by
    have h1 := HNON.out q (by have := hqk.out; omega)
    rw [hqi, hu.out] at h1
    exact h1
  have hkz : k < z := by have := hρ.out; omega
  have hiw : IntKind.u64.wrap (i : Int) = (i : Int) := by rw [IntKind.wrap_u64]; omega
  have hqw : IntKind.u64.wrap (x + (i : Int)) = q := by rw [IntKind.wrap_u64, hq.out]; omega
  have hq0 : 0 ≤ q := by have := hq.out; omega
  have hq1 : q + 1 ≤ 9000000000000010000 := by have := hq.out; omega
  have hwq : IntKind.u64.wrap (q + 1) = q + 1 := by rw [IntKind.wrap_u64]; omega
  obtain ⟨Z', hZ'⟩ : ∃ R, Hid (z - k = R + 1) := ⟨z - k - 1, by unfold Hid; omega⟩
  have HS2 : Hid (heldRun s.f z r [] = heldRun s.f (z - (k + 1)) (r + ((k + 1 : Nat) : Int)) (if (s.f q).isSome = true then addLast S q else S)) := by
    unfold Hid
    rw [HS.out, hZ'.out, heldRun, ← hqk.out, show z - (k + 1) = Z' by have := hZ'.out; omega, show r + ((k + 1 : Nat) : Int) = q + 1 by have := hqk.out; omega]
  have HI : Hid _ := hi
  clear hi
  by_cases hu0 : u < 0
  case pos =>
    have d9 : decide (u < 0) = true := by rw [decide_eq_true_iff]; exact hu0
    have HS3 : Hid (heldRun s.f z r [] = heldRun s.f (z - (k + 1)) (r + ((k + 1 : Nat) : Int)) S) := by unfold Hid; rw [HS2.out, hfq.2 hu0]; rfl
    clear hfq
    go_wp2_with fail
    go_roundw
    case rel => exact ⟨k + 1, S, av, cp, by rw [HI.out]; go_num, by omega, by rw [hn.out]; omega, HS3, HG⟩
    case measure => simp [intOf]; omega
  case neg =>
  have d9 : decide (u < 0) = false := by rw [decide_eq_false_iff_not]; exact hu0
  have HS3 : Hid (heldRun s.f z r [] = heldRun s.f (z - (k + 1)) (r + ((k + 1 : Nat) : Int)) (addLast S q)) := by
    unfold Hid
    rw [HS2.out]
    cases h9 : s.f q with
    | none => exact absurd (hfq.1 h9) hu0
    | some y => rfl
  clear hfq
  have of2 := of 2
  have hOl : O < wr.heap.size := (Array.getElem?_eq_some_iff.1 HG.out.o).1
  clear of
  by_cases hA : 0 < n ∧ (lastP S).2 = q
  case pos =>
    obtain ⟨p, hp⟩ : ∃ p, n = p + 1 := ⟨n - 1, by omega⟩
    subst hp
    obtain ⟨gg, hav, hgg⟩ : ∃ gg, av = some ⟨gg, 0, none⟩ ∧ w.heap.size ≤ gg := by
      rcases hRowS.2 with ⟨e, h0⟩ | ⟨g', c', cur, e, hb', _⟩
      · omega
      · simp only [Value.slice.injEq] at e
        exact ⟨g', e.1, hb'⟩
    subst hav
    have hql : p < S.length := by rw [hn.out]; omega
    have hlp : lastP S = S[p] := by unfold lastP; rw [hn.out, Nat.add_sub_cancel, List.getD_eq_getElem?_getD, List.getElem?_eq_getElem hql]; rfl
    obtain ⟨lo, hlo'⟩ : ∃ lo, lastP S = (lo, q) := ⟨(lastP S).1, by rw [← hA.2]⟩
    have hSq : S[p] = (lo, q) := by rw [← hlp, hlo']
    have hp1 : wr.cell? ⟨gg, p * 2 + 1, none⟩ = some (.int .u64 q) := by rw [hRowS.cellAt _ (by omega), (flat_at hql).2, hSq]
    have hpf := hRowS.frozenAt (p * 2 + 1)
    have HS4 : Hid (addLast S q = S.set p (lo, q + 1)) := by unfold Hid addLast; rw [if_pos ⟨by rw [hn.out]; exact hA.1, hA.2⟩, hn.out, Nat.add_sub_cancel, hlo']
    have hst := HG.out.set (S' := S.set p (lo, q + 1)) (j := p * 2 + 1) (u := .int .u64 (q + 1)) (by simp) (by
      rw [← flat_set S p (lo, q + 1) hql]
      congr 1
      refine (List.ext_getElem? fun i => ?_)
      by_cases hi : i = p * 2
      · subst hi
        rw [(flat_at hql).1, hSq, List.getElem?_set_self (by rw [flat_length]; omega)]
      · rw [List.getElem?_set_ne (by omega)])
    have HST : Hid _ := hst
    have HA : Hid _ := hA
    have hns : (p : Int) ≤ 4096 := by omega
    clear hA hSq hlp hlo' hql hst
    go_wp2_with fail
    go_roundw
    case rel => exact ⟨k + 1, S.set p (lo, q + 1), some ⟨gg, 0, none⟩, cp, by rw [HI.out]; go_num, by omega, by rw [List.length_set, hn.out]; omega, by rw [← HS4.out]; exact HS3, HST⟩
    case measure => simp [intOf]; omega
  case neg =>
  have HS4 : Hid (addLast S q = S ++ [(q, q + 1)]) := by unfold Hid addLast; rw [if_neg (by rw [hn.out]; exact hA)]
  have HA : Hid _ := hA
  clear hA
  go_upto_region 7 with fail
  go_cut [61] from 45 to 60 (fun v wx => v = .bool false ∧ wr = wx)
  case first =>
    by_cases hn0 : n = 0
    · subst hn0
      go_wp2_with fail
      go_meet
      case rel => exact ⟨rfl, rfl⟩
    · obtain ⟨p, hp⟩ : ∃ p, n = p + 1 := ⟨n - 1, by omega⟩
      subst hp
      obtain ⟨gg, hav, hgg⟩ : ∃ gg, av = some ⟨gg, 0, none⟩ ∧ w.heap.size ≤ gg := by
        rcases hRowS.2 with ⟨e, h0⟩ | ⟨g', c', cur, e, hb', _⟩
        · omega
        · simp only [Value.slice.injEq] at e
          exact ⟨g', e.1, hb'⟩
      subst hav
      have hql : p < S.length := by rw [hn.out]; omega
      have hlp : lastP S = S[p] := by unfold lastP; rw [hn.out, Nat.add_sub_cancel, List.getD_eq_getElem?_getD, List.getElem?_eq_getElem hql]; rfl
      obtain ⟨hi9, hh9⟩ : ∃ y, Hid ((lastP S).2 = y) := ⟨_, rfl⟩
      have hp1 : wr.cell? ⟨gg, p * 2 + 1, none⟩ = some (.int .u64 hi9) := by rw [hRowS.cellAt _ (by omega), (flat_at hql).2, ← hlp, hh9.out]
      have d10 : (hi9 == q) = false := by
        have := fun h => HA.out ⟨by omega, h⟩
        rw [hh9.out] at this
        simpa using this
      clear hlp hql
      go_wp2_with fail
      go_meet
      case rel => exact ⟨rfl, rfl⟩
  case rest =>
  obtain ⟨rfl, hwe⟩ := hcut
  subst hwe
  have hnb := box_new wr (.cells #[.int .u64 q, .int .u64 (q + 1)] 31) _ rfl
  have hszr := HG.out.bl.size
  have HK4 : Hid (∀ w4, (wr.alloc (.cells #[.int .u64 q, .int .u64 (q + 1)] 31)).grownBy w4 (Value.slice av n cp).ownBlock → w4.cell? ⟨O, 2, none⟩ = some (.slice av n cp) ∧ w4.frozen? ⟨O, 2, none⟩ = false) := by
    intro w4 hg4
    have e : (Value.slice av n cp).ownBlock = (Value.slice av S.length cp).ownBlock := by rw [hn.out]
    rw [e] at hg4
    have h1 := HG.out.keep hg4 HG.out.o (by decide)
    rw [hn.out] at h1
    exact ⟨Go.Joins.cell_of_block h1 2, Go.Joins.unfrozen_of_block h1 _⟩
  go_wp2_with (at_builtin; refine wpList_appSp _ (by rfl) _ _ (by rfl) w.heap.size av n cp S (by rfl) (own_alloc hRowS _) wr.heap.size q (q + 1) (by rfl) hnb (by omega) (by simp; omega) ?_; intro g9 cap' w4 ho4 hg4; obtain ⟨k2, kf2⟩ := HK4.out w4 hg4)
  have hle : (S ++ [(q, q + 1)]).length = n + 1 := by rw [List.length_append, hn.out]; rfl
  have hP := HG.out.push (S' := S ++ [(q, q + 1)]) (g := g9) (cap := cap') hOw hRO (by rw [hn.out]; exact hg4) (by rw [hle]; exact ho4)
  rw [hle] at hP
  go_roundw
  case rel => exact ⟨k + 1, S ++ [(q, q + 1)], some ⟨g9, 0, none⟩, cap', by rw [HI.out]; go_num, by omega, by rw [hle]; omega, by rw [← HS4.out]; exact HS3, hP⟩
  case measure => simp [intOf]; omega
end Go.Proofs.Ytpeecjoadgefjaa
