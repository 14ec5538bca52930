import Derived.Test.YtpeecjoadgefjaaJ11
import Derived.Test.YtpeecjoadgefjaaSpanPlace
import Derived.Test.YtpeecjoadgefjaaSpanMath5
namespace Go.Proofs.Ytpeecjoadgefjaa
open Go.ChangeShapes Go.WideShapes Go.ChangeAt Go.RowKit
set_option linter.unusedVariables false

theorem spans_of {w : World} {base : Nat} {e : TypeId} {a : Option Addr} {n cap : Nat} {S : Sp} (hn : S.length = n) (h : w.ownsRow base e 2 (.slice a n cap) n (flat S)) : Spans w a S := by
  subst hn
  rcases h.2 with ⟨e0, h0⟩ | ⟨g, cp', cur, e0, _⟩
  · exact .inl (List.eq_nil_of_length_eq_zero h0)
  · simp only [Value.slice.injEq] at e0
    obtain ⟨rfl, _, rfl⟩ := e0
    exact Spans.owned h
abbrev rvC (r nx : Int) (hv : Value) (hf fin : Int) : Array Value := #[.int .u64 r, .int .u64 nx, hv, .int .i64 hf, .int .u64 fin]
set_option maxHeartbeats 1000000 in
theorem eqReorderView_same (r nx hf fin : Int) (a a' : Option Addr) (S : Sp) (n cap cap' : Nat) (w : World) (hn : S.length = n) (hz : Spans w a S) (hz' : Spans w a' S) (hfit : Fits S) (hl : n ≤ 1048576) :
    Calls Try.prog 36 #[.agg (rvC r nx (.slice a n cap) hf fin), .agg (rvC r nx (.slice a' n cap') hf fin)] w fun e w' => e = .returned (.bool true) ∧ Below w.heap.size w w' := by
  obtain ⟨W, hW⟩ : ∃ W, W = (w.alloc (.cells (rvC r nx (.slice a n cap) hf fin) 44)).alloc (.cells (rvC r nx (.slice a' n cap') hf fin) 44) := ⟨_, rfl⟩
  have hb : Below w.heap.size w W := by rw [hW]; exact ((Below.refl _ _).alloc (Nat.le_refl _) _).alloc (by simp) _
  have h1 : W.heap[w.heap.size]? = some (.cells (rvC r nx (.slice a n cap) hf fin) 44) := by rw [hW]; exact (Below.heap_alloc _ _ _ (by simp)).trans (box_new _ _ _ rfl)
  have h2 : W.heap[w.heap.size + 1]? = some (.cells (rvC r nx (.slice a' n cap') hf fin) 44) := by rw [hW]; exact box_new _ _ _ (by simp)
  have hsz : W.heap.size = w.heap.size + 2 := by rw [hW]; simp
  have hcl := eqSpanS_same a a' S cap cap' W (hz.moved hb) (hz'.moved hb) hfit (by omega)
  rw [hn] at hcl
  obtain ⟨E, hEe⟩ : ∃ E, E = w.heap.size := ⟨_, rfl⟩
  obtain ⟨F, hFe⟩ : ∃ E, E = w.heap.size + 1 := ⟨_, rfl⟩
  rw [← hEe] at h1
  rw [← hFe] at h2
  have hEl : E < W.heap.size := by omega
  have hFl : F < W.heap.size := by omega
  obtain ⟨⟨k0, k1, k2, k3, k4⟩, _⟩ := cells5r h1
  obtain ⟨⟨j0, j1, j2, j3, j4⟩, _⟩ := cells5r h2
  clear hz hz' hfit hsz hn
  go_enter Try.func36, Try.ntmps36
  go_upto_region 1 with fail
  rw [← hW, ← hFe, ← hEe]
  clear hW hFe hEe
  go_wp2_with fail
  refine hcl.mono ?_
  rintro e w2 ⟨rfl, hb2⟩
  obtain ⟨⟨p0, p1, p2, p3, p4⟩, _⟩ := cells5r ((hb2.block E hEl).trans h1)
  obtain ⟨⟨q0, q1, q2, q3, q4⟩, _⟩ := cells5r ((hb2.block F hFl).trans h2)
  have hbw := hb.trans (hb2.mono hb.size)
  clear hcl
  go_wp2_with fail
  go_ret
  exact ⟨rfl, hbw⟩
theorem markReorderView_any (r nx hf fin : Int) (a : Option Addr) (S : Sp) (n cap base : Nat) (w : World) (hn : S.length = n) (ho : w.ownsRow base 31 2 (.slice a n cap) n (flat S)) (hl : n ≤ 1048576) :
    Calls Try.prog 37 #[.agg (rvC r nx (.slice a n cap) hf fin), .int .i64 1] w fun e w' => e = .returned (.int .i64 (1 + 2 * (n : Int))) ∧ w'.ownsRow base 31 2 (.slice a n cap) n (flat (marked n)) ∧ w.grownBy w' (Value.slice a n cap).ownBlock := by
  subst hn
  have hcl := markSpanS_any (.slice a S.length cap) S (w.alloc (.cells (rvC r nx (.slice a S.length cap) hf fin) 44)) base (own_alloc ho _) hl
  obtain ⟨n, hn⟩ : ∃ n, Hid (n = S.length) := ⟨_, rfl⟩
  rw [← hn.out] at hcl ⊢
  go_enter Try.func37, Try.ntmps37
  go_wp2_with fail
  refine hcl.mono ?_
  rintro e w2 ⟨rfl, ho2, hg2⟩
  go_wp2_with fail
  go_ret
  exact ⟨rfl, ho2, grown_trans (World.grownBy_alloc w _ _) hg2⟩
theorem heldReorderView_any (r nx hf fin : Int) (a : Option Addr) (n cap : Nat) (w : World) (hz : Spans w a (marked n)) (hl : n ≤ 1048576) :
    Calls Try.prog 38 #[.agg (rvC r nx (.slice a n cap) hf fin), .int .i64 1] w fun e w' => e = .returned (.int .i64 (1 + 2 * (n : Int))) ∧ Below w.heap.size w w' := by
  have hb : Below w.heap.size w (w.alloc (.cells (rvC r nx (.slice a n cap) hf fin) 44)) := (Below.refl _ _).alloc (Nat.le_refl _) _
  have hcl := heldSpanS_any a n cap (w.alloc (.cells (rvC r nx (.slice a n cap) hf fin) 44)) (hz.moved hb) hl
  clear hz
  go_enter Try.func38, Try.ntmps38
  go_wp2_with fail
  refine hcl.mono ?_
  rintro e w2 ⟨rfl, rfl⟩
  go_wp2_with fail
  go_ret
  exact ⟨rfl, hb⟩
/-- What both ReorderStates give, all cases in one. -/
def GivesV (f : Nat) (x z : Int) (es : List REv) (r nx hf fin code : Int) (S : Sp) : Prop := ∀ (a : Option Addr) (cap n : Nat) (w : World) (G : Evs), G.length = n → G.map (·.1) = es → EvLie w w.heap.size a G →
  Calls Try.prog f #[.int .u64 x, .int .i64 z, .slice a n cap] w fun e w' => ∃ av cp, e = .returned (.tuple #[.agg (rvC r nx (.slice av S.length cp) hf fin), .int .i64 code]) ∧ w'.ownsRow w.heap.size 31 2 (.slice av S.length cp) S.length (flat S) ∧ Below w.heap.size w w'
theorem bothStateR (x z : Int) (x0 : 0 ≤ x) (es : List REv) (hok : ∀ e ∈ es, EvOk e) : ∃ r nx hf fin code S, S.length ≤ 1048576 ∧ Fits S ∧ GivesV 24 x z es r nx hf fin code S ∧ GivesV 35 x z es r nx hf fin code S := by
  have hnil : Fits [] := by intro p hp; simp at hp
  by_cases hc : OkR x z
  · obtain ⟨zn, rfl⟩ : ∃ zn : Nat, z = zn := ⟨z.toNat, by have := hc.2.1; omega⟩
    by_cases hl : es.length ≤ 4000
    · have hin := rinv_at (z := zn) x0 es (fun e he v hv => (hok e he).dv v hv)
      have hmz : (es.length : Int) * zn ≤ 16384000 := by
        have h5 : es.length * zn ≤ 4000 * 4096 := Nat.mul_le_mul hl (by have := hc.2.2; omega)
        rw [← Int.natCast_mul]
        omega
      have h1 := hin.lo
      have h2 := hin.hi
      have h3 := hc.1
      have h4 := hc.2.2
      refine ⟨(stateR zn x es).read, (stateR zn x es).read + (runLen (stateR zn x es).f zn (stateR zn x es).read : Nat), (stateR zn x es).hf, (stateR zn x es).fin, 0, heldR zn (stateR zn x es), ?_, ?_, fun a cap n w G hn hG hz => ?_, fun a cap n w G hn hG hz => ?_⟩
      · have := heldRun_length (stateR zn x es).f zn (stateR zn x es).read []
        simp only [List.length_nil] at this
        unfold heldR
        omega
      · exact heldRun_fits _ _ _ _ hnil (by omega) (by omega)
      · have hnl : n = es.length := by rw [← hn, ← hG, List.length_map]
        have := implStateR_ok x x0 zn hc a G n cap w hn (by omega) hz (evs_ok hok hG)
        rw [hG] at this
        exact this
      · have hnl : n = es.length := by rw [← hn, ← hG, List.length_map]
        have := specStateR_ok x x0 zn hc a G n cap w hn (by omega) hz (evs_ok hok hG)
        rw [hG] at this
        exact this
    · refine ⟨0, 0, 0, 0, 5, [], by simp, hnil, fun a cap n w G hn hG hz => ?_, fun a cap n w G hn hG hz => ?_⟩
      · have hnl : n = es.length := by rw [← hn, ← hG, List.length_map]
        refine (implStateR_limit x zn hc a n cap w (by omega)).mono ?_
        rintro e w' ⟨rfl, hb⟩
        exact ⟨none, 0, rfl, World.ownsRow_nil _ _ _ _, hb⟩
      · have hnl : n = es.length := by rw [← hn, ← hG, List.length_map]
        refine (specStateR_limit x zn hc a n cap w (by omega)).mono ?_
        rintro e w' ⟨rfl, hb⟩
        exact ⟨none, 0, rfl, World.ownsRow_nil _ _ _ _, hb⟩
  · refine ⟨0, 0, 0, 0, 17, [], by simp, hnil, fun a cap n w G hn hG hz => ?_, fun a cap n w G hn hG hz => ?_⟩
    · refine (implStateR_bad x z hc a n cap w).mono ?_
      rintro e w' ⟨rfl, hb⟩
      exact ⟨none, 0, rfl, World.ownsRow_nil _ _ _ _, hb⟩
    · refine (specStateR_bad x z hc a n cap w).mono ?_
      rintro e w' ⟨rfl, hb⟩
      exact ⟨none, 0, rfl, World.ownsRow_nil _ _ _ _, hb⟩

set_option maxHeartbeats 4000000 in
set_option maxRecDepth 100000 in
theorem lawStateR (x z : Int) (x0 : 0 ≤ x) (a : Option Addr) (es : Evs) (n cap : Nat) (w : World) (hn : es.length = n) (hok : ∀ p ∈ es, p.1.dat.length ≤ 1048576 → EvOk p.1) (hz : EvIn w a es) (hm : n ≤ 9223372036854775807) (hmd : ∀ p ∈ es, p.1.dat.length ≤ 9223372036854775807) :
    Calls Try.prog 8 #[.int .u64 x, .int .i64 z, .slice a n cap] w fun e w' => e = .returned (.bool true) ∧ Below w.heap.size w w' := by
  by_cases hl : n + sumD es ≤ 1048576
  · have hd8 : ∀ p ∈ es, p.1.dat.length ≤ 1048576 := fun p hp => by have := sumD_mem hp; omega
    have hokE : ∀ e ∈ es.map (·.1), EvOk e := by
      intro e he
      obtain ⟨p, hp, rfl⟩ := List.mem_map.1 he
      exact hok p hp (hd8 p hp)
    obtain ⟨r, nx, hf, fin, code, S, hT, hfit, himpl, hspec⟩ := bothStateR x z x0 (es.map (·.1)) hokE
    have HI : Hid _ := himpl
    have HS : Hid _ := hspec
    have HF : Hid _ := hfit
    obtain ⟨N, hN⟩ : ∃ N, Hid (S.length = N) := ⟨_, rfl⟩
    have hN5 : N ≤ 1048576 := by rw [← hN.out]; exact hT
    have HEL : Hid (∀ G : Evs, G.map (·.1) = es.map (·.1) → G.length = n) := by
      unfold Hid
      intro G hG
      have := congrArg List.length hG
      simp only [List.length_map] at this
      omega
    have HSUM : Hid (∀ G : Evs, G.map (·.1) = es.map (·.1) → sumD G = sumD es) := by
      unfold Hid
      intro G hG
      have e1 : ∀ H : Evs, sumD H = ((H.map (·.1)).map fun e => e.dat.length).sum := fun H => by unfold sumD; rw [List.map_map]; rfl
      rw [e1, e1, hG]
    have hnn : n ≤ 1048576 := by omega
    clear himpl hspec hT hfit hokE
    have hsz := szReorderEventS_any a es n cap w hn hm hmd hz _ (.inl ⟨hl, rfl⟩)
    obtain ⟨left, hleft⟩ : ∃ left, Hid (left = 1048576 - (n : Int) - (sumD es : Int)) := ⟨_, rfl⟩
    rw [← hleft.out] at hsz
    have hl0 : 0 ≤ left := by rw [hleft.out]; omega
    go_enter Try.func8, Try.ntmps8
    go_wp2_with fail
    refine hsz.mono ?_
    rintro e w2 ⟨rfl, hB2⟩
    clear hsz
    have t1 := hB2.size
    go_wp2_with fail
    refine (toReorderEventS_any a es n cap w2 hn (hz.moved hB2) hnn hd8).mono ?_
    rintro e w3 ⟨G3, rfl, ho3, hG3, hb3⟩
    have hB3 := hB2.trans (hb3.mono hB2.size)
    have t3 := hB3.size
    have hsp := HS.out _ n n w3 G3 (HEL.out _ hG3) hG3 (ho3.lie (HEL.out _ hG3))
    rw [hN.out] at hsp
    go_wp2_with fail
    refine hsp.mono ?_
    rintro e w4 ⟨av0, cp0, rfl, hr0, hb4⟩
    have hB4 := hB3.trans (hb4.mono hB3.size)
    have t4 := hB4.size
    clear hb3 hb4 ho3 hsp HS hB3 hB2 hG3
    obtain ⟨V4, hV4⟩ : ∃ V, V = w4.alloc (.cells #[.int .u64 r, .int .u64 nx, .slice av0 N cp0, .int .i64 hf, .int .u64 fin] 44) := ⟨_, rfl⟩
    have hv4 : Below w4.heap.size w4 V4 := by rw [hV4]; exact (Below.refl _ _).alloc (Nat.le_refl _) _
    have hX0 : V4.heap[w4.heap.size]? = some (.cells #[.int .u64 r, .int .u64 nx, .slice av0 N cp0, .int .i64 hf, .int .u64 fin] 44) := by rw [hV4]; exact box_new _ _ _ rfl
    have s4 : w4.heap.size < V4.heap.size := by rw [hV4]; simp
    have hBv := hB4.trans (hv4.mono hB4.size)
    have hr0 := row_stays (w' := V4) hr0 fun k hk => hv4.block k (hr0.lt k hk).2
    have t5 : w.heap.size ≤ V4.heap.size := by omega
    obtain ⟨X0, hX0e⟩ : ∃ X, X = w4.heap.size := ⟨_, rfl⟩
    rw [← hX0e] at hX0 s4
    have HR0 : Hid (∀ V, Below V4.heap.size V4 V → Spans V av0 S ∧ (V.cell? ⟨X0, 0, none⟩ = some (.int .u64 r) ∧ V.cell? ⟨X0, 1, none⟩ = some (.int .u64 nx) ∧ V.cell? ⟨X0, 2, none⟩ = some (.slice av0 N cp0) ∧ V.cell? ⟨X0, 3, none⟩ = some (.int .i64 hf) ∧ V.cell? ⟨X0, 4, none⟩ = some (.int .u64 fin))) := by
      intro V hV
      exact ⟨(spans_of hN.out hr0).moved hV, (cells5r ((hV.block X0 s4).trans hX0)).1⟩
    have D4 : Below V4.heap.size V4 V4 := Below.refl _ _
    go_wp2_with fail
    rw [← hV4, ← hX0e]
    clear hV4 hv4 hB4 hX0 hr0 hX0e
    refine (toReorderEventS_any a es n cap V4 hn (hz.moved hBv) hnn hd8).mono ?_
    rintro e w5 ⟨G5, rfl, ho5, hG5, hb5⟩
    have hB5 := hBv.trans (hb5.mono hBv.size)
    have D5 := D4.trans (hb5.mono D4.size)
    have s5 := hb5.size
    have HR5 : Hid (∀ k, (Value.slice (some ⟨V4.heap.size, 0, none⟩) n n).ownBlock = some k → k < w5.heap.size) := fun k hk => by have := (ho5.row.lt k hk).2; exact this
    have HD5 : Hid (∀ p ∈ G5, ∀ k, (evP p).ownBlock = some k → k < w5.heap.size) := fun p hp k hk => ((ho5.dat p hp).lt k hk).2
    clear hb5 hBv
    have him := HI.out _ n n w5 G5 (HEL.out _ hG5) hG5 (ho5.lie (HEL.out _ hG5))
    rw [hN.out] at him
    go_wp2_with fail
    refine him.mono ?_
    rintro e w7 ⟨av1, cp1, rfl, hr1, hb7⟩
    have hB7 := hB5.trans (hb7.mono hB5.size)
    have D7 := D5.trans (hb7.mono D5.size)
    have ho5 := ho5.below hb7
    have s7 := hb7.size
    have HG5 : Hid _ := hG5
    clear him hb7 hB5 hG5
    obtain ⟨V7, hV7⟩ : ∃ V, V = w7.alloc (.cells #[.int .u64 r, .int .u64 nx, .slice av1 N cp1, .int .i64 hf, .int .u64 fin] 44) := ⟨_, rfl⟩
    have hv7 : Below w7.heap.size w7 V7 := by rw [hV7]; exact (Below.refl _ _).alloc (Nat.le_refl _) _
    have hX1 : V7.heap[w7.heap.size]? = some (.cells #[.int .u64 r, .int .u64 nx, .slice av1 N cp1, .int .i64 hf, .int .u64 fin] 44) := by rw [hV7]; exact box_new _ _ _ rfl
    have u7 : w7.heap.size < V7.heap.size := by rw [hV7]; simp
    have hBu := hB7.trans (hv7.mono hB7.size)
    have D7 := D7.trans (hv7.mono D7.size)
    have ho5 := ho5.below hv7
    have hr1 := row_stays (w' := V7) hr1 fun k hk => hv7.block k (hr1.lt k hk).2
    obtain ⟨X1, hX1e⟩ : ∃ X, X = w7.heap.size := ⟨_, rfl⟩
    rw [← hX1e] at hX1 u7
    have hX1g : w5.heap.size ≤ X1 := by omega
    obtain ⟨⟨y0, y1, y2, y3, y4⟩, _⟩ := cells5r hX1
    obtain ⟨hsp0, x1, x2, x3, x4, x5⟩ := HR0.out V7 D7
    have heq := eqReorderView_same r nx hf fin av1 av0 S N cp1 cp0 V7 hN.out (spans_of hN.out hr1) hsp0 HF.out hN5
    go_upto_region 8 with fail
    rw [← hV7, ← hX1e]
    clear hV7 hv7 hB7 hX1e
    go_wp2_with fail
    clear x1 x2 x3 x4 x5 y0 y1 y2 y3 y4 hsp0
    refine heq.mono ?_
    rintro e w8 ⟨rfl, hb8⟩
    have hB8 := hBu.trans (hb8.mono hBu.size)
    have D8 := D7.trans (hb8.mono D7.size)
    have hr1 := row_stays (w' := w8) hr1 fun k hk => hb8.block k (hr1.lt k hk).2
    have hX1 := (hb8.block X1 u7).trans hX1
    have ho5 := ho5.below hb8
    have s8 := hb8.size
    clear hb8 heq hBu
    go_wp2_with fail
    refine (toReorderEventS_any a es n cap w8 hn (hz.moved hB8) hnn hd8).mono ?_
    rintro e w9 ⟨G9, rfl, ho9, hG9, hb9⟩
    have hB9 := hB8.trans (hb9.mono hB8.size)
    have D9 := D8.trans (hb9.mono D8.size)
    have hr1 := row_stays (w' := w9) hr1 fun k hk => hb9.block k (hr1.lt k hk).2
    have hX1 := (hb9.block X1 (by omega)).trans hX1
    have ho5 := ho5.below hb9
    have s9 := hb9.size
    clear hb9 hB8
    have heq2 := eqReorderEventS_same G5 G9 _ _ n n n w9 (HEL.out _ HG5.out) (by rw [HG5.out, hG9]) (ho5.lie (HEL.out _ HG5.out)).in_ (ho9.lie (HEL.out _ hG9)).in_ hnn (fun p hp => by have h1 := sumD_mem hp; rw [HSUM.out _ HG5.out] at h1; omega)
    go_wp2_with fail
    refine heq2.mono ?_
    rintro e w10 ⟨rfl, hb10⟩
    have hB10 := hB9.trans (hb10.mono hB9.size)
    have D10 := D9.trans (hb10.mono D9.size)
    have hr1 := row_stays (w' := w10) hr1 fun k hk => hb10.block k (hr1.lt k hk).2
    have hX1 := (hb10.block X1 (by omega)).trans hX1
    have ho5 := ho5.below hb10
    have s10 := hb10.size
    clear hb10 hB9 ho9 heq2 hG9
    have hmk := markReorderEventS_any G5 V4.heap.size w5.heap.size _ n n w10 (HEL.out _ HG5.out) ho5 (by rw [HSUM.out _ HG5.out]; exact hl) HR5.out HD5.out
    go_wp2_with fail
    refine hmk.mono ?_
    rintro e w11 ⟨k9, hk9, rfl, hon⟩
    have hr1 := row_stays (w' := w11) hr1 fun k hk => hon.block k (hr1.lt k hk).2 (.inr (hr1.lt k hk).1)
    have hX1 := (hon.block X1 (by omega) (.inr hX1g)).trans hX1
    have D11 := hon.below D10 (Nat.le_refl _) D10.size
    have hB11 := hon.below hB10 (by omega) hB10.size
    have s11 := hon.size
    have d9 : decide (k9 < 0) = false := by rw [decide_eq_false_iff_not]; omega
    clear hon hB10 ho5 D10 D9 D8 D7 D5 D4 hmk
    obtain ⟨⟨y0, y1, y2, y3, y4⟩, _⟩ := cells5r hX1
    obtain ⟨hsp0, x1, x2, x3, x4, x5⟩ := HR0.out w11 D11
    have heq := eqReorderView_same r nx hf fin av1 av0 S N cp1 cp0 w11 hN.out (spans_of hN.out hr1) hsp0 HF.out hN5
    go_wp2_with fail
    clear x1 x2 x3 x4 x5 y0 y1 y2 y3 y4 hsp0
    refine heq.mono ?_
    rintro e w12 ⟨rfl, hb12⟩
    have hB12 := hB11.trans (hb12.mono hB11.size)
    have D12 := D11.trans (hb12.mono D11.size)
    have hr1 := row_stays (w' := w12) hr1 fun k hk => hb12.block k (hr1.lt k hk).2
    have hX1 := (hb12.block X1 (by omega)).trans hX1
    have s12 := hb12.size
    clear hb12 hB11 D11 heq
    obtain ⟨⟨y0, y1, y2, y3, y4⟩, _⟩ := cells5r hX1
    have hmo := markReorderView_any r nx hf fin av1 S N cp1 w5.heap.size w12 hN.out hr1 hN5
    go_wp2_with fail
    clear y0 y1 y2 y3 y4
    refine hmo.mono ?_
    rintro e w13 ⟨rfl, hr13, hg13⟩
    have hX1 := (hg13.block X1 (by omega) (fun e9 => by
      obtain ⟨c9, hc9⟩ := row_block hr1 e9.symm
      exact type_ne hX1 hc9 (by decide) rfl)).trans hX1
    have hB13 := hB12.grown hg13 hB12.size (fun j hj => by have := (hr1.lt j hj).1; omega)
    have D13 := D12.grown hg13 D12.size (fun j hj => by have := (hr1.lt j hj).1; omega)
    have s13 := hg13.size
    clear hg13 hB12 hr1 D12 hmo
    obtain ⟨⟨y0, y1, y2, y3, y4⟩, _⟩ := cells5r hX1
    have hhe := heldReorderView_any r nx hf fin av1 N cp1 w13 (spans_of (marked_length N) hr13) hN5
    go_wp2_with fail
    clear y0 y1 y2 y3 y4
    refine hhe.mono ?_
    rintro e w14 ⟨rfl, hb14⟩
    have hB14 := hB13.trans (hb14.mono hB13.size)
    have D14 := D13.trans (hb14.mono D13.size)
    have dd : decide (1 + 2 * (N : Int) < 0) = false := by rw [decide_eq_false_iff_not]; omega
    clear hb14 hB13 D13 hr13 hX1 hhe
    go_wp2_with fail
    refine (toReorderEventS_any a es n cap w14 hn (hz.moved hB14) hnn hd8).mono ?_
    rintro e w16 ⟨G16, rfl, ho16, hG16, hb16⟩
    have hB16 := hB14.trans (hb16.mono hB14.size)
    have D16 := D14.trans (hb16.mono D14.size)
    clear hb16 hB14 D14
    have him := HI.out _ n n w16 G16 (HEL.out _ hG16) hG16 (ho16.lie (HEL.out _ hG16))
    rw [hN.out] at him
    go_wp2_with fail
    refine him.mono ?_
    rintro e w17 ⟨av2, cp2, rfl, hr2, hb17⟩
    have hB17 := hB16.trans (hb17.mono hB16.size)
    have D17 := D16.trans (hb17.mono D16.size)
    clear him hb17 hB16 ho16 HI D16 hG16
    obtain ⟨V17, hV17⟩ : ∃ V, V = w17.alloc (.cells #[.int .u64 r, .int .u64 nx, .slice av2 N cp2, .int .i64 hf, .int .u64 fin] 44) := ⟨_, rfl⟩
    have hv17 : Below w17.heap.size w17 V17 := by rw [hV17]; exact (Below.refl _ _).alloc (Nat.le_refl _) _
    have hX2 : V17.heap[w17.heap.size]? = some (.cells #[.int .u64 r, .int .u64 nx, .slice av2 N cp2, .int .i64 hf, .int .u64 fin] 44) := by rw [hV17]; exact box_new _ _ _ rfl
    have hBu := hB17.trans (hv17.mono hB17.size)
    have D17 := D17.trans (hv17.mono D17.size)
    have hr2 := row_stays (w' := V17) hr2 fun k hk => hv17.block k (hr2.lt k hk).2
    obtain ⟨X2, hX2e⟩ : ∃ X, X = w17.heap.size := ⟨_, rfl⟩
    rw [← hX2e] at hX2
    obtain ⟨⟨y0, y1, y2, y3, y4⟩, _⟩ := cells5r hX2
    obtain ⟨hsp0, x1, x2, x3, x4, x5⟩ := HR0.out V17 D17
    have heq := eqReorderView_same r nx hf fin av2 av0 S N cp2 cp0 V17 hN.out (spans_of hN.out hr2) hsp0 HF.out hN5
    go_upto_region 25 with fail
    rw [← hV17, ← hX2e]
    clear hV17 hv17 hB17 hX2e
    go_wp2_with fail
    clear x1 x2 x3 x4 x5 y0 y1 y2 y3 y4 hsp0
    refine heq.mono ?_
    rintro e w18 ⟨rfl, hb18⟩
    have hBz := hBu.trans (hb18.mono hBu.size)
    clear hb18 hBu D17 hr2 heq
    go_wp2_with fail
    go_ret
    exact ⟨rfl, hBz⟩
  · have hsz := szReorderEventS_any a es n cap w hn hm hmd hz (-1) (.inr ⟨by omega, rfl⟩)
    clear hz
    go_enter Try.func8, Try.ntmps8
    go_wp2_with fail
    refine hsz.mono ?_
    rintro e w1 ⟨rfl, hb1⟩
    go_wp2_with fail
    go_ret
    exact ⟨rfl, hb1⟩
end Go.Proofs.Ytpeecjoadgefjaa

namespace Go.Proofs.Ytpeecjoadgefjaa
open Go.ChangeShapes Go.WideShapes Go.ChangeAt Go.RowKit
set_option linter.unusedVariables false

theorem spansHold_any (a : Option Addr) (S : Sp) (cap : Nat) (p q : Int) (w : World) (hS : Spans w a S) (hf : Fits S) (hl : S.length ≤ 9223372036854775807) :
    Calls Try.prog 40 #[.slice a S.length cap, .agg #[.int .u64 p, .int .u64 q]] w fun e w' => ∃ b : Bool, e = .returned (.bool b) ∧ (b = true ↔ (S.length ≤ 1000 ∧ Norm S) ∧ p ≤ q) ∧ Below w.heap.size w w' := by
  have hb0 : Below w.heap.size w (w.alloc (.cells #[.int .u64 p, .int .u64 q] 31)) := (Below.refl _ _).alloc (Nat.le_refl _) _
  have hS0 := hS.moved hb0
  obtain ⟨x0, x1⟩ := cell_alloc2 w (.int .u64 p) (.int .u64 q) 31 _ rfl
  go_enter Try.func40, Try.ntmps40
  go_wp2_with fail
  refine (implSetOK a S cap _ hS0 hf hl).mono ?_
  rintro e w1 ⟨b, rfl, hiff, hb1⟩
  have y0 := (hb1.cell (World.block_lt_of_cell? _ _ x0)).trans x0
  have y1 := (hb1.cell (World.block_lt_of_cell? _ _ x1)).trans x1
  have hbw := hb0.trans (hb1.mono (by simp))
  clear hS hS0 hf hb0 hb1 x0 x1
  have HI : Hid (b = true ↔ S.length ≤ 1000 ∧ Norm S) := hiff
  clear hiff
  cases b with
  | true =>
    go_wp2
    go_ret
    exact ⟨_, rfl, by simp only [decide_eq_true_eq]; exact ⟨fun h => ⟨HI.out.1 trivial, h⟩, fun h => h.2⟩, hbw⟩
  | false =>
    go_wp2
    go_ret
    exact ⟨false, rfl, ⟨fun h => (by cases h), fun h => HI.out.2 h.1⟩, hbw⟩

theorem sizeStep {t c d p q : Int} (h0 : 0 ≤ t) (h1 : t ≤ 18446744073709551615) (h2 : 0 ≤ t + (min d q - max c p)) (h3 : t + (min d q - max c p) ≤ 18446744073709551615) :
    IntKind.u64.wrap (t + IntKind.u64.wrap ((if q < d then q else d) - if c < p then p else c)) = t + (min d q - max c p) := by
  have e1 : (if q < d then q else d) = min d q := by split <;> omega
  have e2 : (if c < p then p else c) = max c p := by split <;> omega
  rw [e1, e2]
  simp only [IntKind.wrap_u64]
  omega

set_option maxHeartbeats 1000000 in
theorem implSize_ok (a : Option Addr) (S : Sp) (cap : Nat) (p q : Int) (w : World) (hS : Spans w a S) (hf : Fits S) (hl : S.length ≤ 1000) (hn : Norm S) (hc : S.length ≤ cap) (hm : cap ≤ 9223372036854775807) (p0 : 0 ≤ p) (pq : p ≤ q) (q1 : q ≤ 18446744073709551615) :
    Calls Try.prog 26 #[.slice a S.length cap, .agg #[.int .u64 p, .int .u64 q]] w fun e w' => e = .returned (.tuple #[.int .u64 (total (built f4 S (p, q))), .int .i64 0]) ∧ Below w.heap.size w w' := by
  have hb0 : Below w.heap.size w (w.alloc (.cells #[.int .u64 p, .int .u64 q] 31)) := (Below.refl _ _).alloc (Nat.le_refl _) _
  have hS0 := hS.moved hb0
  obtain ⟨x0, x1⟩ := cell_alloc2 w (.int .u64 p) (.int .u64 q) 31 _ rfl
  go_enter Try.func26, Try.ntmps26
  go_wp2_with fail
  refine (spansHold_any a S cap p q _ hS0 hf (by omega)).mono ?_
  rintro e w1 ⟨b, rfl, hiff, hb1⟩
  obtain rfl : b = true := hiff.2 ⟨⟨hl, hn⟩, pq⟩
  have hS1 := hS0.moved hb1
  have y0 := (hb1.cell (World.block_lt_of_cell? _ _ x0)).trans x0
  have y1 := (hb1.cell (World.block_lt_of_cell? _ _ x1)).trans x1
  have hbw := hb0.trans (hb1.mono (by simp))
  clear hiff hS hS0 hb0 hb1 x0 x1
  go_wp2_with fail
  refine (overlap_any a S cap p q _ hS1 hf hl hn).mono ?_
  rintro e w2 ⟨i, j, rfl, hi, hj, hb2⟩
  have hS2 := hS1.moved hb2
  have z0 := (hb2.cell (World.block_lt_of_cell? _ _ y0)).trans y0
  have z1 := (hb2.cell (World.block_lt_of_cell? _ _ y1)).trans y1
  have hbw2 := hbw.trans (hb2.mono hbw.size)
  have hij := overlap_le (s := (p, q)) hn pq hi hj
  have hjl := hj.le
  have HI : Hid _ := hi
  have HJ : Hid _ := hj
  have HN : Hid (Norm S) := hn
  clear hi hj hn hS1 y0 y1 hbw hb2
  have htot := clip_total (s := (p, q)) HN.out pq HI.out HJ.out
  have HT : Hid (total (clip S (p, q) i j) = total (built f4 S (p, q))) := htot
  clear htot
  by_cases hlt : i < j
  · have hic : i < cap := by omega
    have hic' : ¬ i = cap := by omega
    have hcl := clip_length (s := (p, q)) hij hjl
    have hle := clip_le (s := (p, q)) HN.out pq HI.out HJ.out
    have hbd : total (clip S (p, q) i j) ≤ q - p := by rw [HT.out]; exact (total_le (built_norm (f := f4) rfl S (p, q)) pq (built4_inside S (p, q))).1
    rcases hS2 with h0 | ⟨b, off, rfl, hcc⟩
    · simp [h0] at hjl; omega
    go_wp2
    go_loopw [6, 26] (fun t x wr => ∃ k : Nat, k ≤ j - i ∧ x = .int .i64 k ∧ t = .int .u64 (total ((clip S (p, q) i j).take k)) ∧ Below w2.heap.size w2 wr) (fun _ x _ => j - i - (intOf x).toNat)
    case atStart => exact ⟨0, Nat.zero_le _, rfl, rfl, Below.refl _ _⟩
    case round =>
      obtain ⟨k, hk, rfl, rfl, hb⟩ := hrel
      by_cases hk2 : k < j - i
      · have hik : i + k < S.length := by omega
        obtain ⟨c, d, hn, c0, c1, d0, d1, q2, q3⟩ := Spans.at hf hcc hik
        have r1 : wr.cell? ⟨b, off + i * 2 + k * 2, none⟩ = some (.int .u64 c) := by rw [show off + i * 2 + k * 2 = off + (i + k) * 2 by omega, hb.cell (World.block_lt_of_cell? w2 _ q2)]; exact q2
        have r2 : wr.cell? ⟨b, off + i * 2 + k * 2 + 1, none⟩ = some (.int .u64 d) := by rw [show off + i * 2 + k * 2 + 1 = off + (i + k) * 2 + 1 by omega, hb.cell (World.block_lt_of_cell? w2 _ q3)]; exact q3
        have t0 := (hb.cell (World.block_lt_of_cell? _ _ z0)).trans z0
        have t1 := (hb.cell (World.block_lt_of_cell? _ _ z1)).trans z1
        have hlt0 := World.block_lt_of_cell? wr _ t0
        have hk3 : k < (clip S (p, q) i j).length := by omega
        have hsucc := total_take_succ hk3
        rw [clip_at hij hjl hk3] at hsucc
        simp only [hn.out] at hsucc
        have hbd1 := total_take_le hle k
        have hbd2 := total_take_le hle (k + 1)
        have hbr := hb.alloc hb.size (.cells #[.int .u64 c, .int .u64 d] 31)
        have HS : Hid (total ((clip S (p, q) i j).take (k + 1)) = total ((clip S (p, q) i j).take k) + (min d q - max c p)) := hsucc
        clear hsucc hcc hn hb
        go_wp2
        go_roundw
        case rel => exact ⟨k + 1, by omega, by go_num, congrArg (Value.int .u64) (by rw [HS.out] at hbd2 ⊢; exact sizeStep hbd1.1 (by omega) hbd2.1 (by omega)), hbr⟩
        case measure => simp [intOf]; omega
      · go_wp2
        go_ret2
        have hke : k = (clip S (p, q) i j).length := by omega
        refine ⟨?_, hbw2.trans (hb.mono hbw2.size)⟩
        rw [← HT.out, hke, List.take_length]
        rfl
  · have hije : i = j := by omega
    subst hije
    have h0 : total (built f4 S (p, q)) = 0 := by
      rw [← HT.out]
      simp [clip, total]
    go_wp2
    all_goals
      refine wp_loop_rounds 1 ?_
      rw [rounds_succ]
      go_wp2
      go_ret2
      exact ⟨by rw [h0]; rfl, hbw2⟩

theorem implSize_no (a : Option Addr) (S : Sp) (cap : Nat) (p q : Int) (w : World) (hS : Spans w a S) (hf : Fits S) (hl : S.length ≤ 9223372036854775807) (hno : ¬ ((S.length ≤ 1000 ∧ Norm S) ∧ p ≤ q)) :
    Calls Try.prog 26 #[.slice a S.length cap, .agg #[.int .u64 p, .int .u64 q]] w fun e w' => e = .returned (.tuple #[.int .u64 0, .int .i64 1]) ∧ Below w.heap.size w w' := by
  have hb0 : Below w.heap.size w (w.alloc (.cells #[.int .u64 p, .int .u64 q] 31)) := (Below.refl _ _).alloc (Nat.le_refl _) _
  have hS0 := hS.moved hb0
  go_enter Try.func26, Try.ntmps26
  go_wp2_with fail
  refine (spansHold_any a S cap p q _ hS0 hf hl).mono ?_
  rintro e w1 ⟨b, rfl, hiff, hb1⟩
  obtain rfl : b = false := by
    cases b with
    | false => rfl
    | true => exact absurd (hiff.1 rfl) hno
  clear hiff
  go_wp2
  go_ret2
  exact ⟨rfl, hb0.trans (hb1.mono (by simp))⟩

end Go.Proofs.Ytpeecjoadgefjaa
