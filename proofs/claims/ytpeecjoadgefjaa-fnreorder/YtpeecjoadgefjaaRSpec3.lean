import Derived.Test.YtpeecjoadgefjaaRSpec2
namespace Go.Proofs.Ytpeecjoadgefjaa
open Go.ChangeShapes Go.WideShapes Go.ChangeAt Go.RowKit
set_option linter.unusedVariables false

theorem holdsB_iff (f : Int → Option Int) : ∀ k x, holdsB f k x = true ↔ ∃ i : Nat, i < k ∧ (f (x + i)).isSome = true := by
  intro k
  induction k with
  | zero => intro x; simp [holdsB]
  | succ k ih =>
    intro x
    rw [holdsB, Bool.or_eq_true, ih (x + 1)]
    constructor
    · rintro (h | ⟨i, hi, h⟩)
      · exact ⟨0, by omega, by simpa using h⟩
      · exact ⟨i + 1, by omega, by rw [show x + ((i + 1 : Nat) : Int) = x + 1 + i by omega]; exact h⟩
    · rintro ⟨i, hi, h⟩
      cases i with
      | zero => exact .inl (by simpa using h)
      | succ i => exact .inr ⟨i, by omega, by rw [show x + 1 + (i : Int) = x + ((i + 1 : Nat) : Int) by omega]; exact h⟩
theorem GotAt.holds_iff {x : Int} {z : Nat} {s : RB} {got : List Int} (h : GotAt x z s got) {off : Int} (ho : s.read ≤ off) :
    holdsB s.f (s.read + z - off).toNat off = true ↔ ∃ i : Nat, (s.read - x).toNat ≤ i ∧ i < got.length ∧ 0 ≤ got.getD i (-1) ∧ off ≤ x + i := by
  rw [holdsB_iff]
  have hlo := h.lo
  constructor
  · rintro ⟨j, hj, hs⟩
    have h1 : ¬ got.getD (off + j - x).toNat (-1) < 0 := fun h2 => by
      rw [(h.none_iff (by omega)).2 h2] at hs
      simp at hs
    refine ⟨(off + j - x).toNat, by omega, ?_, by omega, by omega⟩
    by_cases h3 : (off + j - x).toNat < got.length
    · exact h3
    · exact absurd (show got.getD (off + j - x).toNat (-1) < 0 by rw [List.getD_eq_getElem?_getD, List.getElem?_eq_none (by omega)]; simp) h1
  · rintro ⟨i, h1, h2, h3, h4⟩
    have h5 := h.len
    refine ⟨(x + i - off).toNat, by omega, ?_⟩
    rw [show off + ((x + i - off).toNat : Nat) = x + i by omega, h.at_ (x + i) (by omega), show (x + (i : Int) - x).toNat = i by omega, if_pos h3]
    rfl
theorem AtB.end_ {w0 w : World} {R B base : Nat} {x : Int} {z : Nat} {s : RB} {o : Option Nat} {v : Value} {got : List Int} (h : AtB w0 R B base x z s o v got w) (off : Int) (o0 : 0 ≤ off) (o1 : off ≤ 9000000000000000000) :
    AtB w0 R B base x z { s with hf := 1, fin := off } o v got ((w.setCell ⟨B, 4, none⟩ (.int .u64 off)).setCell ⟨B, 5, none⟩ (.bool true)) := by
  refine ⟨⟨?_, ?_, h.buf.got.end_ off o0 o1⟩, h.blk, (h.mv.set 4 _).set 5 _, h.hB, h.hR, h.vR⟩
  · have h1 := heap_setCell_same w B 4 _ _ (.int .u64 off) h.buf.blk
    have h2 := heap_setCell_same _ B 5 _ _ (.bool true) h1
    exact h2
  · refine row_stays h.buf.row fun k hk => ?_
    have hne : k ≠ B := fun e => h.buf.ne (by rw [hk, e])
    rw [heap_setCell_other _ _ _ _ hne, heap_setCell_other _ _ _ _ hne]

set_option maxHeartbeats 2000000 in
set_option maxRecDepth 100000 in
theorem l5Fin_any (w : World) (B base : Nat) (x : Int) (z : Nat) (s : RB) (v : Value) (got : List Int) (h : SpB w B base x z s v got) (off : Int) (o0 : 0 ≤ off) (o1 : off ≤ 18446744073709551615) :
    Calls Try.prog 87 #[.pointer (some ⟨B, 0, none⟩), .int .u64 off] w (SStepsTo w B base x z v (endR z s off)) := by
  have hR0 := heap_alloc_new w (.cells #[.int .i64 0, .int .i64 0, .slice none 0 0] 50)
  have hA0 := (AtB.begin h (Nat.le_refl _)).alloc (.cells #[.int .i64 0, .int .i64 0, .slice none 0 0] 50)
  obtain ⟨V, hV⟩ : ∃ V, V = w.alloc (.cells #[.int .i64 0, .int .i64 0, .slice none 0 0] 50) := ⟨_, rfl⟩
  rw [← hV] at hR0 hA0
  obtain ⟨R, hR⟩ : ∃ R, R = w.heap.size := ⟨_, rfl⟩
  rw [← hR] at hR0 hA0
  have hz1 := h.got.z1
  have hz2 := h.got.z2
  have hx0 := h.got.x0
  have hx1 := h.got.x1
  have hlo := h.got.lo
  have hhi := h.got.hi
  have hlen := h.got.len
  have f0 := h.got.f0
  have f1 := h.got.f1
  have HH : Hid (s.read ≤ off → (holdsB s.f (s.read + z - off).toNat off = true ↔ ∃ i : Nat, (s.read - x).toNat ≤ i ∧ i < got.length ∧ 0 ≤ got.getD i (-1) ∧ off ≤ x + i)) := fun ho => h.got.holds_iff ho
  obtain ⟨r, hr⟩ : ∃ r, Hid (r = s.read) := ⟨_, rfl⟩
  rw [← hr.out] at hlo hhi HH hlen
  obtain ⟨ob, hob⟩ : ∃ ob, Hid (ob = v.ownBlock) := ⟨_, rfl⟩
  rw [← hob.out] at hA0
  have HA : Hid (AtB w R B base x z s ob v got V) := hA0
  have HFIN : Hid (∀ (s' : RB) (v' : Value) (got' : List Int) (W : World) (c : Int), AtB w R B base x z s' ob v' got' W → endR z s off = (⟨c, 0, []⟩, s') → SStepsTo w B base x z v (endR z s off) (.returned (.agg #[.int .i64 c, .int .i64 0, .slice none 0 0])) (((W.setCell ⟨R, 0, none⟩ (.int .i64 c)).setCell ⟨R, 1, none⟩ (.int .i64 0)).setCell ⟨R, 2, none⟩ (.slice none 0 0))) := by
    intro s' v' got' W c hAt hE
    have h3 := hAt.fill (.int .i64 c) (.int .i64 0) (.slice none 0 0)
    rw [hE]
    exact ⟨none, 0, v', got', rfl, h3.buf, by rw [← hob.out]; exact h3.blk, ⟨rfl, .inl ⟨rfl, rfl⟩⟩, by rw [← hob.out]; exact h3.mv⟩
  obtain ⟨⟨c0, c1, c2, c3, c4, c5⟩, cf⟩ := HA.out.buf.cells
  obtain ⟨fin, hfin⟩ : ∃ fin, Hid (fin = s.fin) := ⟨_, rfl⟩
  rw [← hfin.out] at c4 f0 f1
  have hrd := l5Read_any V B base x z s v got HA.out.buf
  rw [← hr.out] at hrd
  have cf4 := cf 4
  have cf5 := cf 5
  rw [← hr.out] at c3
  clear hA0 h cf
  obtain ⟨kb, hkb⟩ : ∃ kb, Hid (decide (s.hf = 1) = kb) := ⟨_, rfl⟩
  rw [hkb.out] at c5
  obtain ⟨⟨k0, k1, k2⟩, kf0, kf1, kf2⟩ := cells3r hR0
  have hBR : B ≠ R := by have := HA.out.hB; omega
  by_cases hE1 : s.hf = 1 ∧ s.fin ≠ off
  case pos =>
    have HE : Hid (endR z s off = (⟨12, 0, []⟩, s)) := by unfold Hid endR; rw [if_pos hE1]
    obtain rfl : kb = true := by rw [← hkb.out, decide_eq_true_iff]; exact hE1.1
    have d1 : (fin != off) = true := by rw [hfin.out]; simpa using hE1.2
    have hfn := HFIN.out s v got V 12 HA.out HE.out
    obtain ⟨⟨z0, z1, z2⟩, _⟩ := cells3r (set3r hR0 (.int .i64 12) (.int .i64 0) (.slice none 0 0))
    have HE1 : Hid _ := hE1
    clear hE1
    go_enter Try.func87, Try.ntmps87
    go_upto_region 1 with fail
    rw [← hV, ← hR]
    clear hV hR
    go_wp2_with fail
    exact bodyPost_ret (v := .agg #[.int .i64 12, .int .i64 0, .slice none 0 0]) (by simp [results, Try.results87, go_sem, z0, z1, z2]) rfl hfn
  case neg =>
  by_cases hE2 : off < r
  case pos =>
    have HE : Hid (endR z s off = (⟨12, 0, []⟩, s)) := by unfold Hid endR; rw [if_neg hE1, if_pos (.inl (by rw [← hr.out]; exact hE2))]
    have d2 : decide (off < r) = true := by rw [decide_eq_true_iff]; exact hE2
    have hfn := fun m => HFIN.out s v got (V.drewN m) 12 (HA.out.drewN m) HE.out
    have zz := fun m => (cells3r (set3r (show (V.drewN m).heap[R]? = some (.cells #[.int .i64 0, .int .i64 0, .slice none 0 0] 50 (0, 0)) from hR0) (.int .i64 12) (.int .i64 0) (.slice none 0 0))).1
    have z0 := fun m => (zz m).1
    have z1 := fun m => (zz m).2.1
    have z2 := fun m => (zz m).2.2
    have hkk : kb = true → (fin != off) = false := fun e => by
      rw [← hkb.out, decide_eq_true_iff] at e
      rw [hfin.out]
      simpa using fun h3 => hE1 ⟨e, h3⟩
    have HE1 : Hid _ := hE1
    clear hE1 zz
    cases kb
    · clear hkk
      go_enter Try.func87, Try.ntmps87
      go_upto_region 1 with fail
      rw [← hV, ← hR]
      clear hV hR
      go_wp2_with fail
      refine hrd.mono ?_
      rintro e w1 ⟨rfl, m1, rfl⟩
      go_wp2_with fail
      exact bodyPost_ret (v := .agg #[.int .i64 12, .int .i64 0, .slice none 0 0]) (by simp [results, Try.results87, go_sem, z0, z1, z2]) rfl (hfn _)
    · have d1 := hkk rfl
      clear hkk
      go_enter Try.func87, Try.ntmps87
      go_upto_region 1 with fail
      rw [← hV, ← hR]
      clear hV hR
      go_wp2_with fail
      refine hrd.mono ?_
      rintro e w1 ⟨rfl, m1, rfl⟩
      go_wp2_with fail
      exact bodyPost_ret (v := .agg #[.int .i64 12, .int .i64 0, .slice none 0 0]) (by simp [results, Try.results87, go_sem, z0, z1, z2]) rfl (hfn _)
  case neg =>
  have d2 : decide (off < r) = false := by rw [decide_eq_false_iff_not]; exact hE2
  have H1 : Hid (endR z s off = if holdsB s.f (r + z - off).toNat off = true then (⟨12, 0, []⟩, s) else if r + z < off then (⟨4, 0, []⟩, s) else (⟨0, 0, []⟩, { s with hf := 1, fin := off })) := by
    unfold Hid
    rw [endR, if_neg hE1, ← hr.out]
    by_cases h5 : holdsB s.f (r + z - off).toNat off = true
    · rw [if_pos (.inr h5), if_pos h5]
    · rw [if_neg (by rintro (h6 | h6); exact hE2 h6; exact h5 h6), if_neg h5]
  have hkk : kb = true → (fin != off) = false := fun e => by
    rw [← hkb.out, decide_eq_true_iff] at e
    rw [hfin.out]
    simpa using fun h3 => hE1 ⟨e, h3⟩
  have HE1 : Hid _ := hE1
  clear hE1
  have HI := HH.out (by omega)
  have HI2 : Hid _ := HI
  clear HI HH
  obtain ⟨ρ, hρ⟩ : ∃ ρ : Nat, Hid ((ρ : Int) = r - x) := ⟨(r - x).toNat, by unfold Hid; omega⟩
  have hρ2 : ρ ≤ 20000000 := by have := hρ.out; omega
  rw [← hρ.out] at c3
  obtain ⟨a2, cap2, hve, hin⟩ := HA.out.buf.shape
  have hrow2 := HA.out.buf.row
  rw [hve] at hrow2 c2
  have HVE : Hid _ := hve
  clear hve
  obtain ⟨L, hL⟩ : ∃ L, Hid (L = got.length) := ⟨_, rfl⟩
  rw [← hL.out] at c2 hrow2 hlen
  have hL3 : L ≤ 30000000 := by omega
  clear hin hlen
  go_enter Try.func87, Try.ntmps87
  go_upto_region 1 with fail
  rw [← hV, ← hR]
  clear hV hR
  go_cut [23] from 6 to 22 (fun v wx => v = .bool false ∧ ∃ m, wx = V.drewN m)
  case first =>
    cases kb
    · clear hkk
      go_wp2_with fail
      refine hrd.mono ?_
      rintro e w1 ⟨rfl, m1, rfl⟩
      go_wp2_with fail
      go_meet
      case rel => exact ⟨rfl, _, rfl⟩
    · have d1 := hkk rfl
      clear hkk
      go_wp2_with fail
      refine hrd.mono ?_
      rintro e w1 ⟨rfl, m1, rfl⟩
      go_wp2_with fail
      go_meet
      case rel => exact ⟨rfl, _, rfl⟩
  case rest =>
  obtain ⟨rfl, m, rfl⟩ := hcut
  obtain ⟨W, hW⟩ : ∃ W, W = V.drewN m := ⟨_, rfl⟩
  have HAW : Hid (AtB w R B base x z s ob v got W) := by rw [hW]; exact HA.out.drewN m
  have hR1 : W.heap[R]? = some (.cells #[.int .i64 0, .int .i64 0, .slice none 0 0] 50 (0, 0)) := by rw [hW]; exact hR0
  have hrow3 : W.ownsRow base 2 1 (.slice a2 L cap2) L (got.map (.int .i64)) := by rw [hW]; exact hrow2
  rw [← hW]
  clear hkk hrd hW c0 c1 c2 c3 c4 c5 cf4 cf5 k0 k1 k2 kf0 kf1 kf2 hR0 HA hrow2
  obtain ⟨⟨c0, c1, c2, c3, c4, c5⟩, cf⟩ := HAW.out.buf.cells
  rw [HVE.out, ← hL.out] at c2
  rw [← hfin.out] at c4
  rw [← hr.out, ← hρ.out] at c3
  have cf4 := cf 4
  have cf5 := cf 5
  obtain ⟨⟨k0, k1, k2⟩, kf0, kf1, kf2⟩ := cells3r hR1
  clear cf
  go_wp2_with fail
  go_loopw [5] (fun iv wr => ∃ (i : Nat), iv = .int .i64 (i : Int) ∧ ρ ≤ i ∧ i ≤ max ρ L ∧ W = wr ∧ Hid (∀ j, ρ ≤ j → j < i → 0 ≤ got.getD j (-1) → x + (j : Int) < off)) (fun iv _ => L - (intOf iv).toNat)
  case atStart => exact ⟨ρ, rfl, Nat.le_refl _, Nat.le_max_left .., rfl, fun j h1 h2 => by omega⟩
  case round =>
  obtain ⟨i, rfl, hi, hi2, hwe, HQ⟩ := hrel
  subst hwe
  have hρr := hρ.out
  have hB12 : Hid (∀ (c : Int) (m2 : Nat), endR z s off = (⟨c, 0, []⟩, s) → SStepsTo w B base x z v (endR z s off) (.returned (.agg #[.int .i64 c, .int .i64 0, .slice none 0 0])) ((((W.drewN m2).setCell ⟨R, 0, none⟩ (.int .i64 c)).setCell ⟨R, 1, none⟩ (.int .i64 0)).setCell ⟨R, 2, none⟩ (.slice none 0 0))) := fun c m2 hE => HFIN.out s v got (W.drewN m2) c (HAW.out.drewN m2) hE
  have HZZ : Hid (∀ (c : Int) (m2 : Nat), _) := fun c m2 => (cells3r (set3r (show (W.drewN m2).heap[R]? = some (.cells #[.int .i64 0, .int .i64 0, .slice none 0 0] 50 (0, 0)) from hR1) (.int .i64 c) (.int .i64 0) (.slice none 0 0))).1
  by_cases hlt : i < L
  case pos =>
    have hlt2 : (i : Int) < (L : Int) := by omega
    obtain ⟨g, hg⟩ : ∃ g, a2 = some ⟨g, 0, none⟩ := by
      rcases hrow3.2 with ⟨h', h0⟩ | ⟨g, cap', cur, h', _⟩
      · omega
      · simp only [Value.slice.injEq] at h'
        exact ⟨g, h'.1⟩
    subst hg
    have hKg : i < got.length := by rw [← hL.out]; exact hlt
    obtain ⟨u, hu⟩ : ∃ u, Hid (got.getD i (-1) = u) := ⟨_, rfl⟩
    have x0 : W.cell? ⟨g, i, none⟩ = some (.int .i64 u) := by
      rw [hrow3.cellAt i (by omega)]
      simp only [List.getElem?_map, List.getElem?_eq_getElem hKg, Option.map_some, Option.some.injEq, Value.int.injEq, true_and]
      rw [← hu.out, List.getD_eq_getElem?_getD, List.getElem?_eq_getElem hKg]
      rfl
    have hiw : IntKind.u64.wrap (i : Int) = (i : Int) := by rw [IntKind.wrap_u64]; omega
    have hxw : IntKind.u64.wrap (x + (i : Int)) = x + (i : Int) := by rw [IntKind.wrap_u64]; omega
    by_cases hu0 : 0 ≤ u
    case neg =>
      have d9 : decide (0 ≤ u) = false := by rw [decide_eq_false_iff_not]; exact hu0
      have HQ2 : Hid (∀ j, ρ ≤ j → j < i + 1 → 0 ≤ got.getD j (-1) → x + (j : Int) < off) := fun j h1 h2 h3 => by
        by_cases e : j = i
        · subst e; rw [hu.out] at h3; omega
        · exact HQ.out j h1 (by omega) h3
      go_wp2_with fail
      go_roundw
      case rel => exact ⟨i + 1, by go_num, by omega, by omega, trivial, HQ2⟩
      case measure => simp [intOf]; omega
    case pos =>
      have d9 : decide (0 ≤ u) = true := by rw [decide_eq_true_iff]; exact hu0
      by_cases hq : off ≤ x + i
      case neg =>
        have d10 : decide (off ≤ x + (i : Int)) = false := by rw [decide_eq_false_iff_not]; exact hq
        have HQ2 : Hid (∀ j, ρ ≤ j → j < i + 1 → 0 ≤ got.getD j (-1) → x + (j : Int) < off) := fun j h1 h2 h3 => by
          by_cases e : j = i
          · subst e; omega
          · exact HQ.out j h1 (by omega) h3
        go_wp2_with fail
        go_roundw
        case rel => exact ⟨i + 1, by go_num, by omega, by omega, trivial, HQ2⟩
        case measure => simp [intOf]; omega
      case pos =>
        have d10 : decide (off ≤ x + (i : Int)) = true := by rw [decide_eq_true_iff]; exact hq
        have HE : Hid (endR z s off = (⟨12, 0, []⟩, s)) := by
          unfold Hid
          rw [H1.out, if_pos (HI2.out.2 ⟨i, by omega, hKg, by rw [hu.out]; exact hu0, hq⟩)]
        have hfn := HFIN.out s v got W 12 HAW.out HE.out
        obtain ⟨⟨z0, z1, z2⟩, _⟩ := cells3r (set3r hR1 (.int .i64 12) (.int .i64 0) (.slice none 0 0))
        go_wp2_with fail
        exact bodyPost_ret (v := .agg #[.int .i64 12, .int .i64 0, .slice none 0 0]) (by simp [results, Try.results87, go_sem, z0, z1, z2]) rfl hfn
  case neg =>
  have hlt2 : ¬ (i : Int) < (L : Int) := by omega
  have HNH : Hid (¬ holdsB s.f (r + z - off).toNat off = true) := fun h => by
    obtain ⟨j, h1, h2, h3, h4⟩ := HI2.out.1 h
    have h5 : j < L := by rw [hL.out]; exact h2
    have := HQ.out j (by omega) (by omega) h3
    omega
  have hrd := fun k => l5Read_any (W.drewN k) B base x z s v got (HAW.out.buf.drewN k)
  rw [← hr.out] at hrd
  obtain ⟨T, hT⟩ : ∃ T, r + (z : Int) = T := ⟨_, rfl⟩
  have hTw : IntKind.u64.wrap (r + (z : Int)) = T := by rw [IntKind.wrap_u64]; omega
  have hzw : IntKind.u64.wrap (z : Int) = (z : Int) := by rw [IntKind.wrap_u64]; omega
  by_cases hTo : T < off
  case pos =>
    have d11 : decide (T < off) = true := by rw [decide_eq_true_iff]; exact hTo
    have HE : Hid (endR z s off = (⟨4, 0, []⟩, s)) := by unfold Hid; rw [H1.out, if_neg HNH.out, if_pos (by omega)]
    have hfn := fun m => hB12.out 4 m HE.out
    have zz := HZZ.out 4
    have z0 := fun m => (zz m).1
    have z1 := fun m => (zz m).2.1
    have z2 := fun m => (zz m).2.2
    clear zz
    go_wp2_with fail
    go_quiet ((go_at_call 71; exact Calls.quiet_of (hrd _)))
    go_wp2_with fail
    exact bodyPost_ret (v := .agg #[.int .i64 4, .int .i64 0, .slice none 0 0]) (by simp [results, Try.results87, go_sem, z0, z1, z2]) rfl (hfn _)
  case neg =>
    have d11 : decide (T < off) = false := by rw [decide_eq_false_iff_not]; exact hTo
    have HE : Hid (endR z s off = (⟨0, 0, []⟩, { s with hf := 1, fin := off })) := by unfold Hid; rw [H1.out, if_neg HNH.out, if_neg (by omega)]
    have hfn := fun m => HFIN.out _ v got _ 0 ((HAW.out.drewN m).end_ off o0 (by omega)) HE.out
    have hX := fun m => (show (((W.drewN m).setCell ⟨B, 4, none⟩ (.int .u64 off)).setCell ⟨B, 5, none⟩ (.bool true)).heap[R]? = some (.cells #[.int .i64 0, .int .i64 0, .slice none 0 0] 50 (0, 0)) from by rw [heap_setCell_other _ _ _ _ (Ne.symm hBR), heap_setCell_other _ _ _ _ (Ne.symm hBR)]; exact hR1)
    have zz := fun m => (cells3r (set3r (hX m) (.int .i64 0) (.int .i64 0) (.slice none 0 0))).1
    have z0 := fun m => (zz m).1
    have z1 := fun m => (zz m).2.1
    have z2 := fun m => (zz m).2.2
    clear zz
    go_wp2_with fail
    go_quiet ((go_at_call 71; exact Calls.quiet_of (hrd _)))
    go_wp2_with fail
    exact bodyPost_ret (v := .agg #[.int .i64 0, .int .i64 0, .slice none 0 0]) (by simp [results, Try.results87, go_sem, z0, z1, z2]) rfl (hfn _)
end Go.Proofs.Ytpeecjoadgefjaa
