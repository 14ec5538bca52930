import Derived.Test.YtincfdhfoaimbaaDeathMath2
import Derived.Test.YtincfdhfoaimbaaDrawSub
import Derived.Test.YtincfdhfoaimbaaRunMark
namespace Go.Proofs.Ytincfdhfoaimbaa
open Go.ChangeShapes Go.WideShapes Go.ChangeAt Go.RowKit
set_option linter.unusedVariables false

theorem sends_fit (n : Nat) : ∀ e ∈ sendsN n, 0 ≤ e.2.2 ∧ e.2.2 ≤ 4294967295 := by
  intro e he
  simp only [sendsN, List.mem_map] at he
  obtain ⟨i, _, rfl⟩ := he
  simp
theorem full_fit (c : Cf) (n t : Nat) : ∀ e ∈ fullN c n t, 0 ≤ e.2.2 ∧ e.2.2 ≤ 4294967295 := by
  intro e he
  simp only [fullN, evsN, List.mem_append, List.mem_singleton, List.mem_replicate] at he
  rcases he with ((h | ⟨_, rfl⟩) | rfl) | rfl
  · exact sends_fit n e h
  · simp
  · simp
  · simp only; omega
def whensN (c : Cf) (j : Nat) : List Int := (List.range j).map fun i => whenAt c (i + 1)
theorem whensN_length (c : Cf) (j : Nat) : (whensN c j).length = j := by simp [whensN]
theorem whensN_succ (c : Cf) (j : Nat) : whensN c (j + 1) = whensN c j ++ [whenAt c (j + 1)] := by simp [whensN, List.range_succ]
theorem whensN_at (c : Cf) (j i : Nat) (h : i < j) : (whensN c j).getD i 0 = whenAt c (i + 1) := by simp [whensN, h]

set_option maxHeartbeats 4000000 in
set_option maxRecDepth 100000 in
theorem lawDeath (a : Option Addr) (zs : List Int) (cap : Nat) (w : World) (hz : Ints .u8 w a zs) (hv : ∀ x ∈ zs, 0 ≤ x ∧ x ≤ 255) (hm : zs.length ≤ 9223372036854775807) :
    Calls Try.prog 4 #[.slice a zs.length cap] w fun e w' => e = .returned (.bool true) ∧ Below w.heap.size w w' := by
  by_cases hl : zs.length ≤ 1048576
  case neg =>
    go_enter Try.func4, Try.ntmps4
    go_wp2
    go_ret
    exact ⟨rfl, Below.refl _ _⟩
  case pos =>
  have hdr := drawSub_any w a zs cap hz hv hl
  obtain ⟨L, hL⟩ : ∃ L, Hid (L = zs.length) := ⟨_, rfl⟩
  rw [← hL.out] at hdr hl hm ⊢
  go_enter Try.func4, Try.ntmps4
  go_wp2_with fail
  refine hdr.mono ?_
  rintro e w1 ⟨c, es, av, en, cp, rfl, _, _, hi, _, _, hb1⟩
  clear hdr
  obtain ⟨V, hV⟩ : ∃ V, V = w1.alloc (.cells (cfC c) 35) := ⟨_, rfl⟩
  have hbV : Below w.heap.size w V := by rw [hV]; exact hb1.alloc hb1.size _
  have hCV : V.heap[w1.heap.size]? = some (.cells (cfC c) 35) := by rw [hV]; exact box_new _ _ _ rfl
  have zV : w1.heap.size < V.heap.size := by rw [hV]; simp
  have HC : Hid (∀ U : World, Below V.heap.size V U → U.cell? ⟨w1.heap.size, 0, none⟩ = some (.int .u32 c.isn) ∧ U.cell? ⟨w1.heap.size, 1, none⟩ = some (.int .i64 c.win) ∧ U.cell? ⟨w1.heap.size, 2, none⟩ = some (.int .i64 c.rto) ∧ U.cell? ⟨w1.heap.size, 3, none⟩ = some (.int .i64 c.mrto) ∧ U.cell? ⟨w1.heap.size, 4, none⟩ = some (.int .i64 c.da) ∧ U.cell? ⟨w1.heap.size, 5, none⟩ = some (.int .i64 c.pe)) := by
    unfold Hid
    intro U hU
    have h := (hU.block _ zV).trans hCV
    exact ⟨Go.Joins.cell_of_block h 0, Go.Joins.cell_of_block h 1, Go.Joins.cell_of_block h 2, Go.Joins.cell_of_block h 3, Go.Joins.cell_of_block h 4, Go.Joins.cell_of_block h 5⟩
  clear hb1 hCV
  by_cases hc : c.Ok
  case neg =>
    have hs := specRun_bad c hc none 0 0 V
    go_wp2_with fail
    rw [← hV]
    clear hV
    refine hs.mono ?_
    rintro e w2 ⟨rfl, hb2⟩
    obtain ⟨c0, c1, c2, c3, c4, c5⟩ := HC.out w2 hb2
    have hp := implRun_bad c hc none 0 0 w2
    clear hs
    go_wp2_with fail
    refine hp.mono ?_
    rintro e w3 ⟨rfl, hb3⟩
    go_wp2
    go_ret
    exact ⟨rfl, hbV.trans ((hb2.trans (hb3.mono hb2.size)).mono hbV.size)⟩
  case pos =>
  have hs := specRun_ok c hc hi none [] 0 0 V rfl (by omega) (by simp) (.inl rfl)
  go_wp2_with fail
  rw [← hV]
  clear hV
  refine hs.mono ?_
  rintro e w2 ⟨sv, sp, G, rfl, _, _, hb2⟩
  clear hs
  obtain ⟨c0, c1, c2, c3, c4, c5⟩ := HC.out w2 hb2
  have hcu := hc
  unfold Cf.Ok at hcu
  obtain ⟨n, hne⟩ : ∃ n : Nat, (n : Int) = 1 + (L : Int) % c.win := ⟨(1 + (L : Int) % c.win).toNat, by have := Int.emod_nonneg (L : Int) (show c.win ≠ 0 by omega); omega⟩
  have hn1 : 1 ≤ n := by have := Int.emod_nonneg (L : Int) (show c.win ≠ 0 by omega); omega
  have hn2 : (n : Int) ≤ c.win := by have := Int.emod_lt_of_pos (L : Int) (show 0 < c.win by omega); omega
  have hn3 : n ≤ 16 := by omega
  have s2 := hb2.size
  have hnw : wrap64 (1 + (L : Int) % c.win) = (n : Int) := by rw [← hne]; unfold wrap64; omega
  obtain ⟨D, hDe⟩ : ∃ D : Nat, (D : Int) = c.da := ⟨c.da.toNat, by omega⟩
  have HD : Hid ((D : Int) = c.da) := hDe
  have hD1 : 1 ≤ D := by omega
  have hD8 : D ≤ 8 := by omega
  clear hne hDe
  go_wp2_with fail
  rw [hnw]
  clear hnw
  have hmade : (w2.alloc (.cells #[] 43)).ownsRow V.heap.size 43 3 (.slice (some ⟨w2.heap.size, 0, none⟩) 0 0) 0 (flat3 .i64 .i64 .u32 (sendsN 0)) := World.ownsRow_made w2 #[] 0 s2 (by unfold maxLen; omega) rfl
  have hb3 := hb2.alloc hb2.size (.cells #[] 43)
  clear c0 c1 c2 c3 c4 c5
  go_loopw [10, 11] (fun ev i wr => ∃ (k : Nat) (av : Option Addr) (cp : Nat), k ≤ n ∧ i = .int .i64 k ∧ ev = .slice av k cp ∧ wr.ownsRow V.heap.size 43 3 (.slice av k cp) k (flat3 .i64 .i64 .u32 (sendsN k)) ∧ Below V.heap.size V wr) (fun _ i _ => n - (intOf i).toNat)
  case atStart => exact ⟨0, _, _, Nat.zero_le _, rfl, rfl, hmade, hb3⟩
  case round =>
  clear hmade hb3
  obtain ⟨k, ea, ec, hk, rfl, rfl, hev, hb3⟩ := hrel
  by_cases hlt : k < n
  case pos =>
    have hsz := hb3.size
    have hnb : (wr.alloc (.cells #[.int .i64 1, .int .i64 (7 * (k : Int)), .int .u32 0] 43)).heap[wr.heap.size]? = some (.cells #[.int .i64 1, .int .i64 (7 * (k : Int)), .int .u32 0] 43) := box_new _ _ _ rfl
    go_wp2_with (at_builtin; refine wpList_app3 _ (by rfl) _ _ 36 43 (by rfl) .i64 .i64 .u32 24 Try.underlying36 info_ev (by omega) V.heap.size ea k ec (sendsN k) (sendsN_length k) 1 (7 * (k : Int)) 0 (by rfl) (own_alloc hev _) wr.heap.size (by rfl) (Go.Joins.cell_of_block hnb 0) (Go.Joins.cell_of_block hnb 1) (Go.Joins.cell_of_block hnb 2) (by omega) (by simp; omega) ?_; intro g cap' wz ho hgz)
    have hbz := (hb3.alloc hsz (.cells #[.int .i64 1, .int .i64 (7 * (k : Int)), .int .u32 0] 43)).grown hgz (by simp; omega) (fun j hj => (hev.lt j hj).1)
    go_roundw
    case rel => exact ⟨k + 1, _, _, by omega, by go_num, rfl, by rw [sendsN_succ]; exact ho, hbz⟩
    case measure => simp [intOf]; omega
  case neg =>
  obtain rfl : k = n := by omega
  obtain ⟨c0, c1, c2, c3, c4, c5⟩ := HC.out wr hb3
  have s3 := hb3.size
  have hwm : (wr.alloc (.cells #[] 2)).ownsRow V.heap.size 2 1 (.slice (some ⟨wr.heap.size, 0, none⟩) 0 0) 0 ((whensN c 0).map (.int .i64)) := World.ownsRow_made wr #[] 0 s3 (by unfold maxLen; omega) rfl
  have hb4 := hb3.alloc hb3.size (.cells #[] 2)
  have hev4 := own_alloc hev (.cells #[] 2)
  have x1 : ¬ w1.heap.size = wr.heap.size := by omega
  have x2 : ¬ wr.heap.size = w1.heap.size := by omega
  have x3 : w1.heap.size < wr.heap.size := by omega
  go_wp2_with fail
  clear c0 c1 c2 c3 c4 c5
  go_loopw [12, 13, 14, 15] (fun wv at_ rt i wx => ∃ (j : Nat) (wa : Option Addr) (wc : Nat), j ≤ D ∧ i = .int .i64 j ∧ at_ = .int .i64 (whenAt c j) ∧ rt = .int .i64 (rtoAt c j) ∧ wv = .slice wa j wc ∧ wx.ownsRow V.heap.size 2 1 (.slice wa j wc) j ((whensN c j).map (.int .i64)) ∧ wx.ownsRow V.heap.size 43 3 (.slice ea k ec) k (flat3 .i64 .i64 .u32 (sendsN k)) ∧ Below V.heap.size V wx) (fun _ _ _ i _ => D - (intOf i).toNat)
  case atStart => exact ⟨0, _, _, Nat.zero_le _, rfl, rfl, rfl, rfl, hwm, hev4, hb4⟩
  case round =>
  clear hwm hb4 hev4 hev hb3
  obtain ⟨j, wa, wd, hj, rfl, rfl, rfl, rfl, hwh, hev, hb5⟩ := hrel
  clear x1 x2 x3 s3
  obtain ⟨c0, c1, c2, c3, c4, c5⟩ := HC.out wr hb5
  have hrb := rto_bounds c hc j
  have hwb := when_bounds c hc j
  have hmr : c.mrto ≤ 400 := by omega
  have s5 := hb5.size
  by_cases hlt2 : j < D
  case pos =>
    have hjd : (j : Int) < c.da := by have := HD.out; omega
    obtain ⟨A, hA⟩ : ∃ A, Hid (A = whenAt c j) := ⟨_, rfl⟩
    obtain ⟨R, hR⟩ : ∃ R, Hid (R = rtoAt c j) := ⟨_, rfl⟩
    rw [← hA.out] at hwb ⊢
    rw [← hR.out] at hrb ⊢
    have hA1 : Hid (whenAt c (j + 1) = A + R) := by unfold Hid; rw [hA.out, hR.out]; rfl
    have hR1 : Hid (rtoAt c (j + 1) = min (2 * R) c.mrto) := by unfold Hid; rw [hR.out]; rfl
    have hnb : (wr.alloc (.cells #[.int .i64 (A + R)] 2)).heap[wr.heap.size]? = some (.cells #[.int .i64 (A + R)] 2) := box_new _ _ _ rfl
    have x1 : ¬ w1.heap.size = wr.heap.size := by omega
    have x2 : ¬ wr.heap.size = w1.heap.size := by omega
    have hevA := own_alloc hev (.cells #[.int .i64 (A + R)] 2)
    have hwhA := own_alloc hwh (.cells #[.int .i64 (A + R)] 2)
    by_cases hbig : c.mrto < 2 * R
    · go_wp2_with (at_builtin; refine wpList_app1 _ (by rfl) _ _ 44 2 (by rfl) .i64 8 Try.underlying44 info_i64 (by omega) V.heap.size wa j wd (whensN c j) (A + R) (by rfl) hwhA ⟨wr.heap.size, 0, none⟩ (by rfl) (Go.Joins.cell_of_block hnb 0) (by omega) (by simp; omega) ?_; intro g cap' wz ho hgz; have hbz := (hb5.alloc s5 (.cells #[.int .i64 (A + R)] 2)).grown hgz (by simp; omega) (fun j hj => (hwh.lt j hj).1); obtain ⟨d0, d1, d2, d3, d4, d5⟩ := HC.out wz hbz)
      have hevz := hevA.kept hgz (by
        cases hu : (Value.slice ea k ec).ownBlock with
        | none => exact .inl rfl
        | some i =>
          refine .inr fun e2 => ?_
          obtain ⟨cs, hcs⟩ := row_block hevA hu
          obtain ⟨ct, hct⟩ := row_block hwhA e2.symm
          exact type_ne hcs hct (by decide) rfl)
      go_roundw
      case rel => exact ⟨j + 1, _, _, by omega, by go_num, by rw [hA1.out], by rw [hR1.out, Int.min_eq_right (by omega)], rfl, by rw [whensN_succ, hA1.out]; exact ho, hevz, hbz⟩
      case measure => simp [intOf]; omega
    · go_wp2_with (at_builtin; refine wpList_app1 _ (by rfl) _ _ 44 2 (by rfl) .i64 8 Try.underlying44 info_i64 (by omega) V.heap.size wa j wd (whensN c j) (A + R) (by rfl) hwhA ⟨wr.heap.size, 0, none⟩ (by rfl) (Go.Joins.cell_of_block hnb 0) (by omega) (by simp; omega) ?_; intro g cap' wz ho hgz; have hbz := (hb5.alloc s5 (.cells #[.int .i64 (A + R)] 2)).grown hgz (by simp; omega) (fun j hj => (hwh.lt j hj).1); obtain ⟨d0, d1, d2, d3, d4, d5⟩ := HC.out wz hbz)
      have hevz := hevA.kept hgz (by
        cases hu : (Value.slice ea k ec).ownBlock with
        | none => exact .inl rfl
        | some i =>
          refine .inr fun e2 => ?_
          obtain ⟨cs, hcs⟩ := row_block hevA hu
          obtain ⟨ct, hct⟩ := row_block hwhA e2.symm
          exact type_ne hcs hct (by decide) rfl)
      go_roundw
      case rel => exact ⟨j + 1, _, _, by omega, by go_num, by rw [hA1.out], by rw [hR1.out, Int.min_eq_left (by omega)], rfl, by rw [whensN_succ, hA1.out]; exact ho, hevz, hbz⟩
      case measure => simp [intOf]; omega
  case neg =>
  obtain rfl : j = D := by omega
  have hjd : ¬ (j : Int) < c.da := by have := HD.out; omega
  obtain ⟨A, hA⟩ : ∃ A : Nat, (A : Int) = whenAt c j := ⟨(whenAt c j).toNat, by omega⟩
  have HA : Hid ((A : Int) = whenAt c j) := hA
  rw [← hA] at hwb ⊢
  obtain ⟨T, hT⟩ : ∃ T : Nat, (T : Int) = (A : Int) + 2 * c.pe := ⟨((A : Int) + 2 * c.pe).toNat, by omega⟩
  have HT : Hid ((T : Int) = (A : Int) + 2 * c.pe) := hT
  have hT5 : T ≤ 3300 := by omega
  obtain ⟨R, hR⟩ : ∃ R, R = rtoAt c j := ⟨_, rfl⟩
  rw [← hR]
  have hT' : (A : Int) + 2 * c.pe = (T : Int) := by omega
  clear hA hR hrb hT
  go_wp2_with fail
  clear c0 c1 c2 c3 c4 c5 hjd hwb s5 hT'
  go_loopw [10, 17] (fun ev i wx => ∃ (t : Nat) (ea : Option Addr) (ec : Nat), t ≤ T ∧ i = .int .i64 t ∧ ev = .slice ea (k + t) ec ∧ wx.ownsRow V.heap.size 43 3 (.slice ea (k + t) ec) (k + t) (flat3 .i64 .i64 .u32 (evsN k t)) ∧ wx.ownsRow V.heap.size 2 1 (.slice wa j wd) j ((whensN c j).map (.int .i64)) ∧ Below V.heap.size V wx) (fun _ i _ => T - (intOf i).toNat)
  case atStart => exact ⟨0, _, _, Nat.zero_le _, rfl, rfl, by rw [evsN_zero]; exact hev, hwh, hb5⟩
  case round =>
  clear hev hwh hb5
  obtain ⟨t, ea, ec, ht, rfl, rfl, hev, hwh, hb6⟩ := hrel
  have s6 := hb6.size
  obtain ⟨m, hm1⟩ : ∃ m, m = k + t := ⟨_, rfl⟩
  rw [← hm1] at hev ⊢
  have HM : Hid (m = k + t) := hm1
  have hm5 : m ≤ 3400 := by omega
  have HEL : Hid ((evsN k t).length = m) := by unfold Hid; rw [evsN_length, hm1]
  clear hm1
  by_cases hlt3 : t < T
  case pos =>
    have hnb : (wr.alloc (.cells #[.int .i64 3, .int .i64 0, .int .u32 0] 43)).heap[wr.heap.size]? = some (.cells #[.int .i64 3, .int .i64 0, .int .u32 0] 43) := box_new _ _ _ rfl
    have hevA := own_alloc hev (.cells #[.int .i64 3, .int .i64 0, .int .u32 0] 43)
    have hwhA := own_alloc hwh (.cells #[.int .i64 3, .int .i64 0, .int .u32 0] 43)
    go_wp2_with (at_builtin; refine wpList_app3 _ (by rfl) _ _ 36 43 (by rfl) .i64 .i64 .u32 24 Try.underlying36 info_ev (by omega) V.heap.size ea m ec (evsN k t) HEL.out 3 0 0 (by rfl) hevA wr.heap.size (by rfl) (Go.Joins.cell_of_block hnb 0) (Go.Joins.cell_of_block hnb 1) (Go.Joins.cell_of_block hnb 2) (by omega) (by simp; omega) ?_; intro g cap' wz ho hgz)
    have hbz := (hb6.alloc s6 (.cells #[.int .i64 3, .int .i64 0, .int .u32 0] 43)).grown hgz (by simp; omega) (fun j hj => (hev.lt j hj).1)
    have hwz := hwhA.kept hgz (by
      cases hu : (Value.slice wa j wd).ownBlock with
      | none => exact .inl rfl
      | some i =>
        refine .inr fun e2 => ?_
        obtain ⟨cs, hcs⟩ := row_block hwhA hu
        obtain ⟨ct, hct⟩ := row_block hevA e2.symm
        exact type_ne hcs hct (by decide) rfl)
    have hmt : k + (t + 1) = m + 1 := by have := HM.out; omega
    go_roundw
    case rel => exact ⟨t + 1, _, _, by omega, by go_num, by rw [hmt], by rw [hmt, evsN_succ]; exact ho, hwz, hbz⟩
    case measure => simp [intOf]; omega
  case neg =>
  obtain rfl : t = T := by omega
  have hnb : (wr.alloc (.cells #[.int .i64 1, .int .i64 99, .int .u32 0] 43)).heap[wr.heap.size]? = some (.cells #[.int .i64 1, .int .i64 99, .int .u32 0] 43) := box_new _ _ _ rfl
  have hevA := own_alloc hev (.cells #[.int .i64 1, .int .i64 99, .int .u32 0] 43)
  have hwhA := own_alloc hwh (.cells #[.int .i64 1, .int .i64 99, .int .u32 0] 43)
  have HEL2 : Hid ((evsN k t ++ [(1, 99, 0)]).length = m + 1) := by unfold Hid; rw [List.length_append, HEL.out]; rfl
  have HMT : Hid (m + 1 + 1 = k + t + 2) := by unfold Hid; have := HM.out; omega
  go_wp2_with (at_builtin; first
    | (refine wpList_app3 _ (by rfl) _ _ 36 43 (by rfl) .i64 .i64 .u32 24 Try.underlying36 info_ev (by omega) V.heap.size ea m ec (evsN k t) HEL.out 1 99 0 (by rfl) hevA wr.heap.size (by rfl) (Go.Joins.cell_of_block hnb 0) (Go.Joins.cell_of_block hnb 1) (Go.Joins.cell_of_block hnb 2) (by omega) (by simp; omega) ?_; intro g cap' wz ho hgz; have hbz := (hb6.alloc s6 (.cells #[.int .i64 1, .int .i64 99, .int .u32 0] 43)).grown hgz (by simp; omega) (fun j hj => (hev.lt j hj).1); obtain ⟨c0, c1, c2, c3, c4, c5⟩ := HC.out wz hbz; have hsz := hbz.size)
    | (refine wpList_app3 _ (by rfl) _ _ 36 43 (by rfl) .i64 .i64 .u32 24 Try.underlying36 info_ev (by omega) V.heap.size (some ⟨g, 0, none⟩) (m + 1) cap' (evsN k t ++ [(1, 99, 0)]) HEL2.out 2 0 ((c.isn + 1) % 4294967296) (by rfl) (own_alloc ho _) wz.heap.size (by rfl) (Go.Joins.cell_of_block (box_new wz (.cells #[.int .i64 2, .int .i64 0, .int .u32 ((c.isn + 1) % 4294967296)] 43) wz.heap.size rfl) 0) (Go.Joins.cell_of_block (box_new wz (.cells #[.int .i64 2, .int .i64 0, .int .u32 ((c.isn + 1) % 4294967296)] 43) wz.heap.size rfl) 1) (Go.Joins.cell_of_block (box_new wz (.cells #[.int .i64 2, .int .i64 0, .int .u32 ((c.isn + 1) % 4294967296)] 43) wz.heap.size rfl) 2) (by omega) (by simp; omega) ?_; intro g2 cap2 wq ho2 hgq; have hbq := (hbz.alloc hsz (.cells #[.int .i64 2, .int .i64 0, .int .u32 ((c.isn + 1) % 4294967296)] 43)).grown hgq (by simp; omega) (fun j hj => (ho.lt j hj).1); obtain ⟨d0, d1, d2, d3, d4, d5⟩ := HC.out wq hbq))
  have hwz := hwhA.kept hgz (by
      cases hu : (Value.slice wa j wd).ownBlock with
      | none => exact .inl rfl
      | some i =>
        refine .inr fun e2 => ?_
        obtain ⟨cs, hcs⟩ := row_block hwhA hu
        obtain ⟨ct, hct⟩ := row_block hevA e2.symm
        exact type_ne hcs hct (by decide) rfl)
  have hwzA := own_alloc hwz (.cells #[.int .i64 2, .int .i64 0, .int .u32 ((c.isn + 1) % 4294967296)] 43)
  have hozA := own_alloc ho (.cells #[.int .i64 2, .int .i64 0, .int .u32 ((c.isn + 1) % 4294967296)] 43)
  have hwq := hwzA.kept hgq (by
      cases hu : (Value.slice wa j wd).ownBlock with
      | none => exact .inl rfl
      | some i =>
        refine .inr fun e2 => ?_
        obtain ⟨cs, hcs⟩ := row_block hwzA hu
        obtain ⟨ct, hct⟩ := row_block hozA e2.symm
        exact type_ne hcs hct (by decide) rfl)
  clear hnb hevA hwhA hev hwh hb6 s6 hwz hwzA hozA ho hgz hgq hbz
  have hfull : evsN k t ++ [(1, 99, 0)] ++ [(2, 0, ((c.isn + 1) % 4294967296))] = fullN c k t := rfl
  rw [hfull] at ho2
  have HFL : Hid ((fullN c k t).length = m + 1 + 1) := by unfold Hid; rw [fullN_length, HMT.out]
  obtain ⟨N, hN⟩ : ∃ N, N = m + 1 + 1 := ⟨_, rfl⟩
  rw [← hN] at ho2 HFL ⊢
  have hN5 : N ≤ 4000 := by omega
  have HN : Hid (N = k + t + 2) := by unfold Hid; have := HM.out; omega
  clear hN
  have hrun := implRun_ok c hc hi (some ⟨g2, 0, none⟩) (fullN c k t) N cap2 wq HFL.out hN5 (full_fit c k t) (Lie3.ofRow HFL.out ho2)
  go_wp2_with fail
  refine hrun.mono ?_
  rintro e wS ⟨oa, oc, G, rfl, hO, hG, hbS⟩
  have hbVS := hbq.trans (hbS.mono hbq.size)
  have hwS := owned_kept hwq hbS
  have HG : Hid (∀ (i : Nat) (o : Ot), (outsF c (startF c) (fullN c k t))[i]? = some o → ∃ fv av, G[i]? = some (o, fv, av)) := by
    unfold Hid
    intro i o h
    rw [← hG, List.getElem?_map] at h
    cases hg : G[i]? with
    | none => rw [hg] at h; simp at h
    | some p =>
      rw [hg] at h
      simp only [Option.map_some, Option.some.injEq] at h
      exact ⟨p.2.1, p.2.2, by rw [← h]⟩
  have HSM : Hid (Small G) := small_of hc (by rw [HFL.out]; exact hN5) hG
  have HO : Hid _ := hO
  have hsS := hbVS.size
  have hwI := Ints.ofRow hwS
  rcases hwI with h0 | ⟨wb, wo, hwe, hwc⟩
  · have := whensN_length c j
    rw [h0] at this
    simp at this
    omega
  subst hwe
  have HWC : Hid (∀ (U : World), Below wS.heap.size wS U → ∀ i, i < j → U.cell? ⟨wb, wo + i, none⟩ = some (.int .i64 (whenAt c (i + 1)))) := by
    unfold Hid
    intro U hU i hij
    have h1 := hwc i (by rw [whensN_length]; exact hij)
    rw [whensN_at c j i hij] at h1
    rw [hU.cell (World.block_lt_of_cell? wS _ h1)]
    exact h1
  have hst0 := dat_start c hc k hn1 hn2
  clear hrun hbq ho2 hwq hbS hwS hG hO hwc d0 d1 d2 d3 d4 d5
  go_wp2_with fail
  go_loopw [20, 21] (fun nx tv wx => ∃ (t1 q : Nat), t1 ≤ t ∧ tv = .int .i64 ((t1 : Int) + 1) ∧ nx = .int .i64 (q : Int) ∧ q ≤ j ∧ DAt c k t1 q ∧ Below wS.heap.size wS wx) (fun _ tv _ => t + 1 - (intOf tv).toNat)
  case atStart => exact ⟨0, 0, Nat.zero_le _, rfl, rfl, Nat.zero_le _, hst0, Below.refl _ _⟩
  case round =>
  clear hst0
  obtain ⟨t1, q, ht1, rfl, rfl, hqj, hDA, hbx⟩ := hrel
  have sx := hbx.size
  by_cases hlt4 : t1 < t
  case pos =>
    obtain ⟨o, hoe⟩ : ∃ o, Hid (o = tickO c k t1) := ⟨_, rfl⟩
    have hft := full_tick c k t1 t hlt4
    rw [← hoe.out] at hft
    obtain ⟨fv, av', hp⟩ := HG.out _ _ hft
    obtain ⟨g, cc, e1, _, hlg, q0, q1, q2, q3, q4, _⟩ := at5 HO.out.row rfl hp
    have hfr := HO.out.fr _ (List.mem_of_getElem? hp)
    have hak := HO.out.ak _ (List.mem_of_getElem? hp)
    simp only at hfr hak
    obtain ⟨fa, fc, rfl⟩ := own_shape hfr
    obtain ⟨aa, ac, rfl⟩ := own_shape hak
    simp only [Value.slice.injEq] at e1
    obtain ⟨rfl, en1, rfl⟩ := e1
    clear en1
    have hsm := HSM.out _ (List.mem_of_getElem? hp)
    simp only at hsm
    have hLie := Lie3.ofRow rfl hfr
    obtain ⟨NF, hNF⟩ : ∃ NF, Hid (NF = o.frames.length) := ⟨_, rfl⟩
    obtain ⟨NA, hNA⟩ : ∃ NA, Hid (NA = o.acked.length) := ⟨_, rfl⟩
    rw [← hNF.out] at q1 hsm
    rw [← hNA.out] at q2 hsm
    obtain ⟨I, hI⟩ : ∃ I, I = k + t1 := ⟨_, rfl⟩
    rw [← hI] at q0 q1 q2 q3 q4
    have hix : (k : Int) + ((t1 : Int) + 1) - 1 = (I : Int) := by omega
    have hIN : (I : Int) < (N : Int) := by have := HN.out; omega
    have r0 := (hbx.cell (p := ⟨g, I * 5, none⟩) hlg).trans q0
    have r1 := (hbx.cell (p := ⟨g, I * 5 + 1, none⟩) hlg).trans q1
    have r2 := (hbx.cell (p := ⟨g, I * 5 + 2, none⟩) hlg).trans q2
    have r3 := (hbx.cell (p := ⟨g, I * 5 + 3, none⟩) hlg).trans q3
    have r4 := (hbx.cell (p := ⟨g, I * 5 + 4, none⟩) hlg).trans q4
    obtain ⟨U, hU⟩ : ∃ U, U = wr.alloc (.cells #[.int .i64 o.code, .slice fa NF fc, .slice aa NA ac, .int .i64 o.died, .int .i64 o.revived] 47) := ⟨_, rfl⟩
    have hbU : Below wS.heap.size wS U := by rw [hU]; exact hbx.alloc sx _
    have hOU : U.heap[wr.heap.size]? = some (.cells #[.int .i64 o.code, .slice fa NF fc, .slice aa NA ac, .int .i64 o.died, .int .i64 o.revived] 47) := by rw [hU]; exact box_new _ _ _ rfl
    have zU : wr.heap.size < U.heap.size := by rw [hU]; simp
    clear q0 q1 q2 q3 q4 hp hft hI hfr hak
    obtain ⟨OB, hOBe⟩ : ∃ OB, OB = wr.heap.size := ⟨_, rfl⟩
    go_upto_region 43 with fail
    rw [← hU, ← hOBe]
    rw [← hOBe] at hOU zU
    clear hU r0 r1 r2 r3 r4 hOBe
    have HWU := HWC.out U hbU
    obtain ⟨c0, c1, c2, c3, c4, c5⟩ := HC.out U (hbVS.trans (hbU.mono hsS))
    have hwq := when_bounds c hc q
    go_cut [157] from 134 to 227 (fun p wx => p = .bool (decide (q < j ∧ whenAt c (q + 1) = (t1 : Int) + 1)) ∧ wx = U)
    case first =>
      by_cases hq : q < j
      · have hcq := HWU q hq
        have hqi : (q : Int) < (j : Int) := by omega
        obtain ⟨A2, hA2⟩ : ∃ A2, Hid (A2 = whenAt c (q + 1)) := ⟨_, rfl⟩
        rw [← hA2.out] at hcq
        by_cases hw : A2 = (t1 : Int) + 1
        · have hwb2 : (A2 == (t1 : Int) + 1) = true := by simpa using hw
          have HW : Hid (A2 = (t1 : Int) + 1) := hw
          clear hw HWU
          go_wp2_with fail
          go_meet
          case rel => exact ⟨by have h1 := HW.out; rw [hA2.out] at h1; simp [hq, h1], rfl⟩
        · have hwb2 : (A2 == (t1 : Int) + 1) = false := by simpa using hw
          have HW : Hid (¬ A2 = (t1 : Int) + 1) := hw
          clear hw HWU
          go_wp2_with fail
          go_meet
          case rel => exact ⟨by have h1 := HW.out; rw [hA2.out] at h1; simp [h1], rfl⟩
      · have hqd : decide ((q : Int) < (j : Int)) = false := by simp; omega
        have HQ : Hid (¬ q < j) := hq
        have HQJ : Hid (q ≤ j) := hqj
        clear HWU hq hqj
        go_wp2_with fail
        go_meet
        case rel => exact ⟨by have h1 := HQ.out; simp; omega, rfl⟩
    case rest =>
      obtain ⟨rfl, rfl⟩ := hcut
      clear HWU
      go_upto_if 157 with fail
      go_cut [20, 23, 24, 25] from 134 to 227 (fun nx fr kd dd wx => ∃ (q2 : Nat) (kd2 : Int), nx = .int .i64 (q2 : Int) ∧ fr = .int .i64 (NF : Int) ∧ kd = .int .i64 kd2 ∧ dd = .int .i64 o.died ∧ q2 ≤ j ∧ DAt c k (t1 + 1) q2 ∧ FrOk c o.frames kd2 ∧ o.code = 0 ∧ wx = wc)
      case first =>
        have hdj : c.da = (j : Int) := HD.out.symm
        have hstep := dat_step c hc k t1 q hn1 hDA
        rw [← hoe.out] at hstep
        obtain ⟨P, hP⟩ : ∃ P, P = decide (q < j ∧ whenAt c (q + 1) = (t1 : Int) + 1) := ⟨_, rfl⟩
        rw [← hP]
        have HP : Hid (P = decide (q < j ∧ whenAt c (q + 1) = (t1 : Int) + 1)) := hP
        have HA2 : Hid ((A : Int) = whenAt c j) := HA.out
        have hAj : ∀ x : Nat, x ≤ j → whenAt c x ≤ (A : Int) := fun x hx => by rw [HA2.out]; exact when_mono c hc x j hx
        rcases hstep with ⟨s1, s2, s3, s4, s5⟩ | ⟨s1, s2, s3, s4, s5⟩ | ⟨s1, s2, s4, s5⟩ | ⟨s1, s2, s3, s4, s5⟩ | ⟨s1, s2, s3, s4, s5⟩
        · have hPt : P = true := by rw [hP]; simp only [decide_eq_true_eq]; exact ⟨by omega, s2⟩
          have hnl : ((q : Int) + 1 == (j : Int)) = false := by simp; omega
          have HNF : Hid (NF = k) := by unfold Hid; rw [hNF.out, s4]; simp only [again_length, tagsN_length]
          have HS4 : Hid _ := s4
          have HS5 : Hid _ := s5
          have hq1 : Hid (q + 1 ≤ j) := by unfold Hid; omega
          have hqb : q ≤ 8 := by omega
          clear s1 s2 s3 s4 s5 hP HP hdj hAj hwq
          subst hPt
          go_wp2_with fail
          go_meet
          case rel => exact ⟨q + 1, 2, by go_num, by rw [HNF.out], rfl, by rw [HS4.out], hq1.out, HS5.out, by rw [HS4.out]; exact frOk_again c k, by rw [HS4.out], rfl⟩
        · have hPt : P = true := by rw [hP]; simp only [decide_eq_true_eq]; exact ⟨by omega, s2⟩
          have hnl : ((q : Int) + 1 == (j : Int)) = true := by simp; omega
          have HNF : Hid (NF = 0) := by unfold Hid; rw [hNF.out, s4]; rfl
          have HS4 : Hid _ := s4
          have HS5 : Hid _ := s5
          have hq1 : Hid (q + 1 ≤ j) := by unfold Hid; omega
          have hqb : q ≤ 8 := by omega
          clear s1 s2 s3 s4 s5 hP HP hdj hAj hwq
          subst hPt
          go_wp2_with fail
          go_meet
          case rel => exact ⟨q + 1, 2, by go_num, by rw [HNF.out]; rfl, rfl, by rw [HS4.out], hq1.out, HS5.out, by rw [HS4.out]; exact frOk_nil c 2, by rw [HS4.out], rfl⟩
        · have hPt : P = false := by rw [hP]; simp only [decide_eq_false_iff_not]; omega
          have h3 := hAj (q + 1) (by omega)
          have hta : decide ((A : Int) < (t1 : Int) + 1) = false := by simp; omega
          have HNF : Hid (NF = 0) := by unfold Hid; rw [hNF.out, s4]; rfl
          have HS4 : Hid _ := s4
          have HS5 : Hid _ := s5
          have hq1 : Hid (q ≤ j) := hqj
          clear s1 s2 s4 s5 hP HP hdj hAj hwq h3 hqj
          subst hPt
          go_wp2_with fail
          go_meet
          case rel => exact ⟨q, 2, rfl, by rw [HNF.out]; rfl, rfl, by rw [HS4.out], hq1.out, HS5.out, by rw [HS4.out]; exact frOk_nil c 2, by rw [HS4.out], rfl⟩
        · have hqe : q = j := by omega
          have hAw : whenAt c q = (A : Int) := by rw [hqe]; exact HA2.out.symm
          have hPt : P = false := by rw [hP]; simp only [decide_eq_false_iff_not]; omega
          rw [hAw] at s2 s3
          have hta : decide ((A : Int) < (t1 : Int) + 1) = true := by simp; omega
          have hpe : 0 < c.pe := by omega
          have hre : ((wrap64 ((t1 : Int) + 1 - (A : Int))).tmod c.pe == 0) = true := by
            have e1 : wrap64 ((t1 : Int) + 1 - (A : Int)) = (t1 : Int) + 1 - (A : Int) := by unfold wrap64; omega
            rw [e1, Int.tmod_eq_emod_of_nonneg (by omega)]
            simpa using s3
          have HNF : Hid (NF = 1) := by unfold Hid; rw [hNF.out, s4]; rfl
          have HS4 : Hid _ := s4
          have HS5 : Hid _ := s5
          have hq1 : Hid (q ≤ j) := hqj
          clear s1 s2 s3 s4 s5 hP HP hdj hAj hwq hqj hqe hAw
          subst hPt
          go_wp2_with fail
          go_meet
          case rel => exact ⟨q, 3, rfl, by rw [HNF.out]; rfl, rfl, by rw [HS4.out], hq1.out, HS5.out, by rw [HS4.out]; exact frOk_probe c, by rw [HS4.out], rfl⟩
        · have hqe : q = j := by omega
          have hAw : whenAt c q = (A : Int) := by rw [hqe]; exact HA2.out.symm
          have hPt : P = false := by rw [hP]; simp only [decide_eq_false_iff_not]; omega
          rw [hAw] at s2 s3
          have hta : decide ((A : Int) < (t1 : Int) + 1) = true := by simp; omega
          have hpe : 0 < c.pe := by omega
          have hre : ((wrap64 ((t1 : Int) + 1 - (A : Int))).tmod c.pe == 0) = false := by
            have e1 : wrap64 ((t1 : Int) + 1 - (A : Int)) = (t1 : Int) + 1 - (A : Int) := by unfold wrap64; omega
            rw [e1, Int.tmod_eq_emod_of_nonneg (by omega)]
            simpa using s3
          have HNF : Hid (NF = 0) := by unfold Hid; rw [hNF.out, s4]; rfl
          have HS4 : Hid _ := s4
          have HS5 : Hid _ := s5
          have hq1 : Hid (q ≤ j) := hqj
          clear s1 s2 s3 s4 s5 hP HP hdj hAj hwq hqj hqe hAw
          subst hPt
          go_wp2_with fail
          go_meet
          case rel => exact ⟨q, 2, rfl, by rw [HNF.out]; rfl, rfl, by rw [HS4.out], hq1.out, HS5.out, by rw [HS4.out]; exact frOk_nil c 2, by rw [HS4.out], rfl⟩
      case rest =>
        obtain ⟨q2, kd2, rfl, rfl, rfl, rfl, hq2, hD2, hFr, hco, rfl⟩ := hcut
        clear hDA hqj hwq
        obtain ⟨⟨o0, o1, o2, o3, o4⟩, _⟩ := cells5 hOU
        rw [hco] at o0
        have HFr : Hid _ := hFr
        have HD2 : Hid _ := hD2
        clear hFr hD2 hco
        have hNF5 : NF ≤ 5000 := hsm.1
        go_wp2_with fail
        clear o0 o1 o2 o3 o4 c0 c1 c2 c3 c4 c5
        go_loopw [26] (fun kk wx => ∃ x : Nat, x ≤ NF ∧ kk = .int .i64 x ∧ Below wc.heap.size wc wx) (fun kk _ => NF - (intOf kk).toNat)
        case atStart => exact ⟨0, Nat.zero_le _, rfl, Below.refl _ _⟩
        case round =>
        obtain ⟨x, hxN, rfl, hbl⟩ := hrel
        have sl := hbl.size
        by_cases hlt5 : x < NF
        case pos =>
          rcases hLie with h0 | ⟨fb, fo, rfl, hfc⟩
          · have := hNF.out; rw [h0] at this; simp at this; omega
          have hxl : x < o.frames.length := by have := hNF.out; omega
          obtain ⟨z0, z1, z2⟩ := hfc x hxl
          obtain ⟨h1, h2, h3⟩ := HFr.out x hxl
          rw [h1] at z0
          obtain ⟨sq, hsq⟩ : ∃ sq, (c.isn + (x : Int)) % 4294967296 = sq := ⟨_, rfl⟩
          rw [h2, hsq] at z1
          obtain ⟨tg, htg⟩ : ∃ tg, (o.frames[x]'hxl).2.2 = tg := ⟨_, rfl⟩
          rw [htg] at z2 h3
          clear htg
          have su := hbU.size
          have hbn := hbU.trans (hbl.mono hbU.size)
          have y0 := (hbn.cell (World.block_lt_of_cell? wS _ z0)).trans z0
          have y1 := (hbn.cell (World.block_lt_of_cell? wS _ z1)).trans z1
          have y2 := (hbn.cell (World.block_lt_of_cell? wS _ z2)).trans z2
          obtain ⟨⟨o0, o1, o2, o3, o4⟩, _⟩ := cells5 ((hbl.block _ zU).trans hOU)
          obtain ⟨c0, c1, c2, c3, c4, c5⟩ := HC.out wr (hbVS.trans (hbn.mono hsS))
          have n1 : ¬ OB = wr.heap.size := by omega
          have n2 : ¬ w1.heap.size = wr.heap.size := by omega
          have n3 : OB < wr.heap.size := by omega
          have n4 : w1.heap.size < wr.heap.size := by omega
          have hbl2 := hbl.alloc sl (.cells #[.int .i64 kd2, .int .u32 sq, .int .i64 tg] 49)
          clear hfc z0 z1 z2 h1 h2 hxl
          by_cases hk2 : kd2 = 2
          · have ht7 := h3 hk2
            subst hk2 ht7
            clear h3
            go_wp2_with fail
            go_roundw
            case rel => exact ⟨x + 1, by omega, by go_num, hbl2⟩
            case measure => simp [intOf]; omega
          · have hkb : (kd2 == 2) = false := by simpa using hk2
            clear h3
            go_wp2_with fail
            go_roundw
            case rel => exact ⟨x + 1, by omega, by go_num, hbl2⟩
            case measure => simp [intOf]; omega
        case neg =>
          obtain rfl : x = NF := by omega
          have hbn := hbU.trans (hbl.mono hbU.size)
          go_wp2_with fail
          go_roundw
          case rel => exact ⟨t1 + 1, q2, by omega, by go_num, rfl, hq2, HD2.out, hbn⟩
          case measure => simp [intOf]; omega
  case neg =>
  obtain rfl : t1 = t := by omega
  have hTA : whenAt c j ≤ (t1 : Int) := by have := HT.out; have := HA.out; omega
  obtain ⟨fv1, av1, hp1⟩ := HG.out _ _ (full_send c hc k hn1 hn2 j t1 HD.out hTA)
  obtain ⟨fv2, av2, hp2⟩ := HG.out _ _ (full_ack c hc hi k hn1 hn2 j t1 HD.out hTA)
  obtain ⟨g, cc, e1, _, hlg, q0, _⟩ := at5 HO.out.row rfl hp1
  obtain ⟨g', cc', e2, _, _, u0, u1, u2, u3, u4, _⟩ := at5 HO.out.row rfl hp2
  have hfr := HO.out.fr _ (List.mem_of_getElem? hp2)
  have hak := HO.out.ak _ (List.mem_of_getElem? hp2)
  simp only at hfr hak u0 u1 u2 u3 u4 q0
  have hlf : (againF c 1 ((tagsN k).drop 1)).length = k - 1 := by rw [again_length, List.length_drop, tagsN_length]
  have hla : ((tagsN k).take 1).length = 1 := by rw [List.length_take, tagsN_length]; omega
  rw [hlf] at hfr
  rw [hla] at hak
  obtain ⟨fa, fc, rfl⟩ := own_shape hfr
  obtain ⟨aa, ac, rfl⟩ := own_shape hak
  rw [e2] at e1
  simp only [Value.slice.injEq, Option.some.injEq, Addr.mk.injEq, and_true] at e1 e2
  obtain ⟨rfl, _⟩ := e1
  obtain ⟨rfl, en1, rfl⟩ := e2
  clear en1
  have hLie := Lie3.ofRow hlf hfr
  have hIa := Ints.ofRow hak
  rcases hIa with h0 | ⟨ab, ao, rfl, hac⟩
  · rw [h0] at hla; simp at hla
  have ha0 := hac 0 (by omega)
  have hg0 : ((tagsN k).take 1).getD 0 0 = 0 := by
    rw [List.getD_eq_getElem?_getD, List.getElem?_take_of_lt (by omega), ← List.getD_eq_getElem?_getD, tags_at k 0 (by omega)]
    rfl
  rw [hg0, Nat.add_zero] at ha0
  obtain ⟨K1, hK1⟩ : ∃ K1, K1 = k - 1 := ⟨_, rfl⟩
  rw [← hK1] at u1 hlf
  have hKi : (k : Int) - 1 = (K1 : Int) := by omega
  have HK1 : Hid (K1 = k - 1) := hK1
  obtain ⟨I1, hI1⟩ : ∃ I1, I1 = k + t1 := ⟨_, rfl⟩
  obtain ⟨I2, hI2⟩ : ∃ I2, I2 = k + t1 + 1 := ⟨_, rfl⟩
  rw [← hI1] at q0
  rw [← hI2] at u0 u1 u2 u3 u4
  have hx1 : (N : Int) - 1 = (I2 : Int) := by have := HN.out; omega
  have hx2 : (N : Int) - 2 = (I1 : Int) := by have := HN.out; omega
  have hl1 : (I1 : Int) < (N : Int) := by have := HN.out; omega
  have hl2 : (I2 : Int) < (N : Int) := by have := HN.out; omega
  have r0 := (hbx.cell (p := ⟨g', I1 * 5, none⟩) hlg).trans q0
  have v0 := (hbx.cell (p := ⟨g', I2 * 5, none⟩) hlg).trans u0
  have v1 := (hbx.cell (p := ⟨g', I2 * 5 + 1, none⟩) hlg).trans u1
  have v2 := (hbx.cell (p := ⟨g', I2 * 5 + 2, none⟩) hlg).trans u2
  have v3 := (hbx.cell (p := ⟨g', I2 * 5 + 3, none⟩) hlg).trans u3
  have v4 := (hbx.cell (p := ⟨g', I2 * 5 + 4, none⟩) hlg).trans u4
  have ha1 := (hbx.cell (World.block_lt_of_cell? wS _ ha0)).trans ha0
  have n0 : ¬ g' = wr.heap.size := by omega
  have n1 : ¬ ab = wr.heap.size := by have := World.block_lt_of_cell? wS _ ha0; simp only at this; omega
  have n2 : g' < wr.heap.size := by omega
  have n3 : ab < wr.heap.size := by have := World.block_lt_of_cell? wS _ ha0; simp only at this; omega
  have hbU := hbx.alloc sx (.cells #[.int .i64 0, .slice fa K1 fc, .slice (some ⟨ab, ao, none⟩) 1 ac, .int .i64 0, .int .i64 1] 47)
  have hOU : (wr.alloc (.cells #[.int .i64 0, .slice fa K1 fc, .slice (some ⟨ab, ao, none⟩) 1 ac, .int .i64 0, .int .i64 1] 47)).heap[wr.heap.size]? = some (.cells #[.int .i64 0, .slice fa K1 fc, .slice (some ⟨ab, ao, none⟩) 1 ac, .int .i64 0, .int .i64 1] 47) := box_new _ _ _ rfl
  have zU : wr.heap.size < (wr.alloc (.cells #[.int .i64 0, .slice fa K1 fc, .slice (some ⟨ab, ao, none⟩) 1 ac, .int .i64 0, .int .i64 1] 47)).heap.size := by simp
  clear q0 u0 u1 u2 u3 u4 hp1 hp2 hI1 hI2 hfr hak ha0 hac hg0 hla hDA hK1
  go_wp2_with fail
  clear r0 v0 v1 v2 v3 v4 ha1
  obtain ⟨U, hU, hbU2, hOU2, zU2⟩ : ∃ U, U = wr.alloc (.cells #[.int .i64 0, .slice fa K1 fc, .slice (some ⟨ab, ao, none⟩) 1 ac, .int .i64 0, .int .i64 1] 47) ∧ Below wS.heap.size wS U ∧ U.heap[wr.heap.size]? = some (.cells #[.int .i64 0, .slice fa K1 fc, .slice (some ⟨ab, ao, none⟩) 1 ac, .int .i64 0, .int .i64 1] 47) ∧ wr.heap.size < U.heap.size := ⟨_, rfl, hbU, hOU, zU⟩
  obtain ⟨OB, hOBe⟩ : ∃ OB, OB = wr.heap.size := ⟨_, rfl⟩
  rw [← hU, ← hOBe]
  rw [← hOBe] at hOU2 zU2
  clear hU hOBe n0 n1 n2 n3 hbU hOU zU
  go_loopw [29] (fun kk wx => ∃ x : Nat, x ≤ K1 ∧ kk = .int .i64 x ∧ Below U.heap.size U wx) (fun kk _ => K1 - (intOf kk).toNat)
  case atStart => exact ⟨0, Nat.zero_le _, rfl, Below.refl _ _⟩
  case round =>
  obtain ⟨x, hxN, rfl, hbl⟩ := hrel
  have sl := hbl.size
  have hbn := hbU2.trans (hbl.mono hbU2.size)
  by_cases hlt6 : x < K1
  case pos =>
    rcases hLie with h0 | ⟨fb, fo, rfl, hfc⟩
    · rw [h0] at hlf; simp at hlf; omega
    obtain ⟨z0, z1, z2⟩ := hfc x (by omega)
    rw [again_at] at z0 z1 z2
    simp only at z0 z1 z2
    have htx : ((tagsN k).drop 1).getD x 0 = 7 * ((x : Int) + 1) := by
      rw [List.getD_eq_getElem?_getD, List.getElem?_drop, ← List.getD_eq_getElem?_getD, tags_at k (1 + x) (by have := HK1.out; omega)]
      omega
    rw [htx] at z2
    have y0 := (hbn.cell (World.block_lt_of_cell? wS _ z0)).trans z0
    have y2 := (hbn.cell (World.block_lt_of_cell? wS _ z2)).trans z2
    obtain ⟨⟨o0, o1, o2, o3, o4⟩, _⟩ := cells5 ((hbl.block _ zU2).trans hOU2)
    clear hfc z0 z1 z2 htx
    go_wp2_with fail
    go_roundw
    case rel => exact ⟨x + 1, by omega, by go_num, hbl⟩
    case measure => simp [intOf]; omega
  case neg =>
    have hge : ¬ (x : Int) < (K1 : Int) := by omega
    go_wp2
    go_ret
    exact ⟨rfl, hbV.trans ((hbVS.trans (hbn.mono hsS)).mono hbV.size)⟩
end Go.Proofs.Ytincfdhfoaimbaa
