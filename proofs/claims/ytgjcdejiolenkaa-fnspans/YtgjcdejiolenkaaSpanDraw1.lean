import Derived.Test.YtgjcdejiolenkaaSpansMath
import Derived.Test.YtgjcdejiolenkaaDrawsG
import Derived.LoopTactic
import Derived.Deep.Cut
import Derived.Deep.CutRange
namespace Go.Proofs.Ytgjcdejiolenkaa
open Go.ChangeShapes Go.WideShapes Go.ChangeAt Go.RowKit
set_option linter.unusedVariables false

/-- A span, as it is drawn behind the place at. -/
def oneF (zs : List Int) (wide : Bool) (σ : Src) (at_ : Int) : (Int × Int) × Src :=
  let x1 := nextF zs σ 6
  let lo := IntKind.u64.wrap (at_ + x1.1)
  let x2 := nextF zs x1.2 6
  let hi := IntKind.u64.wrap (IntKind.u64.wrap (lo + 1) + x2.1)
  if wide then ((lo, IntKind.u64.wrap (hi + (nextF zs x2.2 1099511627776).1)), (nextF zs x2.2 1099511627776).2) else ((lo, hi), x2.2)
/-- k spans more; whether the run went to its end. -/
def runS (zs : List Int) (wide : Bool) : Nat → Src → Int → Sp → Sp × Src × Bool
  | 0, σ, _, out => (out, σ, true)
  | k + 1, σ, at_, out => if (oneF zs wide σ at_).1.2 < (oneF zs wide σ at_).1.1 then (out, (oneF zs wide σ at_).2, false) else runS zs wide k (oneF zs wide σ at_).2 (IntKind.u64.wrap ((oneF zs wide σ at_).1.2 + 1)) (out ++ [(oneF zs wide σ at_).1])
def topLast (S : Sp) : Sp := S.dropLast ++ S.getLast?.toList.map (fun p => (p.1, 18446744073709551615))
theorem topLast_snoc (L : Sp) (u v : Int) : topLast (L ++ [(u, v)]) = L ++ [(u, 18446744073709551615)] := by simp [topLast]
def atF (zs : List Int) (σ : Src) : Int × Src :=
  let x1 := nextF zs σ 5
  let x2 := nextF zs x1.2 6
  if x2.1 = 0 then wordF zs x2.2 else (x1.1, x2.2)
def endF (zs : List Int) (r : Sp × Src × Bool) : Sp × Src :=
  if r.2.2 = false then (r.1, r.2.1) else
  let x := nextF zs r.2.1 12
  if x.1 = 0 ∧ 0 < r.1.length then (topLast r.1, x.2) else (r.1, x.2)
def setF (zs : List Int) (σ : Src) : Sp × Src :=
  let x3 := atF zs σ
  let x4 := nextF zs x3.2 13
  let x5 := nextF zs x4.2 3
  endF zs (runS zs (decide (x5.1 = 0)) x4.1.toNat x5.2 x3.1 [])

theorem kept_src {w w' : World} {base B : Nat} {e : TypeId} {size : Nat} {v : Value} {n : Nat} {xs : List Value} (h : w.ownsRow base e size v n xs) (hg : w.grownBy w' (some B)) (hB : B < base) : w'.ownsRow base e size v n xs := kept_new h hg hB

set_option maxHeartbeats 1000000 in
set_option maxRecDepth 100000 in
theorem drawSet_at (w0 w : World) (b : Nat) (a : Option Addr) (zs : List Int) (cap : Nat) (σ : Src) (hd : DrawAt w0 w b a zs.length cap σ) (hz : Ints .u8 w0 a zs) (hv : ∀ x ∈ zs, 0 ≤ x ∧ x ≤ 255) (hl : zs.length ≤ 2000000) :
    Calls Try.prog 45 #[.pointer (some ⟨b, 0, none⟩), .int .i64 12] w fun e w' => ∃ (av : Option Addr) (cp n : Nat) (S : Sp) (τ : Src), e = .returned (.slice av n cp) ∧ Hid (setF zs σ = (S, τ)) ∧ S.length = n ∧ n ≤ 12 ∧ Fits S ∧
      w'.ownsRow w.heap.size 31 2 (.slice av n cp) n (flat S) ∧ DrawAt w0 w' b a zs.length cap τ ∧ w.grownBy w' (some b) := by
  have hbl := hd.lt
  have hs0 := hd.bel.size
  have hmade : (w.alloc (.cells #[] 31)).ownsRow w.heap.size 31 2 (.slice (some ⟨w.heap.size, 0, none⟩) 0 0) 0 (flat []) := World.ownsRow_made w #[] 0 (Nat.le_refl _) (by unfold maxLen; omega) rfl
  have hd0 := hd.grown (World.grownBy_alloc w (.cells #[] 31) none) (by simp)
  have hg0 : w.grownBy (w.alloc (.cells #[] 31)) (some b) := World.grownBy_alloc w _ _
  go_enter Try.func45, Try.ntmps45
  go_wp2_with fail
  refine (next_at w0 _ b a zs cap σ 5 hd0 hz hv hl (by omega) (by omega)).mono ?_
  rintro e w1 ⟨r1, σ1, rfl, N1, l1, u1, hd1, g1⟩
  go_wp2_with fail
  refine (next_at w0 _ b a zs cap σ1 6 hd1 hz hv hl (by omega) (by omega)).mono ?_
  rintro e w2 ⟨r2, σ2, rfl, N2, l2, u2, hd2, g2⟩
  have g02 := grown_trans (grown_trans hg0 g1) g2
  have ho2 := kept_new (kept_new hmade g1 hbl) g2 hbl
  clear hmade hd0 hg0 g1 g2 hd1 hd
  go_upto_if 18 with fail
  go_cut [6] from 19 to 20 (fun v wx => ∃ (x : Int) (τ : Src), v = .int .u64 x ∧ Hid (atF zs σ = (x, τ)) ∧ 0 ≤ x ∧ x ≤ 18446744073709551615 ∧ wx.ownsRow w.heap.size 31 2 (.slice (some ⟨w.heap.size, 0, none⟩) 0 0) 0 (flat []) ∧ DrawAt w0 wx b a zs.length cap τ ∧ w.grownBy wx (some b))
  case first =>
    by_cases h2 : r2 = 0
    · subst h2
      go_wp2_with fail
      refine (word_at w0 _ b a zs cap σ2 hd2 hz hv hl).mono ?_
      rintro e w3 ⟨r3, σ3, rfl, N3, l3, u3, hd3, g3⟩
      have HA : Hid (atF zs σ = (r3, σ3)) := by unfold Hid atF; simp only [N1.out, N2.out, N3.out, if_pos]
      go_wp2_with fail
      go_meet
      case rel => exact ⟨_, _, rfl, HA, l3, u3, kept_new ho2 g3 hbl, hd3, grown_trans g02 g3⟩
    · have HA : Hid (atF zs σ = (r1, σ2)) := by unfold Hid atF; simp only [N1.out, N2.out, if_neg h2]
      go_wp2_with fail
      go_meet
      case rel => exact ⟨_, _, rfl, HA, l1, by omega, ho2, hd2, g02⟩
  case rest =>
  obtain ⟨at0, σ3, rfl, HA, at1, at2, ho3, hd3, g3⟩ := hcut
  clear ho2 hd2 g02 N1 N2 l1 u1 l2 u2
  go_wp2_with fail
  refine (next_at w0 _ b a zs cap σ3 13 hd3 hz hv hl (by omega) (by omega)).mono ?_
  rintro e w4 ⟨r4, σ4, rfl, N4, l4, u4, hd4, g4⟩
  go_wp2_with fail
  refine (next_at w0 _ b a zs cap σ4 3 hd4 hz hv hl (by omega) (by omega)).mono ?_
  rintro e w5 ⟨r5, σ5, rfl, N5, l5, u5, hd5, g5⟩
  have g05 := grown_trans (grown_trans g3 g4) g5
  have ho5 := kept_new (kept_new ho3 g4 hbl) g5 hbl
  clear g3 g4 g5 ho3 hd3 hd4
  obtain ⟨N, rfl⟩ : ∃ N : Nat, r4 = (N : Int) := ⟨r4.toNat, by omega⟩
  have HR0 : Hid (setF zs σ = endF zs (runS zs (decide (r5 = 0)) N σ5 at0 [])) := by
    unfold Hid setF
    simp only [HA.out, N4.out, N5.out, Int.toNat_natCast]
  obtain ⟨wd, hwd⟩ : ∃ wd : Bool, (r5 == 0) = wd := ⟨_, rfl⟩
  have hwd2 : decide (r5 = 0) = wd := by rw [← hwd]; rfl
  rw [hwd2] at HR0
  have hN12 : N ≤ 12 := by omega
  clear HA N4 N5 hwd2 at1 at2
  go_wp2_with fail
  clear hwd
  go_loopw [5, 6, 9] (fun ov tv iv wr => ∃ (k : Nat) (av : Option Addr) (cp : Nat) (S : Sp) (x : Int) (τ : Src), k ≤ N ∧ iv = .int .i64 (k : Int) ∧ ov = .slice av k cp ∧ tv = .int .u64 x ∧ S.length = k ∧ Fits S ∧ Hid (runS zs wd N σ5 at0 [] = runS zs wd (N - k) τ x S) ∧ wr.ownsRow w.heap.size 31 2 (.slice av k cp) k (flat S) ∧ DrawAt w0 wr b a zs.length cap τ ∧ w.grownBy wr (some b)) (fun _ _ iv _ => N - (intOf iv).toNat)
  case atStart => exact ⟨0, _, _, [], _, _, Nat.zero_le _, rfl, rfl, rfl, rfl, by simp [Fits], rfl, ho5, hd5, g05⟩
  case round =>
  clear ho5 hd5 g05
  obtain ⟨k, av, cp, S, x, τ, hk, rfl, rfl, rfl, hSk, hfS, HRk, hown, hdr, hgr⟩ := hrel
  have HSK : Hid (S.length = k) := hSk
  clear hSk
  by_cases hlt : k < N
  case pos =>
    have hki : (k : Int) < (N : Int) := by omega
    go_wp2_with fail
    refine (next_at w0 _ b a zs cap τ 6 hdr hz hv hl (by omega) (by omega)).mono ?_
    rintro e v1 ⟨a1, τ1, rfl, M1, m1, n1, d1, gg1⟩
    obtain ⟨lo, hlo⟩ : ∃ lo, IntKind.u64.wrap (x + a1) = lo := ⟨_, rfl⟩
    have hlof := wrap64_fits (x + a1)
    rw [hlo] at hlof
    have ho1 := kept_new hown gg1 hbl
    have gr1 := grown_trans hgr gg1
    go_wp2_with fail
    refine (next_at w0 _ b a zs cap τ1 6 d1 hz hv hl (by omega) (by omega)).mono ?_
    rintro e v2 ⟨a2, τ2, rfl, M2, m2, n2, d2, gg2⟩
    obtain ⟨hi, hhi⟩ : ∃ hi, IntKind.u64.wrap (IntKind.u64.wrap (lo + 1) + a2) = hi := ⟨_, rfl⟩
    have hhif := wrap64_fits (IntKind.u64.wrap (lo + 1) + a2)
    rw [hhi] at hhif
    have ho2 := kept_new ho1 gg2 hbl
    have gr2 := grown_trans gr1 gg2
    clear hown ho1 gr1 gg1 gg2 hdr d1 hgr
    go_upto_if 44 with fail
    go_cut [11] from 45 to 49 (fun v wx => ∃ (H : Int) (τ' : Src), v = .int .u64 H ∧ Hid (oneF zs wd τ x = ((lo, H), τ')) ∧ 0 ≤ H ∧ H ≤ 18446744073709551615 ∧ wx.ownsRow w.heap.size 31 2 (.slice av k cp) k (flat S) ∧ DrawAt w0 wx b a zs.length cap τ' ∧ w.grownBy wx (some b))
    case first =>
      cases wd
      case true =>
        go_wp2_with fail
        refine (next_at w0 _ b a zs cap τ2 1099511627776 d2 hz hv hl (by omega) (by omega)).mono ?_
        rintro e v3 ⟨a3, τ3, rfl, M3, m3, n3, d3, gg3⟩
        have HO : Hid (oneF zs true τ x = ((lo, IntKind.u64.wrap (hi + a3)), τ3)) := by unfold Hid oneF; simp only [M1.out, hlo, M2.out, hhi, M3.out, if_pos]
        go_wp2_with fail
        go_meet
        case rel => exact ⟨_, _, rfl, HO, (wrap64_fits _).1, (wrap64_fits _).2, kept_new ho2 gg3 hbl, d3, grown_trans gr2 gg3⟩
      case false =>
        have HO : Hid (oneF zs false τ x = ((lo, hi), τ2)) := by unfold Hid oneF; simp only [M1.out, hlo, M2.out, hhi]; simp
        go_wp2_with fail
        go_meet
        case rel => exact ⟨_, _, rfl, HO, hhif.1, hhif.2, ho2, d2, gr2⟩
    case rest =>
    obtain ⟨H, τ', rfl, HO, H0, H1, hoc, hdc, hgc⟩ := hcut
    clear M1 M2 ho2 d2 gr2 hhi hlo
    have hNk : Hid (N - k = (N - (k + 1)) + 1) := by unfold Hid; omega
    by_cases hlt2 : H < lo
    · have HE : Hid (setF zs σ = (S, τ')) := by
        unfold Hid
        rw [HR0.out, HRk.out, hNk.out, runS, HO.out]
        simp only [if_pos hlt2]
        simp [endF]
      go_wp2_with fail
      go_ret
      exact ⟨_, _, _, S, τ', rfl, HE, HSK.out, by omega, hfS, hoc, hdc, hgc⟩
    · have HE : Hid (runS zs wd N σ5 at0 [] = runS zs wd (N - (k + 1)) τ' (IntKind.u64.wrap (H + 1)) (S ++ [(lo, H)])) := by
        unfold Hid
        rw [HRk.out, hNk.out, runS, HO.out]
        simp only [if_neg hlt2]
      have hcsz := hgc.size
      go_wp2_with (at_builtin; refine wpList_appS _ rfl _ _ (by rfl) w.heap.size av k cp S HSK.out lo H (by rfl) (hoc.alloc _) wc.heap.size (by rfl) (cell_alloc2 _ _ _ _ _ rfl).1 (cell_alloc2 _ _ _ _ _ rfl).2 (by omega) (by simp; omega) ?_; intro g4 cap4 w4 ho4 hg4)
      have hne : ∀ k', (Value.slice av k cp).ownBlock = some k' → w.heap.size ≤ k' := fun k' hk' => (hoc.lt k' hk').1
      have hgA := grown_past (grown_past hgc (World.grownBy_alloc wc (.cells #[.int .u64 lo, .int .u64 H] 31) none) (by simp)) hg4 hne
      have hdA := (hdc.grown (World.grownBy_alloc wc (.cells #[.int .u64 lo, .int .u64 H] 31) none) (by simp)).grown hg4 (fun k' hk' => by have := hne k' hk'; omega)
      go_roundw
      case rel => exact ⟨k + 1, _, _, S ++ [(lo, H)], _, τ', by omega, by go_num, rfl, rfl, by rw [List.length_append, HSK.out]; rfl, by intro p hp; rcases List.mem_append.1 hp with h | h; exact hfS p h; simp at h; subst h; exact ⟨hlof.1, hlof.2, H0, H1⟩, HE, ho4, hdA, hgA⟩
      case measure => simp [intOf]; omega
  case neg =>
  obtain rfl : k = N := by omega
  have hkk : ¬ (k : Int) < (k : Int) := by omega
  go_wp2_with fail
  refine (next_at w0 _ b a zs cap τ 12 hdr hz hv hl (by omega) (by omega)).mono ?_
  rintro e w6 ⟨r6, σ6, rfl, N6, l6, u6, hd6, g6⟩
  have ho6 := kept_new hown g6 hbl
  have g06 := grown_trans hgr g6
  have HR1 : Hid (setF zs σ = endF zs (S, τ, true)) := by
    unfold Hid
    rw [HR0.out, HRk.out, Nat.sub_self, runS]
  clear HR0 HRk hown g6 hgr hdr
  by_cases h6 : r6 = 0
  · have b6 : (r6 == 0) = true := by simpa using h6
    by_cases hk0 : 0 < k
    · obtain ⟨L, u, v, rfl⟩ : ∃ L u v, S = L ++ [(u, v)] := by
        rcases List.eq_nil_or_concat S with h | ⟨A, p, h⟩
        · have := HSK.out; rw [h] at this; simp at this; omega
        · exact ⟨A, p.1, p.2, by rw [h, List.concat_eq_append]⟩
      have HE : Hid (setF zs σ = (L ++ [(u, 18446744073709551615)], σ6)) := by
        unfold Hid
        rw [HR1.out, endF]
        simp only [Bool.true_eq_false, if_false, N6.out]
        rw [if_pos ⟨h6, by simp⟩, topLast_snoc]
      have hkL : k = L.length + 1 := by have := HSK.out; simpa using this.symm
      subst hkL
      rcases ho6.2 with ⟨h', _⟩ | ⟨g, cap', cur, h', _⟩
      · simp at h'
      simp only [Value.slice.injEq] at h'
      obtain ⟨rfl, _, rfl⟩ := h'
      obtain ⟨x1, x2⟩ := lastCells rfl ho6
      have hgb := ho6.lt g rfl
      have hst := storedHi rfl ho6 18446744073709551615
      have n0 : decide ((0 : Int) < (L.length : Int) + 1) = true := by rw [decide_eq_true_iff]; omega
      have n1 : (0 : Int) < (L.length : Int) + 1 := by omega
      have hgs := grown_set w6 g (L.length * 2 + 1) (.int .u64 18446744073709551615)
      go_wp2_with fail
      go_ret
      exact ⟨_, _, _, _, σ6, rfl, HE, by simp, by omega, by intro p hp; rcases List.mem_append.1 hp with h | h; exact hfS p (List.mem_append_left _ h); simp at h; subst h; exact ⟨(hfS (u, v) (by simp)).1, (hfS (u, v) (by simp)).2.1, by omega, by omega⟩, hst, hd6.grown hgs (fun k' hk' => by have := Option.some.inj hk'; omega), grown_past g06 hgs (fun k' hk' => by have := Option.some.inj hk'; omega)⟩
    · have HE : Hid (setF zs σ = (S, σ6)) := by
        unfold Hid
        rw [HR1.out, endF]
        simp only [Bool.true_eq_false, if_false, N6.out]
        rw [if_neg (by have := HSK.out; omega)]
      have n0 : decide ((0 : Int) < (k : Int)) = false := by rw [decide_eq_false_iff_not]; omega
      go_wp2_with fail
      go_ret
      exact ⟨_, _, _, S, σ6, rfl, HE, HSK.out, by omega, hfS, ho6, hd6, g06⟩
  · have b6 : (r6 == 0) = false := by simpa using h6
    have HE : Hid (setF zs σ = (S, σ6)) := by
      unfold Hid
      rw [HR1.out, endF]
      simp only [Bool.true_eq_false, if_false, N6.out]
      rw [if_neg (fun h => h6 h.1)]
    go_wp2_with fail
    go_ret
    exact ⟨_, _, _, S, σ6, rfl, HE, HSK.out, by omega, hfS, ho6, hd6, g06⟩
end Go.Proofs.Ytgjcdejiolenkaa
