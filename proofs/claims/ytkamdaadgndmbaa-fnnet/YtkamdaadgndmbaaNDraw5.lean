import Derived.Test.YtkamdaadgndmbaaNDraw3
namespace Go.Proofs.Ytkamdaadgndmbaa
open Go.ChangeShapes Go.WideShapes Go.ChangeAt Go.RowKit
set_option linter.unusedVariables false

/-! ### DrawNetRun as a function -/
def runS1 (zs : List Int) : Int × Src := nextF zs (0, seedTo zs zs.length) 4
def runS2 (zs : List Int) : Int × Src := nextF zs (runS1 zs).2 5
def runPaths (zs : List Int) : Int := if (runS2 zs).1 = 0 then 8 else 1 + (runS1 zs).1
def runEv (zs : List Int) : List NEv × Src := drawNF zs (runPaths zs) (30 + ((zs.length / 2 : Nat) : Int)) (runS2 zs).2
def runS3 (zs : List Int) : Int × Src := nextF zs (runEv zs).2 30
def upEv : NEv := ⟨6, 0, 0, 0, []⟩
/-- The events, many of them where the third number is 2. -/
def runMany (zs : List Int) : List NEv := ((runEv zs).1 ++ List.replicate (4001 - (runEv zs).1.length) upEv).take (4000 + (nextF zs (runS3 zs).2 2).1).toNat
def runF (zs : List Int) : Int × List NEv :=
  if (runS3 zs).1 = 0 then (0, (runEv zs).1) else if (runS3 zs).1 = 1 then (9, (runEv zs).1) else if (runS3 zs).1 = 2 then (runPaths zs, runMany zs) else (runPaths zs, (runEv zs).1)
theorem upEv_ok : EvOk upEv := ⟨by decide, by decide, by decide, by decide, by decide, by decide, by decide, by decide, by simp [upEv], by simp [upEv]⟩
theorem many_length (zs : List Int) (h0 : 0 ≤ (nextF zs (runS3 zs).2 2).1) (h1 : (nextF zs (runS3 zs).2 2).1 < 2) : (runMany zs).length = (4000 + (nextF zs (runS3 zs).2 2).1).toNat := by
  unfold runMany
  rw [List.length_take, List.length_append, List.length_replicate]
  omega
theorem flatE_take (G : Evs) (m : Nat) : flatE (G.take m) = (flatE G).take (m * 5) := by
  induction G generalizing m with
  | nil => simp [flatE]
  | cons p r ih =>
    cases m with
    | zero => simp [flatE]
    | succ m =>
      have e : (m + 1) * 5 = m * 5 + 5 := by omega
      have := ih m
      simp only [flatE] at this ⊢
      rw [List.take_succ_cons, List.flatMap_cons, List.flatMap_cons, this, e]
      simp
theorem own_take {w : World} {base : Nat} {e : TypeId} {size : Nat} {a : Option Addr} {n cap m : Nat} {xs : List Value} (h : w.ownsRow base e size (.slice a n cap) n xs) (hm : m ≤ n) : w.ownsRow base e size (.slice a m cap) m (xs.take (m * size)) := by
  have hms : m * size ≤ n * size := Nat.mul_le_mul_right _ hm
  refine ⟨by rw [List.length_take, h.1]; omega, ?_⟩
  rcases h.2 with ⟨e1, e2⟩ | ⟨g, cap', cur, e1, hb, hg, h1, h2, h3, h4⟩
  · simp only [Value.slice.injEq] at e1
    obtain ⟨rfl, _, rfl⟩ := e1
    obtain rfl : m = 0 := by omega
    exact .inl ⟨rfl, rfl⟩
  · simp only [Value.slice.injEq] at e1
    obtain ⟨rfl, _, rfl⟩ := e1
    exact .inr ⟨g, cap, cur, rfl, hb, hg, by omega, h2, h3, by rw [← h4, List.take_take, Nat.min_eq_left hms]⟩
theorem EvsN.take {w : World} {base : Nat} {a : Option Addr} {n cap : Nat} {G : Evs} (h : EvsN w base (.slice a n cap) G) (hn : G.length = n) {m : Nat} (hm : m ≤ n) : EvsN w base (.slice a m cap) (G.take m) := by
  refine ⟨?_, fun p hp => h.dat p (List.mem_of_mem_take hp), h.apart.sublist ((List.take_sublist m G).filterMap _)⟩
  have hr := h.row
  rw [hn] at hr
  have := own_take hr hm
  rw [flatE_take, List.length_take, hn, Nat.min_eq_left hm]
  exact this
theorem grown_below {w0 w w' : World} {b : Nat} (h : Below w0.heap.size w0 w) (hg : w.grownBy w' (some b)) (hb : w0.heap.size ≤ b) : Below w0.heap.size w0 w' := h.grown hg h.size (fun k hk => by have := Option.some.inj hk; omega)

set_option maxHeartbeats 1000000 in
set_option maxRecDepth 100000 in
theorem drawRun_at (a : Option Addr) (zs : List Int) (n cap : Nat) (w : World) (hn : zs.length = n) (hz : Ints .u8 w a zs) (hv : ∀ x ∈ zs, 0 ≤ x ∧ x ≤ 255) (hl : n ≤ 1048576) :
    Calls Try.prog 6 #[.slice a n cap] w fun e w' => ∃ (P : Int) (m : Nat) (av : Option Addr) (cp : Nat) (G : Evs), e = .returned (.tuple #[.int .i64 P, .slice av m cp]) ∧ G.length = m ∧ (P, G.map (·.1)) = runF zs ∧ (0 ≤ P ∧ P ≤ 9) ∧ m ≤ 1000003 ∧ (∀ p ∈ G, EvOk p.1) ∧ EvLie w' w'.heap.size av G ∧ Below w.heap.size w w' := by
  subst hn
  have hbg := begin_at w a zs cap hz hv (by omega)
  obtain ⟨sd, hsd⟩ : ∃ sd, Hid (sd = seedTo zs zs.length) := ⟨_, rfl⟩
  rw [← hsd.out] at hbg
  obtain ⟨N, hN⟩ : ∃ N, Hid (N = zs.length) := ⟨_, rfl⟩
  rw [← hN.out] at hbg hl ⊢
  have HNX : Hid (∀ (w1 : World) (b : Nat) (σ1 : Src) (k : Int), DrawAt w w1 b a N cap σ1 → 0 < k → k ≤ 1000 → Calls Try.prog 23 #[.pointer (some ⟨b, 0, none⟩), .int .i64 k] w1 fun e w' => ∃ (r : Int) (σ' : Src), e = .returned (.int .i64 r) ∧ Hid (nextF zs σ1 k = (r, σ')) ∧ 0 ≤ r ∧ r < k ∧ DrawAt w w' b a N cap σ' ∧ w1.grownBy w' (some b)) := fun w1 b σ1 k h1 h2 h3 => by rw [hN.out] at h1 ⊢; exact next_at w w1 b a zs cap σ1 k h1 hz hv (by rw [← hN.out]; omega) h2 (by omega)
  have HDE : Hid (∀ (w1 : World) (b : Nat) (σ : Src) (paths mx : Int), DrawAt w w1 b a N cap σ → 1 ≤ paths → paths ≤ 8 → 1 ≤ mx → mx ≤ 1000000 → Calls Try.prog 24 #[.pointer (some ⟨b, 0, none⟩), .int .i64 paths, .int .i64 mx] w1 fun e w' => ∃ (m : Nat) (av : Option Addr) (cp : Nat), e = .returned (.slice av m cp) ∧ m ≤ 1000003 ∧ ∃ (G : Evs) (σ' : Src), G.length = m ∧ drawNF zs paths mx σ = (G.map (·.1), σ') ∧ (∀ p ∈ G, EvOk p.1) ∧ DrawE w w1 b a N cap (.slice av m cp) G σ' w') := fun w1 b σ paths mx h1 h2 h3 h4 h5 => by rw [hN.out] at h1 ⊢; exact drawEvN_at w w1 b a zs cap σ h1 hz hv (by rw [← hN.out]; omega) paths mx h2 h3 h4 h5
  go_enter Try.func6, Try.ntmps6
  go_wp2_with fail
  refine hbg.mono ?_
  rintro e w1 ⟨rfl, hb1⟩
  have hD0 := drawAt_start hb1 a zs N cap
  rw [← hsd.out] at hD0
  obtain ⟨W, hW⟩ : ∃ W, W = w1.alloc (.cells #[.slice a N cap, .int .i64 0, .int .u64 sd] 55) := ⟨_, rfl⟩
  rw [← hW] at hD0
  obtain ⟨b, hb⟩ : ∃ b, b = w1.heap.size := ⟨_, rfl⟩
  rw [← hb] at hD0
  have hbw : w.heap.size ≤ b := hD0.new
  have h1 := HNX.out W b _ 4 hD0 (by omega) (by omega)
  clear hbg hz hv
  go_upto_region 4 with fail
  rw [← hW, ← hb]
  clear hW hb
  go_wp2_with fail
  refine h1.mono ?_
  rintro e w2 ⟨r1, σ1, rfl, H1, r10, r11, hd2, hg2⟩
  have hS1 : Hid (runS1 zs = (r1, σ1)) := by unfold Hid runS1; rw [← hsd.out, H1.out]
  have h2 := HNX.out w2 b σ1 5 hd2 (by omega) (by omega)
  have hw1 : IntKind.i64.wrap (1 + r1) = 1 + r1 := by rw [IntKind.wrap_i64]; omega
  clear h1 H1 hg2 hD0
  go_wp2_with fail
  refine h2.mono ?_
  rintro e w3 ⟨r2, σ2, rfl, H2, r20, r21, hd3, hg3⟩
  have hS2 : Hid (runS2 zs = (r2, σ2)) := by unfold Hid runS2; rw [hS1.out]; exact H2.out
  obtain ⟨P, hP⟩ : ∃ P, Hid (P = runPaths zs) := ⟨_, rfl⟩
  have hPe : P = if r2 = 0 then 8 else 1 + r1 := by rw [hP.out, runPaths, hS1.out, hS2.out]
  have hP1 : 1 ≤ P ∧ P ≤ 8 := by rw [hPe]; split <;> omega
  have HPE : Hid _ := hPe
  clear h2 H2 hg3 hd2 hPe
  go_upto_if 13 with fail
  go_cut [5] from 12 to 13 (fun pv wx => pv = .int .i64 P ∧ w3 = wx)
  case first =>
    by_cases e2 : r2 = 0
    · have b2 : (r2 == 0) = true := by simpa using e2
      have hPe : P = 8 := by rw [HPE.out, if_pos e2]
      have HQ : Hid _ := e2
      clear e2
      go_wp2_with fail
      go_meet
      case rel => exact ⟨by rw [hPe], rfl⟩
    · have b2 : (r2 == 0) = false := by simpa using e2
      have hPe : P = 1 + r1 := by rw [HPE.out, if_neg e2]
      have HQ : Hid _ := e2
      clear e2
      go_wp2_with fail
      go_meet
      case rel => exact ⟨by rw [hPe], rfl⟩
  case rest =>
  obtain ⟨rfl, rfl⟩ := hcut
  obtain ⟨MX, hMX⟩ : ∃ MX, Hid (MX = 30 + ((N / 2 : Nat) : Int)) := ⟨_, rfl⟩
  have hMX1 : 1 ≤ MX ∧ MX ≤ 1000000 := by rw [hMX.out]; omega
  have hq : 30 + (N : Int) / 2 = MX := by rw [hMX.out]; omega
  have h3 := HDE.out w3 b σ2 P MX hd3 hP1.1 hP1.2 hMX1.1 hMX1.2
  go_wp2_with fail
  clear hq
  refine h3.mono ?_
  rintro e w4 ⟨m, av, cp, rfl, hm1, G, σ3, hGm, hEV, hok, hD4⟩
  have hRE : Hid (runEv zs = (G.map (·.1), σ3)) := by unfold Hid runEv; rw [← hP.out, hS2.out, ← hN.out, ← hMX.out]; exact hEV
  have HGM : Hid _ := hGm
  have HOK : Hid _ := hok
  have HD4 : Hid _ := hD4
  have h4 := HNX.out w4 b σ3 30 hD4.dr (by omega) (by omega)
  have hbw3 : b < w3.heap.size := hD4.hb
  clear h3 hEV hGm hok hd3 hD4 hMX1
  go_wp2_with fail
  refine h4.mono ?_
  rintro e w5 ⟨r3, σ4, rfl, H4, r30, r31, hd5, hg5⟩
  have hS3 : Hid (runS3 zs = (r3, σ4)) := by unfold Hid runS3; rw [hRE.out]; exact H4.out
  have HD5 : Hid _ := HD4.out.next hd5 hg5
  clear h4 H4 hg5 HD4 hd5
  have HEND : Hid (∀ {wx : World} {ax : Option Addr} {mx cx : Nat} {Gx : Evs} {σx : Src}, DrawE w w3 b a N cap (.slice ax mx cx) Gx σx wx → Gx.length = mx → EvLie wx wx.heap.size ax Gx ∧ Below w.heap.size w wx) := by
    intro wx ax mx cx Gx σx h1 h2
    exact ⟨h1.ev.lie h2, h1.dr.bel⟩
  by_cases c0 : r3 = 0
  · have b0 : (r3 == 0) = true := by simpa using c0
    have HF : Hid (runF zs = (0, G.map (·.1))) := by unfold Hid runF; rw [hS3.out, hRE.out, if_pos c0]
    have HQ : Hid _ := c0
    clear c0
    go_wp2_with fail
    obtain ⟨q1, q2⟩ := HEND.out HD5.out HGM.out
    exact bodyPost_ret (v := .tuple #[.int .i64 0, .slice av m cp]) (by simp [results, Try.results6, go_sem]) rfl ⟨0, m, av, cp, G, rfl, HGM.out, HF.out.symm, by omega, hm1, HOK.out, q1, q2⟩
  have b0 : (r3 == 0) = false := by simpa using c0
  by_cases c1 : r3 = 1
  · have b1 : (r3 == 1) = true := by simpa using c1
    have HF : Hid (runF zs = (9, G.map (·.1))) := by unfold Hid runF; rw [hS3.out, hRE.out, if_neg c0, if_pos c1]
    have HQ : Hid _ := c1
    clear c1 c0
    go_wp2_with fail
    obtain ⟨q1, q2⟩ := HEND.out HD5.out HGM.out
    exact bodyPost_ret (v := .tuple #[.int .i64 9, .slice av m cp]) (by simp [results, Try.results6, go_sem]) rfl ⟨9, m, av, cp, G, rfl, HGM.out, HF.out.symm, by omega, hm1, HOK.out, q1, q2⟩
  have b1 : (r3 == 1) = false := by simpa using c1
  by_cases c2 : r3 = 2
  case neg =>
    have b2 : (r3 == 2) = false := by simpa using c2
    have HF : Hid (runF zs = (P, G.map (·.1))) := by unfold Hid runF; rw [hS3.out, hRE.out, if_neg c0, if_neg c1, if_neg c2, ← hP.out]
    have HQ : Hid _ := c2
    clear c2 c1 c0
    go_wp2_with fail
    obtain ⟨q1, q2⟩ := HEND.out HD5.out HGM.out
    exact bodyPost_ret (v := .tuple #[.int .i64 P, .slice av m cp]) (by simp [results, Try.results6, go_sem]) rfl ⟨P, m, av, cp, G, rfl, HGM.out, HF.out.symm, by omega, hm1, HOK.out, q1, q2⟩
  have b2 : (r3 == 2) = true := by simpa using c2
  have HF : Hid (runF zs = (P, runMany zs)) := by unfold Hid runF; rw [hS3.out, if_neg c0, if_neg c1, if_pos c2, ← hP.out]
  have HQ : Hid _ := c2
  clear c2 c1 c0
  go_wp2_with fail
  go_loopw [6] (fun ov wr => ∃ (k : Nat) (ak : Option Addr) (ck : Nat) (Gk : Evs), (k ≤ 4001 - m ∧ m + k ≤ 1000003) ∧ ov = .slice ak (m + k) ck ∧ Hid (Gk.length = m + k) ∧ Hid (Gk.map (·.1) = G.map (·.1) ++ List.replicate k upEv) ∧ Hid (∀ p ∈ Gk, EvOk p.1) ∧ Hid (DrawE w w3 b a N cap (.slice ak (m + k) ck) Gk σ4 wr)) (fun ov _ => 4001 - (match ov with | .slice _ n _ => n | _ => 0))
  case atStart => exact ⟨0, av, cp, G, by omega, rfl, HGM, by unfold Hid; simp, HOK, HD5⟩
  case round =>
  clear HD5
  obtain ⟨k, ak, ck, Gk, ⟨hk, hk2⟩, rfl, HGK, HGF, HOKK, HD⟩ := hrel
  by_cases hlt : m + k ≤ 4000
  case pos =>
    have hle : ((m + k : Nat) : Int) ≤ 4000 := by omega
    obtain ⟨M, hM⟩ : ∃ M, m + k = M := ⟨_, rfl⟩
    rw [hM] at hle hlt HGK HD hk2 ⊢
    have HM : Hid _ := hM
    clear hM
    have hrowE := HD.out.ev.row
    rw [HGK.out] at hrowE
    have hszc := HD.out.size
    go_wp2_with (at_builtin; refine wpList_appE _ (by rfl) _ _ (by rfl) w3.heap.size ak M ck (flatE Gk) (by rfl) (own_alloc hrowE _) wr.heap.size _ _ _ _ _ (by rfl) (heap_alloc_new wr _) (by simp [Value.oneCell']) (by omega) (by simp; omega) ?_; intro g9 cap9 w6 ho6 hg6)
    have hDa := HD.out.alloc (.cells #[.int .i64 6, .int .i64 0, .int .i64 0, .int .i64 0, .slice none 0 0] 35)
    have hpush := EvsN.push (p := (upEv, none, 0)) (lim := wr.heap.size) hDa.ev hszc ⟨rfl, .inl ⟨rfl, rfl⟩⟩ (fun q hq j hj => ((HD.out.ev.dat q hq).lt j hj).2) (by exact hg6) (by rw [HGK.out]; exact ho6)
    rw [HGK.out] at hpush
    have hD6 : DrawE w w3 b a N cap (.slice (some ⟨g9, 0, none⟩) (M + 1) cap9) (Gk ++ [(upEv, none, 0)]) σ4 w6 := by
      refine ⟨hDa.dr.grown hg6 (fun j hj => ?_), hpush, grown_past hDa.gr hg6 (fun j hj => (hrowE.lt j hj).1), HD.out.hb⟩
      have h1 := (hrowE.lt j hj).1
      have h2 := HD.out.hb
      have h3 := HD.out.dr.new
      omega
    have HD6 : Hid _ := hD6
    clear hDa hpush hD6 ho6 hg6 hrowE
    go_wp2_with fail
    go_roundw
    case rel => exact ⟨k + 1, some ⟨g9, 0, none⟩, cap9, Gk ++ [(upEv, none, 0)], by have := HM.out; omega, by rw [← HM.out]; rfl, by unfold Hid; rw [List.length_append, HGK.out, ← HM.out]; rfl, by unfold Hid; rw [List.map_append, HGF.out, List.append_assoc, List.replicate_succ']; rfl, by
      unfold Hid
      intro p hp
      rcases List.mem_append.1 hp with hp | hp
      · exact HOKK.out p hp
      · simp at hp; subst hp; exact upEv_ok, by unfold Hid; rw [← Nat.add_assoc, HM.out]; exact HD6.out⟩
    case measure => simp only; omega
  case neg =>
    have hle : ¬ ((m + k : Nat) : Int) ≤ 4000 := by omega
    obtain ⟨M, hM⟩ : ∃ M, m + k = M := ⟨_, rfl⟩
    have hkr : k = 4001 - m := by omega
    rw [hM] at hle hlt HGK HD hk2 ⊢
    have HM : Hid _ := hM
    have HK : Hid _ := hkr
    clear hM hkr
    have h5 := HNX.out wr b σ4 2 HD.out.dr (by omega) (by omega)
    go_wp2_with fail
    refine h5.mono ?_
    rintro e w6 ⟨r4, σ5, rfl, H5, r40, r41, hd6, hg6⟩
    obtain ⟨T, hT⟩ : ∃ T : Nat, (T : Int) = 4000 + r4 := ⟨(4000 + r4).toNat, by omega⟩
    have hwT : IntKind.i64.wrap (4000 + r4) = (T : Int) := by rw [IntKind.wrap_i64]; omega
    have HD6 := HD.out.next hd6 hg6
    have hTM : T ≤ M := by omega
    have hTM' : (T : Int) ≤ (M : Int) := by omega
    have hrow := HD6.ev.row
    rw [HGK.out] at hrow
    obtain ⟨rc1, rc2, rc3⟩ : M ≤ ck ∧ True ∧ True := by
      rcases hrow.2 with ⟨e1, _⟩ | ⟨g, cap', cur, e1, _, _, h1, _⟩
      · simp only [Value.slice.injEq] at e1; omega
      · simp only [Value.slice.injEq] at e1
        obtain ⟨_, _, e9⟩ := e1
        exact ⟨by omega, trivial, trivial⟩
    have hTc : (T : Int) ≤ (ck : Int) := by omega
    have HLIE : Hid (EvLie w6 w6.heap.size ak (Gk.take T)) := (HD6.ev.take HGK.out hTM).lie (by rw [List.length_take, HGK.out, Nat.min_eq_left hTM])
    have HB6 : Hid (Below w.heap.size w w6) := HD6.dr.bel
    have HGT : Hid ((Gk.take T).map (·.1) = runMany zs) := by
      unfold Hid runMany
      rw [List.map_take, HGF.out, hRE.out, hS3.out]
      simp only
      rw [H5.out, List.length_map, HGM.out, ← HK.out]
      congr 1
      omega
    have HT : Hid _ := hT
    clear h5 HD HD6 hrow hd6 hg6 hT
    go_wp2_with fail
    exact bodyPost_ret (v := .tuple #[.int .i64 P, .slice ak T ck]) (by simp [results, Try.results6, go_sem]) rfl ⟨P, T, ak, ck, Gk.take T, rfl, by rw [List.length_take, HGK.out, Nat.min_eq_left hTM], by rw [HGT.out]; exact HF.out.symm, by omega, by omega, fun p hp => HOKK.out p (List.mem_of_mem_take hp), HLIE.out, HB6.out⟩
end Go.Proofs.Ytkamdaadgndmbaa
