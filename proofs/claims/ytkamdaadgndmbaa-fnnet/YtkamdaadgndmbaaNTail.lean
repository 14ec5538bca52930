import Derived.Test.YtkamdaadgndmbaaNIf0
import Derived.BigQuiet
namespace Go.Proofs.Ytkamdaadgndmbaa
open Go.ChangeShapes Go.WideShapes Go.ChangeAt Go.RowKit
set_option linter.unusedVariables false
set_option linter.unusedSimpArgs false

/-! ### FnNet's last loop -/
def headsR (n : Nat) : Code → Bool
  | .seq (.region m _ _) _ => m == n
  | _ => false
def fromR (n : Nat) : Code → Option Code
  | .seq a b => if headsR n a = true then some (.seq a b) else (match fromR n a with
    | some c => some c
    | none => fromR n b)
  | .loop c => fromR n c
  | .block _ c => fromR n c
  | .scope c => fromR n c
  | .cond _ a b => match fromR n a with
    | some c => some c
    | none => fromR n b
  | _ => none
abbrev restAt (f : Func) (n : Nat) : Code := (f.body.bind (fromR n)).getD .skip
theorem told_at {p : Nat} {s : NS} {F : List FB} (hF : F.map FB.told = toldU s (2 * p)) {B : Nat → Bg} {C : Nat → Int} (hA : Agree p s B C) {j : Nat} (hj : j < 2 * p) (hjF : j < F.length) : (F[j]).cut = C j ∧ (F[j]).g.map (·.1) = (B j).map (·.1) := by
  have h : (F.map FB.told)[j]? = some (F[j]).told := by rw [List.getElem?_map, List.getElem?_eq_getElem hjF]; rfl
  rw [hF, toldU, List.getElem?_map, List.getElem?_range hj] at h
  have h2 := (Option.some.inj h).symm
  have e : 2 * (j / 2) + j % 2 = j := by omega
  have hb := hA.bag (j / 2) (j % 2) (by omega) (by omega)
  have hc := hA.cut (j / 2) (j % 2) (by omega) (by omega)
  rw [e] at hb hc
  unfold FB.told at h2
  simp only [Prod.mk.injEq] at h2
  exact ⟨by rw [h2.2.2.1, hc], by rw [h2.2.2.2, hb]⟩
set_option maxHeartbeats 4000000 in
set_option maxRecDepth 1000000 in
theorem net_tail (w0 w4 w : World) (p N fb fc lb lc cb cc base : Nat) (V : Nat → Value) (B : Nat → Bg) (C : Nat → Int) (F : List FB) (s : NS)
    (y0 y1 y2 y3 y4 y5 y6 y7 y8 y10 y13 y14 y15 y16 y17 y18 y19 y20 y21 y22 y23 y24 y25 y26 y27 y28 y29 y30 y31 y32 y33 y34 y35 y36 y37 y38 y39 y40 y41 y42 y43 y44 y45 y46 y47 y48 y49 y50 y51 y52 y53 y54 y55 y56 y57 y58 y59 y60 y61 y62 y63 y64 y65 y66 y67 y68 y69 y70 y71 y72 y73 y74 y75 y76 y77 y78 y79 y80 y81 y82 y83 y84 y85 y86 y87 y88 y89 y90 y91 y92 y93 y94 y95 y96 y97 y98 y99 y100 y101 y102 y103 y104 y105 y106 y107 y108 y109 y110 y111 y112 y113 y114 y115 y116 y117 y118 y119 y120 y121 y122 y123 y124 y125 y126 y127 y128 y129 y130 y131 y132 y133 y134 y135 y136 y137 y138 y139 y140 y141 y142 y143 y144 y145 y146 y147 y148 y149 y150 y151 y152 y153 y154 y155 y156 y157 y158 y159 y160 y161 y162 y163 y164 y165 y166 y167 y168 y169 y170 y171 y172 y173 y174 y175 y176 y177 y178 y179 y180 y181 y182 y183 y184 y185 y186 y187 y188 y189 y190 y191 y192 y193 y194 y195 y196 y197 y198 y199 y200 y201 y202 y203 y204 y205 y206 y207 y208 y209 y210 y211 y212 y213 y214 y215 y216 y217 y218 y219 y220 y221 y222 y223 y224 y225 y226 y227 y228 y229 y230 y231 y232 y233 y234 y235 y236 y237 y238 y239 y240 y241 y242 y243 y244 y245 y246 y247 y248 y249 y250 y251 y252 y253 y254 y255 y256 y257 y258 y259 y260 y261 y262 y263 y264 y265 y266 y267 y268 y269 y270 y271 y272 y273 y274 y275 y276 y277 y278 y279 y280 y281 y282 y283 y284 y285 y286 y287 y288 y289 y290 y291 y292 y293 y294 y295 y296 y297 y298 y299 y300 y301 y302 y303 y304 y305 y306 y307 y308 y309 y310 y311 y312 y313 y314 y315 y316 y317 y318 y319 y320 y321 y322 y323 y324 y325 y326 y327 y328 y329 y330 y331 y332 y333 y334 y335 y336 y337 y338 y339 y340 y341 y342 y343 y344 y345 y346 y347 y348 y349 y350 y351 y352 y353 y354 : Value)
    (hLA : Hid (ListsAt w4 w lb lc cb cc N V B C)) (hAG : Hid (Agree p s B C)) (hN : Hid (N = 2 * p)) (hFl : Hid (F.length = N)) (hOF : Hid (OutsF w4 base (.slice (some ⟨fb, 0, none⟩) N fc) F)) (hFt : Hid (F.map FB.told = toldU s N)) (hinv : Hid (InvN s)) (h04 : Hid (Below w0.heap.size w0 w4)) (hp8 : N ≤ 16) :
    Code.wp Try.prog (restAt Try.f3 63) (bodyPost Try.prog Try.f3 fun e w' => e = .returned (.bool true) ∧ Below w0.heap.size w0 w') ⟨#[y0, y1, y2, y3, y4, y5, y6, y7, y8, .slice (some ⟨fb, 0, none⟩) N fc, y10, .slice (some ⟨lb, 0, none⟩) N lc, .slice (some ⟨cb, 0, none⟩) N cc, y13, y14, y15, y16, y17, y18, y19, y20, y21, y22, y23, y24, y25, y26, y27, y28, y29, y30, y31, y32, y33, y34, y35, y36, y37, y38, y39, y40, y41, y42, y43, y44, y45, y46, y47, y48, y49, y50, y51, y52, y53, y54, y55, y56, y57, y58, y59, y60, y61, y62, y63, y64, y65, y66, y67, y68, y69, y70, y71, y72, y73, y74, y75, y76, y77, y78, y79, y80, y81, y82, y83, y84, y85, y86, y87, y88, y89, y90, y91, y92, y93, y94, y95, y96, y97, y98, y99, y100, y101, y102, y103, y104, y105, y106, y107, y108, y109, y110, y111, y112, y113, y114, y115, y116, y117, y118, y119, y120, y121, y122, y123, y124, y125, y126, y127, y128, y129, y130, y131, y132, y133, y134, y135, y136, y137, y138, y139, y140, y141, y142, y143, y144, y145, y146, y147, y148, y149, y150, y151, y152, y153, y154, y155, y156, y157, y158, y159, y160, y161, y162, y163, y164, y165, y166, y167, y168, y169, y170, y171, y172, y173, y174, y175, y176, y177, y178, y179, y180, y181, y182, y183, y184, y185, y186, y187, y188, y189, y190, y191, y192, y193, y194, y195, y196, y197, y198, y199, y200, y201, y202, y203, y204, y205, y206, y207, y208, y209, y210, y211, y212, y213, y214, y215, y216, y217, y218, y219, y220, y221, y222, y223, y224, y225, y226, y227, y228, y229, y230, y231, y232, y233, y234, y235, y236, y237, y238, y239, y240, y241, y242, y243, y244, y245, y246, y247, y248, y249, y250, y251, y252, y253, y254, y255, y256, y257, y258, y259, y260, y261, y262, y263, y264, y265, y266, y267, y268, y269, y270, y271, y272, y273, y274, y275, y276, y277, y278, y279, y280, y281, y282, y283, y284, y285, y286, y287, y288, y289, y290, y291, y292, y293, y294, y295, y296, y297, y298, y299, y300, y301, y302, y303, y304, y305, y306, y307, y308, y309, y310, y311, y312, y313, y314, y315, y316, y317, y318, y319, y320, y321, y322, y323, y324, y325, y326, y327, y328, y329, y330, y331, y332, y333, y334, y335, y336, y337, y338, y339, y340, y341, y342, y343, y344, y345, y346, y347, y348, y349, y350, y351, y352, y353, y354], []⟩ w := by
  conv => arg 2; whnf
  have HEND : Hid (∀ m, Below w0.heap.size w0 (w.drewN m)) := fun m => drewsN (h04.out.trans (hLA.out.bel.mono h04.out.size)) m
  have hbw : Below w4.heap.size w4 w := hLA.out.bel
  go_wp2_with fail
  go_loopw [20] (fun bv wr => ∃ j m : Nat, j ≤ N ∧ bv = .int .i64 (j : Int) ∧ wr = w.drewN m) (fun bv _ => N - (intOf bv).toNat)
  case atStart => exact ⟨0, 0, Nat.zero_le _, rfl, rfl⟩
  case round =>
  obtain ⟨j, m, hj, rfl, hwr⟩ := hrel
  have hbr : Below w.heap.size w wr := by rw [hwr]; exact drewsN (Below.refl _ _) m
  have HWR : Hid _ := hwr
  clear hwr
  by_cases hjN : j < N
  case neg =>
    have hjj : ¬ (j : Int) < (N : Int) := by omega
    have hend := HEND.out m
    rw [← HWR.out] at hend
    go_wp2_with fail
    go_ret
    exact ⟨rfl, hend⟩
  case pos =>
  have hji : (j : Int) < (N : Int) := by omega
  have hjF : j < F.length := by rw [hFl.out]; exact hjN
  obtain ⟨ht1, ht2⟩ := told_at (by rw [← hN.out]; exact hFt.out) hAG.out (by rw [← hN.out]; exact hjN) hjF
  have hlr := hLA.out.moved hbr
  have hof : OutsF wr base (.slice (some ⟨fb, 0, none⟩) N fc) F := hOF.out.keep fun k _ hk => by rw [hbr.block k (by have := hbw.size; omega), hbw.block k hk]
  obtain ⟨fb', hfb, _, _, _, _, f2, f3, _⟩ := hof.at hFl.out hjF
  simp only [Option.some.injEq, Addr.mk.injEq] at hfb
  obtain ⟨rfl, _, _⟩ := hfb
  obtain ⟨l0, _⟩ := hlr.cellL hjN
  obtain ⟨c0, _⟩ := hlr.cellC hjN
  have hrowB := hof.rowB (List.getElem_mem hjF)
  have hrowV := hlr.bag j hjN
  obtain ⟨va, vc, hV⟩ := own_shape hrowV
  obtain ⟨L, hL⟩ : ∃ L, Hid (L = (B j).length) := ⟨_, rfl⟩
  obtain ⟨ga, gc, hG⟩ := own_shape hrowB.row
  have hLg : (F[j]).g.length = L := by
    have e := congrArg List.length ht2
    rw [List.length_map, List.length_map, ← hL.out] at e
    exact e
  rw [← hL.out] at hV
  rw [hLg] at hG
  rw [hV] at l0
  rw [hG] at f3
  rw [ht1] at f2
  obtain ⟨CJ, hCJ⟩ : ∃ CJ, CJ = C j := ⟨_, rfl⟩
  rw [← hCJ] at f2 c0
  have hL64 : decide (64 < (L : Int)) = false := by
    have h := hinv.out.len ((j / 2 : Nat) : Int) ((j % 2 : Nat) : Int)
    rw [← hAG.out.bag (j / 2) (j % 2) (by have := hN.out; omega) (by omega), List.length_map, show 2 * (j / 2) + j % 2 = j by omega, ← hL.out] at h
    exact decide_eq_false (by omega)
  have hLle : ¬ 64 < L := by have := of_decide_eq_false hL64; omega
  have hL64n : decide (64 < L) = false := decide_eq_false hLle
  have bL1 : ((L : Int) != (L : Int)) = false := by simp
  have bL2 : (L != L) = false := by simp
  have bC : (CJ != CJ) = false := by simp
  have HRB : Hid (RowB wr base (.slice ga L gc) (F[j]).g) := by rw [← hG]; exact hrowB
  have HRV : Hid (wr.ownsRow w4.heap.size 22 1 (.slice va L vc) L ((B j).map (·.2))) := by
    have h := hrowV
    rw [hV, ← hL.out] at h
    exact h
  have HT2 : Hid _ := ht2
  have HLG : Hid _ := hLg
  have HDD : Hid (∀ q ∈ B j, Dg w4 q) := hLA.out.dat j hjN
  clear hlr hof hrowB hrowV hV hG ht1 ht2 hLg hCJ
  go_upto_region 66 with fail
  go_big_quiet (fail)
  obtain ⟨X, hX⟩ : ∃ X, X = wr.drewN nq := ⟨_, rfl⟩
  have HX : Hid (X = w.drewN (m + nq)) := by unfold Hid; rw [hX, HWR.out]; exact World.drewN_drewN ..
  have hbX : Below wr.heap.size wr X := by rw [hX]; exact drewsN (Below.refl _ _) _
  rw [← hX]
  have y0' : X.cell? ⟨fb, j * 4 + 3, none⟩ = some (.slice ga L gc) := by rw [hX]; exact f3
  have y1' : X.cell? ⟨lb, j, none⟩ = some (.slice va L vc) := by rw [hX]; exact l0
  have HRBX : Hid (RowB X base (.slice ga L gc) (F[j]).g) := HRB.out.below hbX
  have HRVX : Hid (X.ownsRow w4.heap.size 22 1 (.slice va L vc) L ((B j).map (·.2))) := row_stays HRV.out fun k hk => hbX.block k (HRV.out.lt k hk).2
  have HDX : Hid (∀ q ∈ B j, Dg X q) := fun q hq => by
    obtain ⟨a, c, h1, h2⟩ := HDD.out q hq
    have hb4 : Below w4.heap.size w4 X := hbw.trans ((hbr.trans (hbX.mono hbr.size)).mono hbw.size)
    exact ⟨a, c, h1, h2.moved hb4⟩
  clear hX f2 f3 l0 c0 HRB HRV HDD
  go_wp2_with fail
  go_loopw [21] (fun kv wx => ∃ k q : Nat, k ≤ L ∧ kv = .int .i64 (k : Int) ∧ wx = X.drewN q) (fun kv _ => L - (intOf kv).toNat)
  case atStart => exact ⟨0, 0, Nat.zero_le _, rfl, rfl⟩
  case round =>
  obtain ⟨k, q, hk, rfl, hwx⟩ := hrel
  have z0 : wr.cell? ⟨fb, j * 4 + 3, none⟩ = some (.slice ga L gc) := by rw [hwx]; exact y0'
  have z1 : wr.cell? ⟨lb, j, none⟩ = some (.slice va L vc) := by rw [hwx]; exact y1'
  have hbx : Below X.heap.size X wr := by rw [hwx]; exact drewsN (Below.refl _ _) q
  have HWX : Hid _ := hwx
  clear hwx
  by_cases hkL : k < L
  case neg =>
    obtain rfl : k = L := by omega
    have hkk : ¬ (k : Int) < (k : Int) := by omega
    go_wp2_with fail
    go_roundw
    case rel => exact ⟨j + 1, m + nq + q, by omega, by go_num, by rw [HWX.out, HX.out]; exact World.drewN_drewN ..⟩
    case measure => simp [intOf]; omega
  case pos =>
  have hki : (k : Int) < (L : Int) := by omega
  have hkF : k < (F[j]).g.length := by rw [HLG.out]; exact hkL
  have hkB : k < (B j).length := by rw [← hL.out]; exact hkL
  have hrB := HRBX.out.row
  rw [HLG.out] at hrB
  have hrV := HRVX.out
  obtain ⟨gb, hga⟩ : ∃ gb, ga = some ⟨gb, 0, none⟩ := by
    rcases hrB.2 with ⟨e, h0⟩ | ⟨g, c, cur, e, _⟩
    · omega
    · simp only [Value.slice.injEq] at e
      exact ⟨g, e.1⟩
  obtain ⟨vb, hva⟩ : ∃ vb, va = some ⟨vb, 0, none⟩ := by
    rcases hrV.2 with ⟨e, h0⟩ | ⟨g, c, cur, e, _⟩
    · omega
    · simp only [Value.slice.injEq] at e
      exact ⟨g, e.1⟩
  subst hga hva
  have hgl := (hrB.lt gb rfl).2
  have hvl := (hrV.lt vb rfl).2
  have hdF := HRBX.out.dat _ (List.getElem_mem hkF)
  obtain ⟨xa, xc, hx⟩ := own_shape hdF
  obtain ⟨ua, uc, hu, hui⟩ := HDX.out _ (List.getElem_mem hkB)
  have heq : ((F[j]).g[k]'hkF).1 = ((B j)[k]'hkB).1 := by
    have e1 : ((F[j]).g.map (·.1))[k]? = some ((F[j]).g[k]'hkF).1 := by rw [List.getElem?_map, List.getElem?_eq_getElem hkF]; rfl
    rw [HT2.out, List.getElem?_map, List.getElem?_eq_getElem hkB] at e1
    exact (Option.some.inj e1).symm
  have hxi : Ints .u8 X xa ((B j)[k]'hkB).1 := by
    rw [← heq]
    rw [hx] at hdF
    exact Ints.ofRow hdF
  rw [heq] at hx
  obtain ⟨bs, hbs⟩ : ∃ bs, bs = ((B j)[k]'hkB).1 := ⟨_, rfl⟩
  rw [← hbs] at hx hu hui hxi
  obtain ⟨l, hl⟩ : ∃ l, bs.length = l := ⟨_, rfl⟩
  rw [hl] at hx hu
  have g0 : wr.cell? ⟨gb, k, none⟩ = some (.slice xa l xc) := by
    rw [← hx]
    exact (hbx.cell (p := ⟨gb, k, none⟩) hgl).trans (by rw [hrB.cellAt k (by omega), List.getElem?_map, List.getElem?_eq_getElem hkF]; rfl)
  have g1 : wr.cell? ⟨vb, k, none⟩ = some (.slice ua l uc) := by
    rw [← hu]
    exact (hbx.cell (p := ⟨vb, k, none⟩) hvl).trans (by rw [hrV.cellAt k (by omega), List.getElem?_map, List.getElem?_eq_getElem hkB]; rfl)
  have s0 : ∀ n, (convert 22 9 (.slice xa l xc)).run Try.prog (wr.drewN n) = .ok (.string (strOf bs)) (wr.drewN n) := fun n => toString_any xa bs l xc _ (hxi.moved (drewsN hbx n)) hl
  have s1 : ∀ n, (convert 22 9 (.slice ua l uc)).run Try.prog (wr.drewN n) = .ok (.string (strOf bs)) (wr.drewN n) := fun n => toString_any ua bs l uc _ (hui.moved (drewsN hbx n)) hl
  obtain ⟨SS, hSS⟩ : ∃ SS, SS = strOf bs := ⟨_, rfl⟩
  rw [← hSS] at s0 s1
  clear hrB hrV hdF hx hu hui hxi heq hbs hl hSS
  go_upto_region 71 with fail
  go_big_quiet (fail)
  go_wp2_with fail
  go_roundw
  case rel => exact ⟨k + 1, q + nq, by omega, by go_num, by rw [HWX.out]; exact World.drewN_drewN ..⟩
  case measure => simp [intOf]; omega
end Go.Proofs.Ytkamdaadgndmbaa
