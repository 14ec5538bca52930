import Derived.Test.YtkamdaadgndmbaaNIf1
import Derived.Test.YtkamdaadgndmbaaNIf2
import Derived.Test.YtkamdaadgndmbaaNIf4
import Derived.Test.YtkamdaadgndmbaaNTail
import Derived.BigQuiet
namespace Go.Proofs.Ytkamdaadgndmbaa
open Go.ChangeShapes Go.WideShapes Go.ChangeAt Go.RowKit
set_option linter.unusedVariables false
set_option linter.unusedSimpArgs false

set_option maxHeartbeats 4000000 in
set_option maxRecDepth 1000000 in
theorem net_loop (w0 w2 w4 w : World) (p N M ec oc fc lb lc cb cc base : Nat) (ea oa fa : Option Addr) (ES : List NEv) (G1 : Evs) (Go : GotO) (F : List FB)
    (y0 y1 y2 y5 y6 y8 y10 y13 y14 y15 y16 y17 y18 y19 y20 y21 y22 y23 y24 y25 y26 y27 y28 y29 y30 y31 y32 y33 y34 y35 y36 y37 y38 y39 y40 y41 y42 y43 y44 y45 y46 y47 y48 y49 y50 y51 y52 y53 y54 y55 y56 y57 y58 y59 y60 y61 y62 y63 y64 y65 y66 y67 y68 y69 y70 y71 y72 y73 y74 y75 y76 y77 y78 y79 y80 y81 y82 y83 y84 y85 y86 y87 y88 y89 y90 y91 y92 y93 y94 y95 y96 y97 y98 y99 y100 y101 y102 y103 y104 y105 y106 y107 y108 y109 y110 y111 y112 y113 y114 y115 y116 y117 y118 y119 y120 y121 y122 y123 y124 y125 y126 y127 y128 y129 y130 y131 y132 y133 y134 y135 y136 y137 y138 y139 y140 y141 y142 y143 y144 y145 y146 y147 y148 y149 y150 y151 y152 y153 y154 y155 y156 y157 y158 y159 y160 y161 y162 y163 y164 y165 y166 y167 y168 y169 y170 y171 y172 y173 y174 y175 y176 y177 y178 y179 y180 y181 y182 y183 y184 y185 y186 y187 y188 y189 y190 y191 y192 y193 y194 y195 y196 y197 y198 y199 y200 y201 y202 y203 y204 y205 y206 y207 y208 y209 y210 y211 y212 y213 y214 y215 y216 y217 y218 y219 y220 y221 y222 y223 y224 y225 y226 y227 y228 y229 y230 y231 y232 y233 y234 y235 y236 y237 y238 y239 y240 y241 y242 y243 y244 y245 y246 y247 y248 y249 y250 y251 y252 y253 y254 y255 y256 y257 y258 y259 y260 y261 y262 y263 y264 y265 y266 y267 y268 y269 y270 y271 y272 y273 y274 y275 y276 y277 y278 y279 y280 y281 y282 y283 y284 y285 y286 y287 y288 y289 y290 y291 y292 y293 y294 y295 y296 y297 y298 y299 y300 y301 y302 y303 y304 y305 y306 y307 y308 y309 y310 y311 y312 y313 y314 y315 y316 y317 y318 y319 y320 y321 y322 y323 y324 y325 y326 y327 y328 y329 y330 y331 y332 y333 y334 y335 y336 y337 y338 y339 y340 y341 y342 y343 y344 y345 y346 y347 y348 y349 y350 y351 y352 y353 y354 : Value)
    (hM : Hid (M = ES.length)) (HL1 : Hid (G1.length = M)) (HM1 : Hid (G1.map (·.1) = ES)) (HOK1 : Hid (∀ q ∈ G1, EvOk q.1)) (HEV : Hid (EvLie w4 w2.heap.size ea G1)) (s24 : w2.heap.size ≤ w4.heap.size) (HOO : Hid (OutsN w4 w2.heap.size (.slice oa M oc) Go)) (HGO : Hid (Go.map (·.1) = outsN p startN ES))
    (HFL : Hid (F.length = N)) (HOF : Hid (OutsF w4 base (.slice fa N fc) F)) (HFT : Hid (F.map FB.told = toldU (stateN p ES) N)) (HN : Hid (N = 2 * p)) (hN16 : N ≤ 16) (hN2 : 2 ≤ N) (mb : M ≤ 1000003) (h04 : Hid (Below w0.heap.size w0 w4))
    (HL0 : Hid (ListsAt w4 w lb lc cb cc N (fun _ => .slice none 0 0) (fun _ => []) (fun _ => 0))) :
    Code.wp Try.prog (restAt Try.f3 20) (bodyPost Try.prog Try.f3 fun e w' => e = .returned (.bool true) ∧ Below w0.heap.size w0 w') ⟨#[y0, y1, y2, .int .i64 (p : Int), .slice ea M ec, y5, y6, .slice oa M oc, y8, .slice fa N fc, y10, .slice (some ⟨lb, 0, none⟩) N lc, .slice (some ⟨cb, 0, none⟩) N cc, y13, y14, y15, y16, y17, y18, y19, y20, y21, y22, y23, y24, y25, y26, y27, y28, y29, y30, y31, y32, y33, y34, y35, y36, y37, y38, y39, y40, y41, y42, y43, y44, y45, y46, y47, y48, y49, y50, y51, y52, y53, y54, y55, y56, y57, y58, y59, y60, y61, y62, y63, y64, y65, y66, y67, y68, y69, y70, y71, y72, y73, y74, y75, y76, y77, y78, y79, y80, y81, y82, y83, y84, y85, y86, y87, y88, y89, y90, y91, y92, y93, y94, y95, y96, y97, y98, y99, y100, y101, y102, y103, y104, y105, y106, y107, y108, y109, y110, y111, y112, y113, y114, y115, y116, y117, y118, y119, y120, y121, y122, y123, y124, y125, y126, y127, y128, y129, y130, y131, y132, y133, y134, y135, y136, y137, y138, y139, y140, y141, y142, y143, y144, y145, y146, y147, y148, y149, y150, y151, y152, y153, y154, y155, y156, y157, y158, y159, y160, y161, y162, y163, y164, y165, y166, y167, y168, y169, y170, y171, y172, y173, y174, y175, y176, y177, y178, y179, y180, y181, y182, y183, y184, y185, y186, y187, y188, y189, y190, y191, y192, y193, y194, y195, y196, y197, y198, y199, y200, y201, y202, y203, y204, y205, y206, y207, y208, y209, y210, y211, y212, y213, y214, y215, y216, y217, y218, y219, y220, y221, y222, y223, y224, y225, y226, y227, y228, y229, y230, y231, y232, y233, y234, y235, y236, y237, y238, y239, y240, y241, y242, y243, y244, y245, y246, y247, y248, y249, y250, y251, y252, y253, y254, y255, y256, y257, y258, y259, y260, y261, y262, y263, y264, y265, y266, y267, y268, y269, y270, y271, y272, y273, y274, y275, y276, y277, y278, y279, y280, y281, y282, y283, y284, y285, y286, y287, y288, y289, y290, y291, y292, y293, y294, y295, y296, y297, y298, y299, y300, y301, y302, y303, y304, y305, y306, y307, y308, y309, y310, y311, y312, y313, y314, y315, y316, y317, y318, y319, y320, y321, y322, y323, y324, y325, y326, y327, y328, y329, y330, y331, y332, y333, y334, y335, y336, y337, y338, y339, y340, y341, y342, y343, y344, y345, y346, y347, y348, y349, y350, y351, y352, y353, y354], []⟩ w := by
  conv => arg 2; whnf
  have HAG0 : Hid (Agree p (stateN p (ES.take 0)) (fun _ => []) (fun _ => 0)) := Agree.start p
  go_wp2_with fail
  go_loopw [14] (fun iv wr => ∃ (k : Nat) (V : Nat → Value) (B : Nat → Bg) (C : Nat → Int), k ≤ M ∧ iv = .int .i64 (k : Int) ∧ Hid (ListsAt w4 wr lb lc cb cc N V B C) ∧ Hid (Agree p (stateN p (ES.take k)) B C)) (fun iv _ => M - (intOf iv).toNat)
  case atStart => exact ⟨0, _, _, _, Nat.zero_le _, rfl, HL0, HAG0⟩
  case round =>
  clear HL0 HAG0
  obtain ⟨k, V, B, C, hk, rfl, HLA, HAG⟩ := hrel
  by_cases hlt : k < M
  case neg =>
    obtain rfl : k = M := by omega
    have hkk : ¬ (k : Int) < (k : Int) := by omega
    obtain ⟨fb, rfl⟩ : ∃ fb, fa = some ⟨fb, 0, none⟩ := by
      rcases HOF.out.row.2 with ⟨_, h0⟩ | ⟨g, c, cur, e, _⟩
      · have := HFL.out; omega
      · simp only [Value.slice.injEq] at e
        exact ⟨g, e.1⟩
    have hinv : Hid (InvN (stateN p ES)) := by
      refine (invN_all p ES ?_ startN invN_start).1
      intro e he v hv
      rw [← HM1.out] at he
      obtain ⟨q, hq, rfl⟩ := List.mem_map.1 he
      exact (HOK1.out q hq).dv v hv
    have HAG9 : Hid (Agree p (stateN p ES) B C) := by
      have h := HAG.out
      rw [List.take_of_length_le (by rw [hM.out]; exact Nat.le_refl _)] at h
      exact h
    go_upto_if 105 with fail
    go_step
    go_step
    go_step
    go_step
    go_step
    go_step
    exact net_tail w0 w4 wr p N fb fc lb lc cb cc base V B C F (stateN p ES) _ _ _ _ _ _ _ _ _ _ _ _ _ _ _ _ _ _ _ _ _ _ _ _ _ _ _ _ _ _ _ _ _ _ _ _ _ _ _ _ _ _ _ _ _ _ _ _ _ _ _ _ _ _ _ _ _ _ _ _ _ _ _ _ _ _ _ _ _ _ _ _ _ _ _ _ _ _ _ _ _ _ _ _ _ _ _ _ _ _ _ _ _ _ _ _ _ _ _ _ _ _ _ _ _ _ _ _ _ _ _ _ _ _ _ _ _ _ _ _ _ _ _ _ _ _ _ _ _ _ _ _ _ _ _ _ _ _ _ _ _ _ _ _ _ _ _ _ _ _ _ _ _ _ _ _ _ _ _ _ _ _ _ _ _ _ _ _ _ _ _ _ _ _ _ _ _ _ _ _ _ _ _ _ _ _ _ _ _ _ _ _ _ _ _ _ _ _ _ _ _ _ _ _ _ _ _ _ _ _ _ _ _ _ _ _ _ _ _ _ _ _ _ _ _ _ _ _ _ _ _ _ _ _ _ _ _ _ _ _ _ _ _ _ _ _ _ _ _ _ _ _ _ _ _ _ _ _ _ _ _ _ _ _ _ _ _ _ _ _ _ _ _ _ _ _ _ _ _ _ _ _ _ _ _ _ _ _ _ _ _ _ _ _ _ _ _ _ _ _ _ _ _ _ _ _ _ _ _ _ _ _ _ _ _ _ _ _ _ _ _ _ _ _ _ _ _ _ _ _ _ _ _ _ _ _ _ _ _ _ _ _ _ _ _ _ _ _ _ _ _ _ HLA HAG9 HN HFL HOF HFT hinv h04 hN16
  case pos =>
  have hkE : k < ES.length := by have := hM.out; omega
  have hki : (k : Int) < (M : Int) := by omega
  have hbr : Below w4.heap.size w4 wr := HLA.out.bel
  have hkG : k < G1.length := by have := HL1.out; omega
  obtain ⟨eb, eo, hea, hec⟩ : ∃ b off, ea = some ⟨b, off, none⟩ ∧ ∀ i, ∀ h : i < G1.length, wr.cell? ⟨b, off + i * 5, none⟩ = some (.int .i64 (G1[i]).1.kd) ∧ wr.cell? ⟨b, off + i * 5 + 1, none⟩ = some (.int .i64 (G1[i]).1.pa) ∧ wr.cell? ⟨b, off + i * 5 + 2, none⟩ = some (.int .i64 (G1[i]).1.di) ∧ wr.cell? ⟨b, off + i * 5 + 3, none⟩ = some (.int .i64 (G1[i]).1.ix) ∧ wr.cell? ⟨b, off + i * 5 + 4, none⟩ = some (.slice (G1[i]).2.1 (G1[i]).1.dat.length (G1[i]).2.2) := by
    rcases (HEV.out.stays (w' := wr) fun j hj => hbr.block j (by omega)).at_ with h0 | ⟨b, off, h1, h2, h3⟩
    · rw [h0] at hkG; simp at hkG
    · exact ⟨b, off, h1, h3⟩
  subst hea
  obtain ⟨c1, c2, c3, c4, c5⟩ := hec k hkG
  have hEk : (G1[k]).1 = ES[k] := by
    have e1 : (G1.map (·.1))[k]? = some (G1[k]).1 := by rw [List.getElem?_map, List.getElem?_eq_getElem hkG]; rfl
    rw [HM1.out, List.getElem?_eq_getElem hkE] at e1
    exact (Option.some.inj e1).symm
  have hmem : G1[k] ∈ G1 := List.getElem_mem hkG
  have hokE := HOK1.out _ hmem
  have hdat := HEV.out.dat _ hmem
  obtain ⟨s, hs⟩ : ∃ s, Hid (s = stateN p (ES.take k)) := ⟨_, rfl⟩
  have HSN : Hid (stateN p (ES.take (k + 1)) = (stepN p s (G1[k]).1).2) := by unfold Hid; rw [hs.out, hEk]; exact stateN_take p ES k hkE
  have hinv : InvN s := by
    rw [hs.out]
    refine (invN_all p (ES.take k) ?_ startN invN_start).1
    intro e he v hv
    have he2 := List.mem_of_mem_take he
    rw [← HM1.out] at he2
    obtain ⟨q, hq, rfl⟩ := List.mem_map.1 he2
    exact (HOK1.out q hq).dv v hv
  have hout := outsN_get p ES startN k hkE
  have hGol : Go.length = M := by
    have e := congrArg List.length HGO.out
    rw [List.length_map, outsN_length] at e
    rw [e, ← hM.out]
  have hkO : k < Go.length := by omega
  have hGk : (Go[k]).1 = (stepN p s (G1[k]).1).1 := by
    rw [← HGO.out, List.getElem?_map, List.getElem?_eq_getElem hkO] at hout
    have h : (Go[k]).1 = _ := Option.some.inj hout
    rw [h, hs.out, hEk]
    rfl
  obtain ⟨ob, hoa, hob1, hob2, v0, v1, _⟩ := HOO.out.at hGol hkO
  subst hoa
  have hOd := HOO.out.dat _ (List.getElem_mem hkO)
  obtain ⟨⟨⟨kd, pa, di, ix, dat⟩, da, dc⟩, hgk⟩ : ∃ q, q = G1[k] := ⟨_, rfl⟩
  rw [← hgk] at c1 c2 c3 c4 c5 hokE hdat HSN hGk
  obtain ⟨⟨⟨code, od⟩, ov⟩, hok9⟩ : ∃ q, q = Go[k] := ⟨_, rfl⟩
  rw [← hok9] at v0 v1 hGk hOd
  simp only at c1 c2 c3 c4 c5 hdat hGk v0 v1 hOd HSN
  obtain ⟨ova, ovc, hov⟩ := own_shape hOd
  subst hov
  obtain ⟨dl, hdl⟩ : ∃ dl, Hid (dl = dat.length) := ⟨_, rfl⟩
  obtain ⟨ol, hol⟩ : ∃ ol, Hid (ol = od.length) := ⟨_, rfl⟩
  rw [← hdl.out] at c5
  rw [← hol.out] at v1 hOd
  have HOI : Hid (Ints .u8 w4 ova od) := Ints.ofRow hOd
  obtain ⟨s', hs'⟩ : ∃ s', Hid (s' = (stepN p s ⟨kd, pa, di, ix, dat⟩).2) := ⟨_, rfl⟩
  rw [← hs'.out] at HSN
  have HGK : Hid _ := hGk
  have HOKE : Hid (EvOk ⟨kd, pa, di, ix, dat⟩) := hokE
  have HINV : Hid _ := hinv
  have HDT : Hid (Ints .u8 w4 da dat) := hdat.1
  clear hec hEk hmem hokE hdat hout hGol hkO hGk hOd hinv hkE hkG hgk hok9
  obtain ⟨W8, hW8⟩ : ∃ W8, W8 = (wr.alloc (.cells #[.int .i64 kd, .int .i64 pa, .int .i64 di, .int .i64 ix, .slice da dl dc] 35)).alloc (.cells #[] 5) := ⟨_, rfl⟩
  obtain ⟨E, hE⟩ : ∃ E, E = wr.heap.size := ⟨_, rfl⟩
  obtain ⟨WB, hWB⟩ : ∃ WB, WB = wr.heap.size + 1 := ⟨_, rfl⟩
  have hb8 : Below wr.heap.size wr W8 := by rw [hW8]; exact ((Below.refl _ _).alloc (Nat.le_refl _) _).alloc (by simp) _
  have hE8 : W8.heap[E]? = some (.cells #[.int .i64 kd, .int .i64 pa, .int .i64 di, .int .i64 ix, .slice da dl dc] 35 (0, 0)) := by rw [hW8, hE]; exact (Below.heap_alloc _ _ _ (by simp)).trans (heap_alloc_new _ _)
  have HLA8 : Hid (ListsAt w4 W8 lb lc cb cc N V B C) := HLA.out.moved hb8
  have HV : Hid (∀ X, Below w4.heap.size w4 X → X.cell? ⟨ob, k * 2, none⟩ = some (.int .i64 code) ∧ X.cell? ⟨ob, k * 2 + 1, none⟩ = some (.slice ova ol ovc) ∧ Ints .u8 X ova od) := by
    intro X hX
    exact ⟨(hX.cell (p := ⟨ob, k * 2, none⟩) hob2).trans v0, (hX.cell (p := ⟨ob, k * 2 + 1, none⟩) hob2).trans v1, HOI.out.moved hX⟩
  have hEl : E < W8.heap.size := (Array.getElem?_eq_some_iff.1 hE8).1
  go_upto_region 25 with fail
  rw [← hW8, ← hWB, ← hE]
  clear hW8 hE hWB hb8 c1 c2 c3 c4 c5 v0 v1 HLA HOI hbr
  obtain ⟨v0, _, _⟩ := HV.out W8 HLA8.out.bel
  obtain ⟨⟨e0, e1, e2, e3, e4⟩, _⟩ := cells5r hE8
  go_upto_if 118 with fail
  go_cut [16, 17, 18, 19] from 113 to 280 (fun want bv rv kv wx => ∃ (V' : Nat → Value) (B' : Nat → Bg) (C' : Nat → Int) (wa : Option Addr) (wc : Nat), want = .slice wa ol wc ∧ Hid (Ints .u8 w4 wa od) ∧ Hid (ListsAt w4 wx lb lc cb cc N V' B' C') ∧ Hid (Agree p s' B' C'))
  case first =>
    have HRND : Hid (Rnd w4 W8 p N lb lc cb cc E V B C s s' kd pa di ix dat da dl dc code od ol) := ⟨HLA8.out, by rw [hs.out]; exact HAG.out, HINV.out, HDT.out, HOKE.out, HGK.out, hs'.out, hdl.out, hol.out, HN.out, by have := HN.out; omega, by have := HN.out; omega, hE8⟩
    by_cases cz : code = 0
    case neg =>
      have bz : (code == 0) = false := by simpa using cz
      rw [bz]
      exact if_refused w4 W8 p N lb lc cb cc E WB V B C s s' kd pa di ix dat da dl dc code od ol _ _ _ _ _ _ _ _ _ _ _ _ _ _ _ _ _ _ _ _ _ _ _ _ _ _ _ _ _ _ _ _ _ _ _ _ _ _ _ _ _ _ _ _ _ _ _ _ _ _ _ _ _ _ _ _ _ _ _ _ _ _ _ _ _ _ _ _ _ _ _ _ _ _ _ _ _ _ _ _ _ _ _ _ _ _ _ _ _ _ _ _ _ _ _ _ _ _ _ _ _ _ _ _ _ _ _ _ _ _ _ _ _ _ _ _ _ _ _ _ _ _ _ _ _ _ _ _ _ _ _ _ _ _ _ _ _ _ _ _ _ _ _ _ _ _ _ _ _ _ _ _ _ _ _ _ _ _ _ _ _ _ _ _ _ _ _ _ _ _ _ _ _ _ _ _ _ _ _ _ _ _ _ _ _ _ _ _ _ _ _ _ _ _ _ _ _ _ _ _ _ _ _ _ _ _ _ _ _ _ _ _ _ _ _ _ _ _ _ _ _ _ _ _ _ _ _ _ _ _ _ _ _ _ _ _ _ _ _ _ _ _ _ _ _ _ _ _ _ _ _ _ _ _ _ _ _ _ _ _ _ _ _ _ _ _ _ _ _ _ _ _ _ _ _ _ _ _ _ _ _ _ _ _ _ _ _ _ _ _ _ _ _ _ _ _ _ _ _ _ _ _ _ _ _ _ _ _ _ _ _ _ _ _ _ _ _ _ _ _ _ _ _ _ _ _ _ _ _ _ _ _ _ _ _ _ _ _ _ _ _ _ _ _ _ _ _ _ _ _ _ _ HRND (by assumption) (by assumption) cz
    case pos =>
      have bz : (code == 0) = true := by simpa using cz
      rw [bz]
      have hcode : (stepN p s ⟨kd, pa, di, ix, dat⟩).1.code = 0 := by rw [← HGK.out]; exact cz
      have hkd := (pass_yes _ hcode).kd
      simp only at hkd
      by_cases k1 : kd = 1
      · exact if_send w4 W8 p N lb lc cb cc E WB V B C s s' kd pa di ix dat da dl dc code od ol _ _ _ _ _ _ _ _ _ _ _ _ _ _ _ _ _ _ _ _ _ _ _ _ _ _ _ _ _ _ _ _ _ _ _ _ _ _ _ _ _ _ _ _ _ _ _ _ _ _ _ _ _ _ _ _ _ _ _ _ _ _ _ _ _ _ _ _ _ _ _ _ _ _ _ _ _ _ _ _ _ _ _ _ _ _ _ _ _ _ _ _ _ _ _ _ _ _ _ _ _ _ _ _ _ _ _ _ _ _ _ _ _ _ _ _ _ _ _ _ _ _ _ _ _ _ _ _ _ _ _ _ _ _ _ _ _ _ _ _ _ _ _ _ _ _ _ _ _ _ _ _ _ _ _ _ _ _ _ _ _ _ _ _ _ _ _ _ _ _ _ _ _ _ _ _ _ _ _ _ _ _ _ _ _ _ _ _ _ _ _ _ _ _ _ _ _ _ _ _ _ _ _ _ _ _ _ _ _ _ _ _ _ _ _ _ _ _ _ _ _ _ _ _ _ _ _ _ _ _ _ _ _ _ _ _ _ _ _ _ _ _ _ _ _ _ _ _ _ _ _ _ _ _ _ _ _ _ _ _ _ _ _ _ _ _ _ _ _ _ _ _ _ _ _ _ _ _ _ _ _ _ _ _ _ _ _ _ _ _ _ _ _ _ _ _ _ _ _ _ _ _ _ _ _ _ _ _ _ _ _ _ _ _ _ _ _ _ _ _ _ _ _ _ _ _ _ _ _ _ _ _ _ _ _ _ _ _ _ _ _ _ _ _ _ _ _ _ _ _ _ _ HRND (by assumption) (by assumption) cz (by omega) k1
      by_cases k2 : kd = 2
      · exact if_del w4 W8 p N lb lc cb cc E WB V B C s s' kd pa di ix dat da dl dc code od ol _ _ _ _ _ _ _ _ _ _ _ _ _ _ _ _ _ _ _ _ _ _ _ _ _ _ _ _ _ _ _ _ _ _ _ _ _ _ _ _ _ _ _ _ _ _ _ _ _ _ _ _ _ _ _ _ _ _ _ _ _ _ _ _ _ _ _ _ _ _ _ _ _ _ _ _ _ _ _ _ _ _ _ _ _ _ _ _ _ _ _ _ _ _ _ _ _ _ _ _ _ _ _ _ _ _ _ _ _ _ _ _ _ _ _ _ _ _ _ _ _ _ _ _ _ _ _ _ _ _ _ _ _ _ _ _ _ _ _ _ _ _ _ _ _ _ _ _ _ _ _ _ _ _ _ _ _ _ _ _ _ _ _ _ _ _ _ _ _ _ _ _ _ _ _ _ _ _ _ _ _ _ _ _ _ _ _ _ _ _ _ _ _ _ _ _ _ _ _ _ _ _ _ _ _ _ _ _ _ _ _ _ _ _ _ _ _ _ _ _ _ _ _ _ _ _ _ _ _ _ _ _ _ _ _ _ _ _ _ _ _ _ _ _ _ _ _ _ _ _ _ _ _ _ _ _ _ _ _ _ _ _ _ _ _ _ _ _ _ _ _ _ _ _ _ _ _ _ _ _ _ _ _ _ _ _ _ _ _ _ _ _ _ _ _ _ _ _ _ _ _ _ _ _ _ _ _ _ _ _ _ _ _ _ _ _ _ _ _ _ _ _ _ _ _ _ _ _ _ _ _ _ _ _ _ _ _ _ _ _ _ _ _ _ _ _ _ _ _ _ _ _ HRND (by assumption) (by assumption) cz (by omega) k2
      by_cases k3 : kd = 3
      · exact if_drop w4 W8 p N lb lc cb cc E WB V B C s s' kd pa di ix dat da dl dc code od ol _ _ _ _ _ _ _ _ _ _ _ _ _ _ _ _ _ _ _ _ _ _ _ _ _ _ _ _ _ _ _ _ _ _ _ _ _ _ _ _ _ _ _ _ _ _ _ _ _ _ _ _ _ _ _ _ _ _ _ _ _ _ _ _ _ _ _ _ _ _ _ _ _ _ _ _ _ _ _ _ _ _ _ _ _ _ _ _ _ _ _ _ _ _ _ _ _ _ _ _ _ _ _ _ _ _ _ _ _ _ _ _ _ _ _ _ _ _ _ _ _ _ _ _ _ _ _ _ _ _ _ _ _ _ _ _ _ _ _ _ _ _ _ _ _ _ _ _ _ _ _ _ _ _ _ _ _ _ _ _ _ _ _ _ _ _ _ _ _ _ _ _ _ _ _ _ _ _ _ _ _ _ _ _ _ _ _ _ _ _ _ _ _ _ _ _ _ _ _ _ _ _ _ _ _ _ _ _ _ _ _ _ _ _ _ _ _ _ _ _ _ _ _ _ _ _ _ _ _ _ _ _ _ _ _ _ _ _ _ _ _ _ _ _ _ _ _ _ _ _ _ _ _ _ _ _ _ _ _ _ _ _ _ _ _ _ _ _ _ _ _ _ _ _ _ _ _ _ _ _ _ _ _ _ _ _ _ _ _ _ _ _ _ _ _ _ _ _ _ _ _ _ _ _ _ _ _ _ _ _ _ _ _ _ _ _ _ _ _ _ _ _ _ _ _ _ _ _ _ _ _ _ _ _ _ _ _ _ _ _ _ _ _ _ _ _ _ _ _ _ _ _ HRND (by assumption) (by assumption) cz (by omega) k3
      by_cases k4 : kd = 4
      · exact if_dup w4 W8 p N lb lc cb cc E WB V B C s s' kd pa di ix dat da dl dc code od ol _ _ _ _ _ _ _ _ _ _ _ _ _ _ _ _ _ _ _ _ _ _ _ _ _ _ _ _ _ _ _ _ _ _ _ _ _ _ _ _ _ _ _ _ _ _ _ _ _ _ _ _ _ _ _ _ _ _ _ _ _ _ _ _ _ _ _ _ _ _ _ _ _ _ _ _ _ _ _ _ _ _ _ _ _ _ _ _ _ _ _ _ _ _ _ _ _ _ _ _ _ _ _ _ _ _ _ _ _ _ _ _ _ _ _ _ _ _ _ _ _ _ _ _ _ _ _ _ _ _ _ _ _ _ _ _ _ _ _ _ _ _ _ _ _ _ _ _ _ _ _ _ _ _ _ _ _ _ _ _ _ _ _ _ _ _ _ _ _ _ _ _ _ _ _ _ _ _ _ _ _ _ _ _ _ _ _ _ _ _ _ _ _ _ _ _ _ _ _ _ _ _ _ _ _ _ _ _ _ _ _ _ _ _ _ _ _ _ _ _ _ _ _ _ _ _ _ _ _ _ _ _ _ _ _ _ _ _ _ _ _ _ _ _ _ _ _ _ _ _ _ _ _ _ _ _ _ _ _ _ _ _ _ _ _ _ _ _ _ _ _ _ _ _ _ _ _ _ _ _ _ _ _ _ _ _ _ _ _ _ _ _ _ _ _ _ _ _ _ _ _ _ _ _ _ _ _ _ _ _ _ _ _ _ _ _ _ _ _ _ _ _ _ _ _ _ _ _ _ _ _ _ _ _ _ _ _ _ _ _ _ _ _ _ _ _ _ _ _ _ _ _ HRND (by assumption) (by assumption) cz (by omega) k4
      by_cases k5 : kd = 5
      · exact if_cut w4 W8 p N lb lc cb cc E WB V B C s s' kd pa di ix dat da dl dc code od ol _ _ _ _ _ _ _ _ _ _ _ _ _ _ _ _ _ _ _ _ _ _ _ _ _ _ _ _ _ _ _ _ _ _ _ _ _ _ _ _ _ _ _ _ _ _ _ _ _ _ _ _ _ _ _ _ _ _ _ _ _ _ _ _ _ _ _ _ _ _ _ _ _ _ _ _ _ _ _ _ _ _ _ _ _ _ _ _ _ _ _ _ _ _ _ _ _ _ _ _ _ _ _ _ _ _ _ _ _ _ _ _ _ _ _ _ _ _ _ _ _ _ _ _ _ _ _ _ _ _ _ _ _ _ _ _ _ _ _ _ _ _ _ _ _ _ _ _ _ _ _ _ _ _ _ _ _ _ _ _ _ _ _ _ _ _ _ _ _ _ _ _ _ _ _ _ _ _ _ _ _ _ _ _ _ _ _ _ _ _ _ _ _ _ _ _ _ _ _ _ _ _ _ _ _ _ _ _ _ _ _ _ _ _ _ _ _ _ _ _ _ _ _ _ _ _ _ _ _ _ _ _ _ _ _ _ _ _ _ _ _ _ _ _ _ _ _ _ _ _ _ _ _ _ _ _ _ _ _ _ _ _ _ _ _ _ _ _ _ _ _ _ _ _ _ _ _ _ _ _ _ _ _ _ _ _ _ _ _ _ _ _ _ _ _ _ _ _ _ _ _ _ _ _ _ _ _ _ _ _ _ _ _ _ _ _ _ _ _ _ _ _ _ _ _ _ _ _ _ _ _ _ _ _ _ _ _ _ _ _ _ _ _ _ _ _ _ _ _ _ _ _ HRND (by assumption) (by assumption) cz k5
      · exact if_up w4 W8 p N lb lc cb cc E WB V B C s s' kd pa di ix dat da dl dc code od ol _ _ _ _ _ _ _ _ _ _ _ _ _ _ _ _ _ _ _ _ _ _ _ _ _ _ _ _ _ _ _ _ _ _ _ _ _ _ _ _ _ _ _ _ _ _ _ _ _ _ _ _ _ _ _ _ _ _ _ _ _ _ _ _ _ _ _ _ _ _ _ _ _ _ _ _ _ _ _ _ _ _ _ _ _ _ _ _ _ _ _ _ _ _ _ _ _ _ _ _ _ _ _ _ _ _ _ _ _ _ _ _ _ _ _ _ _ _ _ _ _ _ _ _ _ _ _ _ _ _ _ _ _ _ _ _ _ _ _ _ _ _ _ _ _ _ _ _ _ _ _ _ _ _ _ _ _ _ _ _ _ _ _ _ _ _ _ _ _ _ _ _ _ _ _ _ _ _ _ _ _ _ _ _ _ _ _ _ _ _ _ _ _ _ _ _ _ _ _ _ _ _ _ _ _ _ _ _ _ _ _ _ _ _ _ _ _ _ _ _ _ _ _ _ _ _ _ _ _ _ _ _ _ _ _ _ _ _ _ _ _ _ _ _ _ _ _ _ _ _ _ _ _ _ _ _ _ _ _ _ _ _ _ _ _ _ _ _ _ _ _ _ _ _ _ _ _ _ _ _ _ _ _ _ _ _ _ _ _ _ _ _ _ _ _ _ _ _ _ _ _ _ _ _ _ _ _ _ _ _ _ _ _ _ _ _ _ _ _ _ _ _ _ _ _ _ _ _ _ _ _ _ _ _ _ _ _ _ _ _ _ _ _ _ _ _ _ _ _ _ _ _ HRND (by assumption) (by assumption) cz (by omega)
  case rest =>
  obtain ⟨V', B', C', wa, wcp, rfl, HWA, HLA9, HAG9⟩ := hcut
  have hb9 : Below w4.heap.size w4 wc := HLA9.out.bel
  obtain ⟨_, x1, x2⟩ := HV.out wc hb9
  have s0 : ∀ n, (convert 22 9 (.slice ova ol ovc)).run Try.prog (wc.drewN n) = .ok (.string (strOf od)) (wc.drewN n) := fun n => toString_any ova od ol ovc _ (x2.moved (drewsN (Below.refl _ _) n)) hol.out.symm
  have s1 : ∀ n, (convert 22 9 (.slice wa ol wcp)).run Try.prog (wc.drewN n) = .ok (.string (strOf od)) (wc.drewN n) := fun n => toString_any wa od ol wcp _ (HWA.out.moved (drewsN hb9 n)) hol.out.symm
  obtain ⟨SS, hSS⟩ : ∃ SS, SS = strOf od := ⟨_, rfl⟩
  rw [← hSS] at s0 s1
  have HAGN : Hid (Agree p (stateN p (ES.take (k + 1))) B' C') := by unfold Hid; rw [HSN.out]; exact HAG9.out
  clear hSS x2 v0 e0 e1 e2 e3 e4 hE8 HV HWA HLA8 HAG HGK HINV HDT HOKE
  go_upto_region 61 with fail
  go_big_quiet (fail)
  have HLN : Hid (ListsAt w4 (wc.drewN nq) lb lc cb cc N V' B' C') := HLA9.out.moved (drewsN (Below.refl _ _) nq)
  clear x1 s0 s1
  go_wp2_with fail
  go_roundw
  case rel => exact ⟨k + 1, V', B', C', by omega, by go_num, HLN, HAGN⟩
  case measure => simp [intOf]; omega
end Go.Proofs.Ytkamdaadgndmbaa
