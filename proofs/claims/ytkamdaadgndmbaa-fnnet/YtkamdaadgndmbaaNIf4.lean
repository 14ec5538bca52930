import Derived.Test.YtkamdaadgndmbaaNIf0
import Derived.BigQuiet
namespace Go.Proofs.Ytkamdaadgndmbaa
open Go.ChangeShapes Go.WideShapes Go.ChangeAt Go.RowKit
set_option linter.unusedVariables false
set_option linter.unusedSimpArgs false

set_option maxHeartbeats 4000000 in
set_option maxRecDepth 1000000 in
theorem if_drop (w4 W8 : World) (p N lb lc cb cc E WB : Nat) (V : Nat → Value) (B : Nat → Bg) (C : Nat → Int) (s s' : NS) (kd pa di ix : Int) (dat : List Int) (da : Option Addr) (dl dc : Nat) (code : Int) (od : List Int) (ol : Nat)
    (y0 y1 y2 y4 y5 y6 y7 y8 y9 y10 y13 y14 y17 y18 y19 y20 y21 y22 y23 y24 y25 y26 y27 y28 y29 y30 y31 y32 y33 y34 y35 y36 y37 y38 y39 y40 y41 y42 y43 y44 y45 y46 y47 y48 y49 y50 y51 y52 y53 y54 y55 y56 y57 y58 y59 y60 y61 y62 y63 y64 y65 y66 y67 y68 y69 y70 y71 y72 y73 y74 y75 y76 y77 y78 y79 y80 y81 y82 y83 y84 y85 y86 y87 y88 y89 y90 y91 y92 y93 y94 y95 y96 y97 y98 y99 y100 y101 y102 y103 y104 y105 y106 y107 y108 y109 y110 y111 y112 y113 y114 y115 y116 y117 y119 y120 y121 y122 y123 y124 y125 y126 y127 y128 y129 y130 y131 y132 y133 y134 y135 y136 y137 y138 y139 y140 y141 y142 y143 y144 y145 y146 y147 y148 y149 y150 y151 y152 y153 y154 y155 y156 y157 y158 y159 y160 y161 y162 y163 y164 y165 y166 y167 y168 y169 y170 y171 y172 y173 y174 y175 y176 y177 y178 y179 y180 y181 y182 y183 y184 y185 y186 y187 y188 y189 y190 y191 y192 y193 y194 y195 y196 y197 y198 y199 y200 y201 y202 y203 y204 y205 y206 y207 y208 y209 y210 y211 y212 y213 y214 y215 y216 y217 y218 y219 y220 y221 y222 y223 y224 y225 y226 y227 y228 y229 y230 y231 y232 y233 y234 y235 y236 y237 y238 y239 y240 y241 y242 y243 y244 y245 y246 y247 y248 y249 y250 y251 y252 y253 y254 y255 y256 y257 y258 y259 y260 y261 y262 y263 y264 y265 y266 y267 y268 y269 y270 y271 y272 y273 y274 y275 y276 y277 y278 y279 y280 y281 y282 y283 y284 y285 y286 y287 y288 y289 y290 y291 y292 y293 y294 y295 y296 y297 y298 y299 y300 y301 y302 y303 y304 y305 y306 y307 y308 y309 y310 y311 y312 y313 y314 y315 y316 y317 y318 y319 y320 y321 y322 y323 y324 y325 y326 y327 y328 y329 y330 y331 y332 y333 y334 y335 y336 y337 y338 y339 y340 y341 y342 y343 y344 y345 y346 y347 y348 y349 y350 y351 y352 y353 y354 : Value)
    (J K' : Act → World → Prop) (Q : Exit → Act → World → Prop) (R : Hid (Rnd w4 W8 p N lb lc cb cc E V B C s s' kd pa di ix dat da dl dc code od ol))
    (hJ : ∀ (a' : Act) (w' : World), (∃ u2 u16 u17 u18 u19 u113 u114 u115 u116 u117 u118 u119 u120 u121 u122 u123 u124 u125 u126 u127 u128 u129 u130 u131 u132 u133 u134 u135 u136 u137 u138 u139 u140 u141 u142 u143 u144 u145 u146 u147 u148 u149 u150 u151 u152 u153 u154 u155 u156 u157 u158 u159 u160 u161 u162 u163 u164 u165 u166 u167 u168 u169 u170 u171 u172 u173 u174 u175 u176 u177 u178 u179 u180 u181 u182 u183 u184 u185 u186 u187 u188 u189 u190 u191 u192 u193 u194 u195 u196 u197 u198 u199 u200 u201 u202 u203 u204 u205 u206 u207 u208 u209 u210 u211 u212 u213 u214 u215 u216 u217 u218 u219 u220 u221 u222 u223 u224 u225 u226 u227 u228 u229 u230 u231 u232 u233 u234 u235 u236 u237 u238 u239 u240 u241 u242 u243 u244 u245 u246 u247 u248 u249 u250 u251 u252 u253 u254 u255 u256 u257 u258 u259 u260 u261 u262 u263 u264 u265 u266 u267 u268 u269 u270 u271 u272 u273 u274 u275 u276 u277 u278 u279 u280 : Value, (∃ (V' : Nat → Value) (B' : Nat → Bg) (C' : Nat → Int) (wa : Option Addr) (wc : Nat), u16 = .slice wa ol wc ∧ Hid (Ints .u8 w4 wa od) ∧ Hid (ListsAt w4 w' lb lc cb cc N V' B' C') ∧ Hid (Agree p s' B' C')) ∧ a' = ⟨#[y0, y1, u2, .int .i64 (p : Int), y4, y5, y6, y7, y8, y9, y10, .slice (some ⟨lb, 0, none⟩) N lc, .slice (some ⟨cb, 0, none⟩) N cc, y13, y14, .pointer (some ⟨E, 0, none⟩), u16, u17, u18, u19, y20, y21, y22, y23, y24, y25, y26, y27, y28, y29, y30, y31, y32, y33, y34, y35, y36, y37, y38, y39, y40, y41, y42, y43, y44, y45, y46, y47, y48, y49, y50, y51, y52, y53, y54, y55, y56, y57, y58, y59, y60, y61, y62, y63, y64, y65, y66, y67, y68, y69, y70, y71, y72, y73, y74, y75, y76, y77, y78, y79, y80, y81, y82, y83, y84, y85, y86, y87, y88, y89, y90, y91, y92, y93, y94, y95, y96, y97, y98, y99, y100, y101, y102, y103, y104, y105, y106, y107, y108, y109, y110, y111, y112, u113, u114, u115, u116, u117, u118, u119, u120, u121, u122, u123, u124, u125, u126, u127, u128, u129, u130, u131, u132, u133, u134, u135, u136, u137, u138, u139, u140, u141, u142, u143, u144, u145, u146, u147, u148, u149, u150, u151, u152, u153, u154, u155, u156, u157, u158, u159, u160, u161, u162, u163, u164, u165, u166, u167, u168, u169, u170, u171, u172, u173, u174, u175, u176, u177, u178, u179, u180, u181, u182, u183, u184, u185, u186, u187, u188, u189, u190, u191, u192, u193, u194, u195, u196, u197, u198, u199, u200, u201, u202, u203, u204, u205, u206, u207, u208, u209, u210, u211, u212, u213, u214, u215, u216, u217, u218, u219, u220, u221, u222, u223, u224, u225, u226, u227, u228, u229, u230, u231, u232, u233, u234, u235, u236, u237, u238, u239, u240, u241, u242, u243, u244, u245, u246, u247, u248, u249, u250, u251, u252, u253, u254, u255, u256, u257, u258, u259, u260, u261, u262, u263, u264, u265, u266, u267, u268, u269, u270, u271, u272, u273, u274, u275, u276, u277, u278, u279, u280, y281, y282, y283, y284, y285, y286, y287, y288, y289, y290, y291, y292, y293, y294, y295, y296, y297, y298, y299, y300, y301, y302, y303, y304, y305, y306, y307, y308, y309, y310, y311, y312, y313, y314, y315, y316, y317, y318, y319, y320, y321, y322, y323, y324, y325, y326, y327, y328, y329, y330, y331, y332, y333, y334, y335, y336, y337, y338, y339, y340, y341, y342, y343, y344, y345, y346, y347, y348, y349, y350, y351, y352, y353, y354], []⟩) → J a' w') (hK : ∀ (a' : Act) (w' : World), Met J a' w' → K' a' w')
    (cz : code = 0) (k4 : kd ≤ 4) (k1 : kd = 3) : Code.wp Try.prog (ifAt Try.f3 118) (Exit.then K' Q) ⟨#[y0, y1, y2, .int .i64 (p : Int), y4, y5, y6, y7, y8, y9, y10, .slice (some ⟨lb, 0, none⟩) N lc, .slice (some ⟨cb, 0, none⟩) N cc, y13, y14, .pointer (some ⟨E, 0, none⟩), .slice (some ⟨WB, 0, none⟩) 0 0, y17, y18, y19, y20, y21, y22, y23, y24, y25, y26, y27, y28, y29, y30, y31, y32, y33, y34, y35, y36, y37, y38, y39, y40, y41, y42, y43, y44, y45, y46, y47, y48, y49, y50, y51, y52, y53, y54, y55, y56, y57, y58, y59, y60, y61, y62, y63, y64, y65, y66, y67, y68, y69, y70, y71, y72, y73, y74, y75, y76, y77, y78, y79, y80, y81, y82, y83, y84, y85, y86, y87, y88, y89, y90, y91, y92, y93, y94, y95, y96, y97, y98, y99, y100, y101, y102, y103, y104, y105, y106, y107, y108, y109, y110, y111, y112, y113, y114, y115, y116, y117, .bool true, y119, y120, y121, y122, y123, y124, y125, y126, y127, y128, y129, y130, y131, y132, y133, y134, y135, y136, y137, y138, y139, y140, y141, y142, y143, y144, y145, y146, y147, y148, y149, y150, y151, y152, y153, y154, y155, y156, y157, y158, y159, y160, y161, y162, y163, y164, y165, y166, y167, y168, y169, y170, y171, y172, y173, y174, y175, y176, y177, y178, y179, y180, y181, y182, y183, y184, y185, y186, y187, y188, y189, y190, y191, y192, y193, y194, y195, y196, y197, y198, y199, y200, y201, y202, y203, y204, y205, y206, y207, y208, y209, y210, y211, y212, y213, y214, y215, y216, y217, y218, y219, y220, y221, y222, y223, y224, y225, y226, y227, y228, y229, y230, y231, y232, y233, y234, y235, y236, y237, y238, y239, y240, y241, y242, y243, y244, y245, y246, y247, y248, y249, y250, y251, y252, y253, y254, y255, y256, y257, y258, y259, y260, y261, y262, y263, y264, y265, y266, y267, y268, y269, y270, y271, y272, y273, y274, y275, y276, y277, y278, y279, y280, y281, y282, y283, y284, y285, y286, y287, y288, y289, y290, y291, y292, y293, y294, y295, y296, y297, y298, y299, y300, y301, y302, y303, y304, y305, y306, y307, y308, y309, y310, y311, y312, y313, y314, y315, y316, y317, y318, y319, y320, y321, y322, y323, y324, y325, y326, y327, y328, y329, y330, y331, y332, y333, y334, y335, y336, y337, y338, y339, y340, y341, y342, y343, y344, y345, y346, y347, y348, y349, y350, y351, y352, y353, y354], []⟩ W8 := by
  conv => arg 2; whnf
  have h1 := R.out
  have hcode : (stepN p s ⟨kd, pa, di, ix, dat⟩).1.code = 0 := by rw [← h1.gk]; exact cz
  obtain ⟨⟨hpa0, hpa1⟩, ⟨hkd1, hkd6⟩, hdi, hsend, hix⟩ := pass_yes _ hcode
  simp only at hpa0 hpa1 hkd1 hkd6 hdi hsend hix
  obtain ⟨pp, hpp⟩ : ∃ pp : Nat, pa = (pp : Int) := ⟨pa.toNat, by omega⟩
  have q1 : decide (pa < 0) = false := decide_eq_false (by omega)
  have q2 : decide ((p : Int) ≤ pa) = false := decide_eq_false (by omega)
  obtain ⟨JJ, hJJ⟩ : ∃ JJ, JJ = 2 * pp := ⟨_, rfl⟩
  have p8 := h1.p8
  have hJw : IntKind.i64.wrap (2 * pa) = (JJ : Int) := by rw [IntKind.wrap_i64]; omega
  have hJN : JJ + 1 < N := by have := h1.n; omega
  have hN16 : N ≤ 16 := by have := h1.n; omega
  have HPP : Hid (pa = (pp : Int) ∧ pp < p ∧ JJ = 2 * pp) := ⟨hpp, by omega, hJJ⟩
  obtain ⟨⟨e0, e1, e2, e3, e4⟩, _⟩ := cells5r h1.box
  have HCD : Hid _ := hcode
  have bk4 : decide (kd ≤ 4) = true := decide_eq_true k4
  obtain ⟨d, hd⟩ : ∃ d : Nat, di = (d : Int) ∧ d < 2 := ⟨di.toNat, by have := hdi k4; omega⟩
  obtain ⟨I, hI⟩ : ∃ I, I = JJ + d := ⟨_, rfl⟩
  have hIw : IntKind.i64.wrap ((JJ : Int) + di) = (I : Int) := by rw [IntKind.wrap_i64]; omega
  have hIN : I < N := by omega
  have hbg : (B I).map (·.1) = s.bag pa di := by
    have h := h1.ag.bag pp d HPP.out.2.1 hd.2
    rw [← HPP.out.2.2, ← hI] at h
    rw [HPP.out.1, hd.1]
    exact h
  have hctI : C I = s.cut pa := by
    have h := h1.ag.cut pp d HPP.out.2.1 hd.2
    rw [← HPP.out.2.2, ← hI] at h
    rw [HPP.out.1]
    exact h
  obtain ⟨L, hL⟩ : ∃ L, Hid (L = (B I).length) := ⟨_, rfl⟩
  have hlen := h1.inv.len pa di
  rw [← hbg, List.length_map, ← hL.out] at hlen hix
  have hrowI := h1.la.bag I hIN
  obtain ⟨va, vc, hVI⟩ := own_shape hrowI
  rw [← hL.out] at hVI
  obtain ⟨l0, lf0⟩ := h1.la.cellL hIN
  rw [hVI] at l0
  have hI0 : decide ((I : Int) < 0) = false := decide_eq_false (by omega)
  have hIN2 : decide ((N : Int) ≤ (I : Int)) = false := decide_eq_false (by omega)
  have hIN3 : decide (N ≤ I) = false := decide_eq_false (by omega)
  have hIi : (I : Int) < (N : Int) := by omega
  have HROW : Hid (W8.ownsRow w4.heap.size 22 1 (.slice va L vc) L ((B I).map (·.2))) := by
    have h := hrowI
    rw [← hL.out, hVI] at h
    exact h
  have HDI : Hid (di = (d : Int) ∧ d < 2 ∧ I = JJ + d) := ⟨hd.1, hd.2, hI⟩
  have HVI : Hid _ := hVI
  have HBG : Hid _ := hbg
  obtain ⟨hix0, hix1⟩ := hix (by omega) k4
  obtain ⟨z, hz⟩ : ∃ z : Nat, ix = (z : Int) := ⟨ix.toNat, by omega⟩
  have hzL : z < L := by omega
  have bi0 : decide (ix < 0) = false := decide_eq_false (by omega)
  have biL : decide ((L : Int) ≤ ix) = false := decide_eq_false (by omega)
  have bq2 : decide (2 ≤ kd) = true := decide_eq_true (by omega)
  have bk1 : (kd == 1) = false := by simp; omega
  have bk2 : (kd == 2) = false := by simp; omega
  have bk3 : (kd == 3) = true := by simp; omega
  have bk4 : (kd == 4) = false := by simp; omega
  have HK1 : Hid _ := k1
  have HZ : Hid _ := hz
  clear hz hix0 hix1 k1 k4 hd hI hVI hbg hctI hrowI hix hsend hdi hkd1 hkd6 cz hcode hpp hJJ hpa0 hpa1 h1
  go_upto_region 31 with fail
  clear hJw hIw q1 q2
  go_big_quiet (fail)
  obtain ⟨X, hX⟩ : ∃ X, X = W8.drewN nq := ⟨_, rfl⟩
  have hbX : Below W8.heap.size W8 X := by rw [hX]; exact drewsN (Below.refl _ _) nq
  have HLX : Hid (ListsAt w4 X lb lc cb cc N V B C) := R.out.la.moved hbX
  have hEX := (hbX.block E (Array.getElem?_eq_some_iff.1 R.out.box).1).trans R.out.box
  have hElt := (Array.getElem?_eq_some_iff.1 hEX).1
  have hrowX : X.ownsRow w4.heap.size 22 1 (.slice va L vc) L ((B I).map (·.2)) := row_stays HROW.out fun k hk => hbX.block k (HROW.out.lt k hk).2
  have hsX : w4.heap.size ≤ X.heap.size := HLX.out.bel.size
  rw [← hX]
  clear e0 e1 e2 e3 e4 l0 lf0 hX hbX bi0 biL hI0 hIN2 hIN3
  have hmade : (X.alloc (.cells #[] 22)).ownsRow X.heap.size 22 1 (.slice (some ⟨X.heap.size, 0, none⟩) 0 0) 0 [] := World.ownsRow_made X #[] 0 (Nat.le_refl _) (by unfold maxLen; omega) rfl
  have HMA : Hid ((X.alloc (.cells #[] 22)).ownsRow X.heap.size 22 1 (.slice (some ⟨X.heap.size, 0, none⟩) 0 0) 0 []) := hmade
  have HB0 : Hid (Below X.heap.size X (X.alloc (.cells #[] 22))) := (Below.refl _ _).alloc (Nat.le_refl _) _
  have e0 : X.cell? ⟨E, 0, none⟩ = some (.int .i64 kd) := Go.Joins.cell_of_block hEX 0
  clear hmade
  go_wp2_with fail
  clear e0
  go_loopw [16, 18, 19] (fun wv rv kv wr => ∃ (j m : Nat) (ra : Option Addr) (rc : Nat), j ≤ L ∧ m ≤ j ∧ kv = .int .i64 (j : Int) ∧ rv = .slice ra m rc ∧ wv = .slice (some ⟨WB, 0, none⟩) 0 0 ∧ Hid (m = (((B I).take j).eraseIdx z).length) ∧ Hid (wr.ownsRow X.heap.size 22 1 (.slice ra m rc) m ((((B I).take j).eraseIdx z).map (·.2))) ∧ Hid (Below X.heap.size X wr)) (fun _ _ kv _ => L - (intOf kv).toNat)
  case atStart => exact ⟨0, 0, _, _, Nat.zero_le _, Nat.le_refl _, rfl, rfl, rfl, by unfold Hid; simp, by unfold Hid; simp; exact HMA.out, HB0⟩
  case round =>
  clear HMA HB0
  obtain ⟨j, m, ra, rc, hj, hmj, rfl, rfl, hwv, HM, HRR, HBR⟩ := hrel
  have hb9 := HBR.out
  have hL9 := HLX.out.moved hb9
  obtain ⟨l0, lf0⟩ := hL9.cellL hIN
  rw [HVI.out] at l0
  have hE9 := (hb9.block E hElt).trans hEX
  have e0 : wr.cell? ⟨E, 0, none⟩ = some (.int .i64 kd) := Go.Joins.cell_of_block hE9 0
  have e3 : wr.cell? ⟨E, 3, none⟩ = some (.int .i64 ix) := Go.Joins.cell_of_block hE9 3
  by_cases hjL : j < L
  case pos =>
    have hji : (j : Int) < (L : Int) := by omega
    have hjB : j < (B I).length := by rw [← hL.out]; exact hjL
    obtain ⟨gv, hva⟩ : ∃ gv, va = some ⟨gv, 0, none⟩ := by
      rcases hrowX.2 with ⟨e, h0⟩ | ⟨g, c, cur, e, _⟩
      · omega
      · simp only [Value.slice.injEq] at e
        exact ⟨g, e.1⟩
    subst hva
    have hgvl := (hrowX.lt gv rfl).2
    have hsz9 := hb9.size
    obtain ⟨X9, hX9⟩ : ∃ X9, X9 = wr := ⟨_, rfl⟩
    rw [← hX9] at hb9 l0 e0 e3 hsz9 HRR HBR ⊢
    clear hL9 hE9 lf0 hX9
    by_cases hjz : j = z
    case pos =>
      have bz : ((j : Int) != ix) = false := by rw [HZ.out, hjz]; simp
      have HJZ : Hid _ := hjz
      subst hjz
      clear e3
      have e3 : X9.cell? ⟨E, 3, none⟩ = some (.int .i64 ix) := (hb9.cell (p := ⟨E, 3, none⟩) hElt).trans (Go.Joins.cell_of_block hEX 3)
      have HWV : Hid _ := hwv
      clear hwv
      go_wp2_with fail
      go_roundw
      case rel => exact ⟨j + 1, m, ra, rc, by omega, by omega, by go_num, rfl, HWV.out, by unfold Hid; rw [rest_skip _ _ hjB]; exact HM.out, by unfold Hid; rw [rest_skip _ _ hjB]; exact HRR.out, HBR⟩
      case measure => simp [intOf]; omega
    case neg =>
      have bz : ((j : Int) != ix) = true := by rw [HZ.out]; simp; omega
      obtain ⟨xa, xc, hx2, _⟩ := HLX.out.dat I hIN ((B I)[j]'hjB) (List.getElem_mem _)
      obtain ⟨xl, hxl⟩ : ∃ xl, Hid (xl = ((B I)[j]'hjB).1.length) := ⟨_, rfl⟩
      rw [← hxl.out] at hx2
      have c2 : X9.cell? ⟨gv, j, none⟩ = some (.slice xa xl xc) := by
        rw [← hx2]
        exact (hb9.cell (p := ⟨gv, j, none⟩) hgvl).trans (by rw [hrowX.cellAt j (by omega), List.getElem?_map, List.getElem?_eq_getElem hjB]; rfl)
      have hrest : (((B I).take (j + 1)).eraseIdx z) = (((B I).take j).eraseIdx z) ++ [(B I)[j]'hjB] := rest_at _ _ _ hjB hjz
      have HREST : Hid _ := hrest
      have HX2 : Hid _ := hx2
      have HWV : Hid _ := hwv
      have HNZ : Hid (¬ j = z) := hjz
      clear hrest hx2 hwv hjz
      go_wp2_with (at_builtin; refine wpList_appV _ (by rfl) _ _ (by rfl) X.heap.size ra m rc _ (by rfl) (own_alloc HRR.out _) X9.heap.size _ (by rfl) (heap_alloc_new X9 _) (by rfl) (by omega) (by simp; omega) ?_; intro g5 cap5 w5 ho5 hg5 hfr5; have hb5 := below_grown (hb9.alloc hsz9 _) (own_alloc HRR.out _) hg5 (Nat.le_refl _) (by simp; omega))
      go_roundw
      case rel => exact ⟨j + 1, m + 1, some ⟨g5, 0, none⟩, cap5, by omega, by omega, by go_num, rfl, HWV.out, by unfold Hid; rw [HREST.out, List.length_append, ← HM.out]; rfl, by unfold Hid; rw [HREST.out, List.map_append]; exact (show ([(B I)[j]'hjB].map (·.2)) = [.slice xa xl xc] by rw [← HX2.out]; rfl) ▸ ho5, hb5⟩
      case measure => simp [intOf]; omega
  case neg =>
  obtain rfl : j = L := by omega
  have hjj : ¬ (j : Int) < (j : Int) := by omega
  have HWV : Hid _ := hwv
  have htk : (B I).take j = B I := List.take_of_length_le (by rw [← hL.out]; exact Nat.le_refl _)
  have hm := HM.out
  have hrr := HRR.out
  rw [htk] at hm hrr
  have HM2 : Hid _ := hm
  have HRR2 : Hid (wr.ownsRow X.heap.size 22 1 (.slice ra m rc) m (((B I).eraseIdx z).map (·.2))) := hrr
  clear hwv htk hm hrr e0 e3 hE9 hL9
  go_wp2_with fail
  go_meet
  case rel =>
    have hst := step_drop ⟨kd, pa, di, ix, dat⟩ HK1.out HCD.out
    have hgk := R.out.gk
    have hs' := R.out.st
    rw [hst] at hgk hs'
    simp only [NOut.mk.injEq] at hgk hs'
    have hla := (HLX.out.moved HBR.out).setL (b := I) hIN (.slice ra m rc) ((B I).eraseIdx z) (by rw [← HM2.out]; exact owned_base HRR2.out hsX) (fun q hq i hi hib e => by
      have h1 := (HRR2.out.lt q hq).1
      have h2 := ((HLX.out.bag i hi).lt q e).2
      omega) (fun q hq => HLX.out.dat I hIN q (List.mem_of_mem_eraseIdx hq))
    have hag := R.out.ag.put (p := pp) (d := d) HPP.out.2.1 HDI.out.2.1 (bg := (B I).eraseIdx z) (l := (s.bag pa di).eraseIdx ix.toNat) (by rw [map_erase, HBG.out, HZ.out]; rfl)
    rw [← HPP.out.2.2, ← HDI.out.2.2, ← HPP.out.1, ← HDI.out.1, ← hs'] at hag
    have hwv := HWV.out
    subst hwv
    exact ⟨_, _, C, some ⟨WB, 0, none⟩, 0, by rw [R.out.hol, hgk.2]; rfl, by unfold Hid; rw [hgk.2]; exact .inl rfl, hla, hag⟩
set_option maxHeartbeats 4000000 in
set_option maxRecDepth 1000000 in
theorem if_del (w4 W8 : World) (p N lb lc cb cc E WB : Nat) (V : Nat → Value) (B : Nat → Bg) (C : Nat → Int) (s s' : NS) (kd pa di ix : Int) (dat : List Int) (da : Option Addr) (dl dc : Nat) (code : Int) (od : List Int) (ol : Nat)
    (y0 y1 y2 y4 y5 y6 y7 y8 y9 y10 y13 y14 y17 y18 y19 y20 y21 y22 y23 y24 y25 y26 y27 y28 y29 y30 y31 y32 y33 y34 y35 y36 y37 y38 y39 y40 y41 y42 y43 y44 y45 y46 y47 y48 y49 y50 y51 y52 y53 y54 y55 y56 y57 y58 y59 y60 y61 y62 y63 y64 y65 y66 y67 y68 y69 y70 y71 y72 y73 y74 y75 y76 y77 y78 y79 y80 y81 y82 y83 y84 y85 y86 y87 y88 y89 y90 y91 y92 y93 y94 y95 y96 y97 y98 y99 y100 y101 y102 y103 y104 y105 y106 y107 y108 y109 y110 y111 y112 y113 y114 y115 y116 y117 y119 y120 y121 y122 y123 y124 y125 y126 y127 y128 y129 y130 y131 y132 y133 y134 y135 y136 y137 y138 y139 y140 y141 y142 y143 y144 y145 y146 y147 y148 y149 y150 y151 y152 y153 y154 y155 y156 y157 y158 y159 y160 y161 y162 y163 y164 y165 y166 y167 y168 y169 y170 y171 y172 y173 y174 y175 y176 y177 y178 y179 y180 y181 y182 y183 y184 y185 y186 y187 y188 y189 y190 y191 y192 y193 y194 y195 y196 y197 y198 y199 y200 y201 y202 y203 y204 y205 y206 y207 y208 y209 y210 y211 y212 y213 y214 y215 y216 y217 y218 y219 y220 y221 y222 y223 y224 y225 y226 y227 y228 y229 y230 y231 y232 y233 y234 y235 y236 y237 y238 y239 y240 y241 y242 y243 y244 y245 y246 y247 y248 y249 y250 y251 y252 y253 y254 y255 y256 y257 y258 y259 y260 y261 y262 y263 y264 y265 y266 y267 y268 y269 y270 y271 y272 y273 y274 y275 y276 y277 y278 y279 y280 y281 y282 y283 y284 y285 y286 y287 y288 y289 y290 y291 y292 y293 y294 y295 y296 y297 y298 y299 y300 y301 y302 y303 y304 y305 y306 y307 y308 y309 y310 y311 y312 y313 y314 y315 y316 y317 y318 y319 y320 y321 y322 y323 y324 y325 y326 y327 y328 y329 y330 y331 y332 y333 y334 y335 y336 y337 y338 y339 y340 y341 y342 y343 y344 y345 y346 y347 y348 y349 y350 y351 y352 y353 y354 : Value)
    (J K' : Act → World → Prop) (Q : Exit → Act → World → Prop) (R : Hid (Rnd w4 W8 p N lb lc cb cc E V B C s s' kd pa di ix dat da dl dc code od ol))
    (hJ : ∀ (a' : Act) (w' : World), (∃ u2 u16 u17 u18 u19 u113 u114 u115 u116 u117 u118 u119 u120 u121 u122 u123 u124 u125 u126 u127 u128 u129 u130 u131 u132 u133 u134 u135 u136 u137 u138 u139 u140 u141 u142 u143 u144 u145 u146 u147 u148 u149 u150 u151 u152 u153 u154 u155 u156 u157 u158 u159 u160 u161 u162 u163 u164 u165 u166 u167 u168 u169 u170 u171 u172 u173 u174 u175 u176 u177 u178 u179 u180 u181 u182 u183 u184 u185 u186 u187 u188 u189 u190 u191 u192 u193 u194 u195 u196 u197 u198 u199 u200 u201 u202 u203 u204 u205 u206 u207 u208 u209 u210 u211 u212 u213 u214 u215 u216 u217 u218 u219 u220 u221 u222 u223 u224 u225 u226 u227 u228 u229 u230 u231 u232 u233 u234 u235 u236 u237 u238 u239 u240 u241 u242 u243 u244 u245 u246 u247 u248 u249 u250 u251 u252 u253 u254 u255 u256 u257 u258 u259 u260 u261 u262 u263 u264 u265 u266 u267 u268 u269 u270 u271 u272 u273 u274 u275 u276 u277 u278 u279 u280 : Value, (∃ (V' : Nat → Value) (B' : Nat → Bg) (C' : Nat → Int) (wa : Option Addr) (wc : Nat), u16 = .slice wa ol wc ∧ Hid (Ints .u8 w4 wa od) ∧ Hid (ListsAt w4 w' lb lc cb cc N V' B' C') ∧ Hid (Agree p s' B' C')) ∧ a' = ⟨#[y0, y1, u2, .int .i64 (p : Int), y4, y5, y6, y7, y8, y9, y10, .slice (some ⟨lb, 0, none⟩) N lc, .slice (some ⟨cb, 0, none⟩) N cc, y13, y14, .pointer (some ⟨E, 0, none⟩), u16, u17, u18, u19, y20, y21, y22, y23, y24, y25, y26, y27, y28, y29, y30, y31, y32, y33, y34, y35, y36, y37, y38, y39, y40, y41, y42, y43, y44, y45, y46, y47, y48, y49, y50, y51, y52, y53, y54, y55, y56, y57, y58, y59, y60, y61, y62, y63, y64, y65, y66, y67, y68, y69, y70, y71, y72, y73, y74, y75, y76, y77, y78, y79, y80, y81, y82, y83, y84, y85, y86, y87, y88, y89, y90, y91, y92, y93, y94, y95, y96, y97, y98, y99, y100, y101, y102, y103, y104, y105, y106, y107, y108, y109, y110, y111, y112, u113, u114, u115, u116, u117, u118, u119, u120, u121, u122, u123, u124, u125, u126, u127, u128, u129, u130, u131, u132, u133, u134, u135, u136, u137, u138, u139, u140, u141, u142, u143, u144, u145, u146, u147, u148, u149, u150, u151, u152, u153, u154, u155, u156, u157, u158, u159, u160, u161, u162, u163, u164, u165, u166, u167, u168, u169, u170, u171, u172, u173, u174, u175, u176, u177, u178, u179, u180, u181, u182, u183, u184, u185, u186, u187, u188, u189, u190, u191, u192, u193, u194, u195, u196, u197, u198, u199, u200, u201, u202, u203, u204, u205, u206, u207, u208, u209, u210, u211, u212, u213, u214, u215, u216, u217, u218, u219, u220, u221, u222, u223, u224, u225, u226, u227, u228, u229, u230, u231, u232, u233, u234, u235, u236, u237, u238, u239, u240, u241, u242, u243, u244, u245, u246, u247, u248, u249, u250, u251, u252, u253, u254, u255, u256, u257, u258, u259, u260, u261, u262, u263, u264, u265, u266, u267, u268, u269, u270, u271, u272, u273, u274, u275, u276, u277, u278, u279, u280, y281, y282, y283, y284, y285, y286, y287, y288, y289, y290, y291, y292, y293, y294, y295, y296, y297, y298, y299, y300, y301, y302, y303, y304, y305, y306, y307, y308, y309, y310, y311, y312, y313, y314, y315, y316, y317, y318, y319, y320, y321, y322, y323, y324, y325, y326, y327, y328, y329, y330, y331, y332, y333, y334, y335, y336, y337, y338, y339, y340, y341, y342, y343, y344, y345, y346, y347, y348, y349, y350, y351, y352, y353, y354], []⟩) → J a' w') (hK : ∀ (a' : Act) (w' : World), Met J a' w' → K' a' w')
    (cz : code = 0) (k4 : kd ≤ 4) (k1 : kd = 2) : Code.wp Try.prog (ifAt Try.f3 118) (Exit.then K' Q) ⟨#[y0, y1, y2, .int .i64 (p : Int), y4, y5, y6, y7, y8, y9, y10, .slice (some ⟨lb, 0, none⟩) N lc, .slice (some ⟨cb, 0, none⟩) N cc, y13, y14, .pointer (some ⟨E, 0, none⟩), .slice (some ⟨WB, 0, none⟩) 0 0, y17, y18, y19, y20, y21, y22, y23, y24, y25, y26, y27, y28, y29, y30, y31, y32, y33, y34, y35, y36, y37, y38, y39, y40, y41, y42, y43, y44, y45, y46, y47, y48, y49, y50, y51, y52, y53, y54, y55, y56, y57, y58, y59, y60, y61, y62, y63, y64, y65, y66, y67, y68, y69, y70, y71, y72, y73, y74, y75, y76, y77, y78, y79, y80, y81, y82, y83, y84, y85, y86, y87, y88, y89, y90, y91, y92, y93, y94, y95, y96, y97, y98, y99, y100, y101, y102, y103, y104, y105, y106, y107, y108, y109, y110, y111, y112, y113, y114, y115, y116, y117, .bool true, y119, y120, y121, y122, y123, y124, y125, y126, y127, y128, y129, y130, y131, y132, y133, y134, y135, y136, y137, y138, y139, y140, y141, y142, y143, y144, y145, y146, y147, y148, y149, y150, y151, y152, y153, y154, y155, y156, y157, y158, y159, y160, y161, y162, y163, y164, y165, y166, y167, y168, y169, y170, y171, y172, y173, y174, y175, y176, y177, y178, y179, y180, y181, y182, y183, y184, y185, y186, y187, y188, y189, y190, y191, y192, y193, y194, y195, y196, y197, y198, y199, y200, y201, y202, y203, y204, y205, y206, y207, y208, y209, y210, y211, y212, y213, y214, y215, y216, y217, y218, y219, y220, y221, y222, y223, y224, y225, y226, y227, y228, y229, y230, y231, y232, y233, y234, y235, y236, y237, y238, y239, y240, y241, y242, y243, y244, y245, y246, y247, y248, y249, y250, y251, y252, y253, y254, y255, y256, y257, y258, y259, y260, y261, y262, y263, y264, y265, y266, y267, y268, y269, y270, y271, y272, y273, y274, y275, y276, y277, y278, y279, y280, y281, y282, y283, y284, y285, y286, y287, y288, y289, y290, y291, y292, y293, y294, y295, y296, y297, y298, y299, y300, y301, y302, y303, y304, y305, y306, y307, y308, y309, y310, y311, y312, y313, y314, y315, y316, y317, y318, y319, y320, y321, y322, y323, y324, y325, y326, y327, y328, y329, y330, y331, y332, y333, y334, y335, y336, y337, y338, y339, y340, y341, y342, y343, y344, y345, y346, y347, y348, y349, y350, y351, y352, y353, y354], []⟩ W8 := by
  conv => arg 2; whnf
  have h1 := R.out
  have hcode : (stepN p s ⟨kd, pa, di, ix, dat⟩).1.code = 0 := by rw [← h1.gk]; exact cz
  obtain ⟨⟨hpa0, hpa1⟩, ⟨hkd1, hkd6⟩, hdi, hsend, hix⟩ := pass_yes _ hcode
  simp only at hpa0 hpa1 hkd1 hkd6 hdi hsend hix
  obtain ⟨pp, hpp⟩ : ∃ pp : Nat, pa = (pp : Int) := ⟨pa.toNat, by omega⟩
  have q1 : decide (pa < 0) = false := decide_eq_false (by omega)
  have q2 : decide ((p : Int) ≤ pa) = false := decide_eq_false (by omega)
  obtain ⟨JJ, hJJ⟩ : ∃ JJ, JJ = 2 * pp := ⟨_, rfl⟩
  have p8 := h1.p8
  have hJw : IntKind.i64.wrap (2 * pa) = (JJ : Int) := by rw [IntKind.wrap_i64]; omega
  have hJN : JJ + 1 < N := by have := h1.n; omega
  have hN16 : N ≤ 16 := by have := h1.n; omega
  have HPP : Hid (pa = (pp : Int) ∧ pp < p ∧ JJ = 2 * pp) := ⟨hpp, by omega, hJJ⟩
  obtain ⟨⟨e0, e1, e2, e3, e4⟩, _⟩ := cells5r h1.box
  have HCD : Hid _ := hcode
  have bk4 : decide (kd ≤ 4) = true := decide_eq_true k4
  obtain ⟨d, hd⟩ : ∃ d : Nat, di = (d : Int) ∧ d < 2 := ⟨di.toNat, by have := hdi k4; omega⟩
  obtain ⟨I, hI⟩ : ∃ I, I = JJ + d := ⟨_, rfl⟩
  have hIw : IntKind.i64.wrap ((JJ : Int) + di) = (I : Int) := by rw [IntKind.wrap_i64]; omega
  have hIN : I < N := by omega
  have hbg : (B I).map (·.1) = s.bag pa di := by
    have h := h1.ag.bag pp d HPP.out.2.1 hd.2
    rw [← HPP.out.2.2, ← hI] at h
    rw [HPP.out.1, hd.1]
    exact h
  have hctI : C I = s.cut pa := by
    have h := h1.ag.cut pp d HPP.out.2.1 hd.2
    rw [← HPP.out.2.2, ← hI] at h
    rw [HPP.out.1]
    exact h
  obtain ⟨L, hL⟩ : ∃ L, Hid (L = (B I).length) := ⟨_, rfl⟩
  have hlen := h1.inv.len pa di
  rw [← hbg, List.length_map, ← hL.out] at hlen hix
  have hrowI := h1.la.bag I hIN
  obtain ⟨va, vc, hVI⟩ := own_shape hrowI
  rw [← hL.out] at hVI
  obtain ⟨l0, lf0⟩ := h1.la.cellL hIN
  rw [hVI] at l0
  have hI0 : decide ((I : Int) < 0) = false := decide_eq_false (by omega)
  have hIN2 : decide ((N : Int) ≤ (I : Int)) = false := decide_eq_false (by omega)
  have hIN3 : decide (N ≤ I) = false := decide_eq_false (by omega)
  have hIi : (I : Int) < (N : Int) := by omega
  have HROW : Hid (W8.ownsRow w4.heap.size 22 1 (.slice va L vc) L ((B I).map (·.2))) := by
    have h := hrowI
    rw [← hL.out, hVI] at h
    exact h
  have HDI : Hid (di = (d : Int) ∧ d < 2 ∧ I = JJ + d) := ⟨hd.1, hd.2, hI⟩
  have HVI : Hid _ := hVI
  have HBG : Hid _ := hbg
  obtain ⟨hix0, hix1⟩ := hix (by omega) k4
  obtain ⟨z, hz⟩ : ∃ z : Nat, ix = (z : Int) := ⟨ix.toNat, by omega⟩
  have hzL : z < L := by omega
  have bi0 : decide (ix < 0) = false := decide_eq_false (by omega)
  have biL : decide ((L : Int) ≤ ix) = false := decide_eq_false (by omega)
  have bq2 : decide (2 ≤ kd) = true := decide_eq_true (by omega)
  have bk1 : (kd == 1) = false := by simp; omega
  have bk2 : (kd == 2) = true := by simp; omega
  have bk3 : (kd == 3) = false := by simp; omega
  have bk4 : (kd == 4) = false := by simp; omega
  have HK1 : Hid _ := k1
  have HZ : Hid _ := hz
  clear hz hix0 hix1 k1 k4 hd hI hVI hbg hctI hrowI hix hsend hdi hkd1 hkd6 cz hcode hpp hJJ hpa0 hpa1 h1
  go_upto_region 31 with fail
  clear hJw hIw q1 q2
  go_big_quiet (fail)
  obtain ⟨X, hX⟩ : ∃ X, X = W8.drewN nq := ⟨_, rfl⟩
  have hbX : Below W8.heap.size W8 X := by rw [hX]; exact drewsN (Below.refl _ _) nq
  have HLX : Hid (ListsAt w4 X lb lc cb cc N V B C) := R.out.la.moved hbX
  have hEX := (hbX.block E (Array.getElem?_eq_some_iff.1 R.out.box).1).trans R.out.box
  have hElt := (Array.getElem?_eq_some_iff.1 hEX).1
  have hrowX : X.ownsRow w4.heap.size 22 1 (.slice va L vc) L ((B I).map (·.2)) := row_stays HROW.out fun k hk => hbX.block k (HROW.out.lt k hk).2
  have hsX : w4.heap.size ≤ X.heap.size := HLX.out.bel.size
  rw [← hX]
  clear e0 e1 e2 e3 e4 l0 lf0 hX hbX bi0 biL hI0 hIN2 hIN3
  obtain ⟨qa, qc, hq2, hqd⟩ := HLX.out.dat I hIN ((B I)[z]'(by rw [← hL.out]; exact hzL)) (List.getElem_mem _)
  obtain ⟨ql, hql⟩ : ∃ ql : Nat, ql = ((B I)[z]'(by rw [← hL.out]; exact hzL)).1.length := ⟨_, rfl⟩
  rw [← hql] at hq2
  have HQ2 : Hid _ := hq2
  have HQD : Hid _ := hqd
  have HQL : Hid _ := hql
  clear hq2 hqd hql
  have hmade : (X.alloc (.cells #[] 22)).ownsRow X.heap.size 22 1 (.slice (some ⟨X.heap.size, 0, none⟩) 0 0) 0 [] := World.ownsRow_made X #[] 0 (Nat.le_refl _) (by unfold maxLen; omega) rfl
  have HMA : Hid ((X.alloc (.cells #[] 22)).ownsRow X.heap.size 22 1 (.slice (some ⟨X.heap.size, 0, none⟩) 0 0) 0 []) := hmade
  have HB0 : Hid (Below X.heap.size X (X.alloc (.cells #[] 22))) := (Below.refl _ _).alloc (Nat.le_refl _) _
  have e0 : X.cell? ⟨E, 0, none⟩ = some (.int .i64 kd) := Go.Joins.cell_of_block hEX 0
  clear hmade
  go_wp2_with fail
  clear e0
  go_loopw [16, 18, 19] (fun wv rv kv wr => ∃ (j m : Nat) (ra : Option Addr) (rc : Nat), j ≤ L ∧ m ≤ j ∧ kv = .int .i64 (j : Int) ∧ rv = .slice ra m rc ∧ wv = (if z < j then .slice qa ql qc else .slice (some ⟨WB, 0, none⟩) 0 0) ∧ Hid (m = (((B I).take j).eraseIdx z).length) ∧ Hid (wr.ownsRow X.heap.size 22 1 (.slice ra m rc) m ((((B I).take j).eraseIdx z).map (·.2))) ∧ Hid (Below X.heap.size X wr)) (fun _ _ kv _ => L - (intOf kv).toNat)
  case atStart => exact ⟨0, 0, _, _, Nat.zero_le _, Nat.le_refl _, rfl, rfl, by simp, by unfold Hid; simp, by unfold Hid; simp; exact HMA.out, HB0⟩
  case round =>
  clear HMA HB0
  obtain ⟨j, m, ra, rc, hj, hmj, rfl, rfl, hwv, HM, HRR, HBR⟩ := hrel
  have hb9 := HBR.out
  have hL9 := HLX.out.moved hb9
  obtain ⟨l0, lf0⟩ := hL9.cellL hIN
  rw [HVI.out] at l0
  have hE9 := (hb9.block E hElt).trans hEX
  have e0 : wr.cell? ⟨E, 0, none⟩ = some (.int .i64 kd) := Go.Joins.cell_of_block hE9 0
  have e3 : wr.cell? ⟨E, 3, none⟩ = some (.int .i64 ix) := Go.Joins.cell_of_block hE9 3
  by_cases hjL : j < L
  case pos =>
    have hji : (j : Int) < (L : Int) := by omega
    have hjB : j < (B I).length := by rw [← hL.out]; exact hjL
    obtain ⟨gv, hva⟩ : ∃ gv, va = some ⟨gv, 0, none⟩ := by
      rcases hrowX.2 with ⟨e, h0⟩ | ⟨g, c, cur, e, _⟩
      · omega
      · simp only [Value.slice.injEq] at e
        exact ⟨g, e.1⟩
    subst hva
    have hgvl := (hrowX.lt gv rfl).2
    have hsz9 := hb9.size
    obtain ⟨X9, hX9⟩ : ∃ X9, X9 = wr := ⟨_, rfl⟩
    rw [← hX9] at hb9 l0 e0 e3 hsz9 HRR HBR ⊢
    clear hL9 hE9 lf0 hX9
    by_cases hjz : j = z
    case pos =>
      have bz : ((j : Int) != ix) = false := by rw [HZ.out, hjz]; simp
      have HJZ : Hid _ := hjz
      subst hjz
      have c2 : X9.cell? ⟨gv, j, none⟩ = some (.slice qa ql qc) := by
        rw [← HQ2.out]
        exact (hb9.cell (p := ⟨gv, j, none⟩) hgvl).trans (by rw [hrowX.cellAt j (by omega), List.getElem?_map, List.getElem?_eq_getElem (by rw [← hL.out]; exact hzL)]; rfl)
      clear e3
      have e3 : X9.cell? ⟨E, 3, none⟩ = some (.int .i64 ix) := (hb9.cell (p := ⟨E, 3, none⟩) hElt).trans (Go.Joins.cell_of_block hEX 3)
      have HWV : Hid _ := hwv
      clear hwv
      go_wp2_with fail
      go_roundw
      case rel => exact ⟨j + 1, m, ra, rc, by omega, by omega, by go_num, rfl, by rw [if_pos (by omega)], by unfold Hid; rw [rest_skip _ _ hjB]; exact HM.out, by unfold Hid; rw [rest_skip _ _ hjB]; exact HRR.out, HBR⟩
      case measure => simp [intOf]; omega
    case neg =>
      have bz : ((j : Int) != ix) = true := by rw [HZ.out]; simp; omega
      obtain ⟨xa, xc, hx2, _⟩ := HLX.out.dat I hIN ((B I)[j]'hjB) (List.getElem_mem _)
      obtain ⟨xl, hxl⟩ : ∃ xl, Hid (xl = ((B I)[j]'hjB).1.length) := ⟨_, rfl⟩
      rw [← hxl.out] at hx2
      have c2 : X9.cell? ⟨gv, j, none⟩ = some (.slice xa xl xc) := by
        rw [← hx2]
        exact (hb9.cell (p := ⟨gv, j, none⟩) hgvl).trans (by rw [hrowX.cellAt j (by omega), List.getElem?_map, List.getElem?_eq_getElem hjB]; rfl)
      have hrest : (((B I).take (j + 1)).eraseIdx z) = (((B I).take j).eraseIdx z) ++ [(B I)[j]'hjB] := rest_at _ _ _ hjB hjz
      have HREST : Hid _ := hrest
      have HX2 : Hid _ := hx2
      have HWV : Hid _ := hwv
      have HNZ : Hid (¬ j = z) := hjz
      clear hrest hx2 hwv hjz
      go_wp2_with (at_builtin; refine wpList_appV _ (by rfl) _ _ (by rfl) X.heap.size ra m rc _ (by rfl) (own_alloc HRR.out _) X9.heap.size _ (by rfl) (heap_alloc_new X9 _) (by rfl) (by omega) (by simp; omega) ?_; intro g5 cap5 w5 ho5 hg5 hfr5; have hb5 := below_grown (hb9.alloc hsz9 _) (own_alloc HRR.out _) hg5 (Nat.le_refl _) (by simp; omega))
      go_roundw
      case rel => exact ⟨j + 1, m + 1, some ⟨g5, 0, none⟩, cap5, by omega, by omega, by go_num, rfl, by
        rw [HWV.out]
        by_cases h : z < j
        · rw [if_pos h, if_pos (by omega)]
        · rw [if_neg h, if_neg (by have := HNZ.out; omega)], by unfold Hid; rw [HREST.out, List.length_append, ← HM.out]; rfl, by unfold Hid; rw [HREST.out, List.map_append]; exact (show ([(B I)[j]'hjB].map (·.2)) = [.slice xa xl xc] by rw [← HX2.out]; rfl) ▸ ho5, hb5⟩
      case measure => simp [intOf]; omega
  case neg =>
  obtain rfl : j = L := by omega
  have hjj : ¬ (j : Int) < (j : Int) := by omega
  have HWV : Hid _ := hwv
  have htk : (B I).take j = B I := List.take_of_length_le (by rw [← hL.out]; exact Nat.le_refl _)
  have hm := HM.out
  have hrr := HRR.out
  rw [htk] at hm hrr
  have HM2 : Hid _ := hm
  have HRR2 : Hid (wr.ownsRow X.heap.size 22 1 (.slice ra m rc) m (((B I).eraseIdx z).map (·.2))) := hrr
  clear hwv htk hm hrr e0 e3 hE9 hL9
  go_wp2_with fail
  go_meet
  case rel =>
    have hst := step_del ⟨kd, pa, di, ix, dat⟩ HK1.out HCD.out
    have hgk := R.out.gk
    have hs' := R.out.st
    rw [hst] at hgk hs'
    simp only [NOut.mk.injEq] at hgk hs'
    have hla := (HLX.out.moved HBR.out).setL (b := I) hIN (.slice ra m rc) ((B I).eraseIdx z) (by rw [← HM2.out]; exact owned_base HRR2.out hsX) (fun q hq i hi hib e => by
      have h1 := (HRR2.out.lt q hq).1
      have h2 := ((HLX.out.bag i hi).lt q e).2
      omega) (fun q hq => HLX.out.dat I hIN q (List.mem_of_mem_eraseIdx hq))
    have hag := R.out.ag.put (p := pp) (d := d) HPP.out.2.1 HDI.out.2.1 (bg := (B I).eraseIdx z) (l := (s.bag pa di).eraseIdx ix.toNat) (by rw [map_erase, HBG.out, HZ.out]; rfl)
    rw [← HPP.out.2.2, ← HDI.out.2.2, ← HPP.out.1, ← HDI.out.1, ← hs'] at hag
    have hwv := HWV.out
    subst hwv
    have hod : od = ((B I)[z]'(by rw [← hL.out]; exact hzL)).1 := by
      rw [hgk.2, ← HBG.out, HZ.out, Int.toNat_natCast, List.getD_eq_getElem?_getD, List.getElem?_map, List.getElem?_eq_getElem (by rw [← hL.out]; exact hzL)]
      rfl
    have hqd := HQD.out
    exact ⟨_, _, C, qa, qc, by rw [R.out.hol, hod, if_pos hzL, HQL.out], by unfold Hid; rw [hod]; exact hqd, hla, hag⟩
end Go.Proofs.Ytkamdaadgndmbaa
