import Derived.Test.YtkamdaadgndmbaaNIf0
import Derived.BigQuiet
namespace Go.Proofs.Ytkamdaadgndmbaa
open Go.ChangeShapes Go.WideShapes Go.ChangeAt Go.RowKit
set_option linter.unusedVariables false
set_option linter.unusedSimpArgs false

set_option maxHeartbeats 4000000 in
set_option maxRecDepth 1000000 in
theorem if_send (w4 W8 : World) (p N lb lc cb cc E WB : Nat) (V : Nat → Value) (B : Nat → Bg) (C : Nat → Int) (s s' : NS) (kd pa di ix : Int) (dat : List Int) (da : Option Addr) (dl dc : Nat) (code : Int) (od : List Int) (ol : Nat)
    (y0 y1 y2 y4 y5 y6 y7 y8 y9 y10 y13 y14 y17 y18 y19 y20 y21 y22 y23 y24 y25 y26 y27 y28 y29 y30 y31 y32 y33 y34 y35 y36 y37 y38 y39 y40 y41 y42 y43 y44 y45 y46 y47 y48 y49 y50 y51 y52 y53 y54 y55 y56 y57 y58 y59 y60 y61 y62 y63 y64 y65 y66 y67 y68 y69 y70 y71 y72 y73 y74 y75 y76 y77 y78 y79 y80 y81 y82 y83 y84 y85 y86 y87 y88 y89 y90 y91 y92 y93 y94 y95 y96 y97 y98 y99 y100 y101 y102 y103 y104 y105 y106 y107 y108 y109 y110 y111 y112 y113 y114 y115 y116 y117 y119 y120 y121 y122 y123 y124 y125 y126 y127 y128 y129 y130 y131 y132 y133 y134 y135 y136 y137 y138 y139 y140 y141 y142 y143 y144 y145 y146 y147 y148 y149 y150 y151 y152 y153 y154 y155 y156 y157 y158 y159 y160 y161 y162 y163 y164 y165 y166 y167 y168 y169 y170 y171 y172 y173 y174 y175 y176 y177 y178 y179 y180 y181 y182 y183 y184 y185 y186 y187 y188 y189 y190 y191 y192 y193 y194 y195 y196 y197 y198 y199 y200 y201 y202 y203 y204 y205 y206 y207 y208 y209 y210 y211 y212 y213 y214 y215 y216 y217 y218 y219 y220 y221 y222 y223 y224 y225 y226 y227 y228 y229 y230 y231 y232 y233 y234 y235 y236 y237 y238 y239 y240 y241 y242 y243 y244 y245 y246 y247 y248 y249 y250 y251 y252 y253 y254 y255 y256 y257 y258 y259 y260 y261 y262 y263 y264 y265 y266 y267 y268 y269 y270 y271 y272 y273 y274 y275 y276 y277 y278 y279 y280 y281 y282 y283 y284 y285 y286 y287 y288 y289 y290 y291 y292 y293 y294 y295 y296 y297 y298 y299 y300 y301 y302 y303 y304 y305 y306 y307 y308 y309 y310 y311 y312 y313 y314 y315 y316 y317 y318 y319 y320 y321 y322 y323 y324 y325 y326 y327 y328 y329 y330 y331 y332 y333 y334 y335 y336 y337 y338 y339 y340 y341 y342 y343 y344 y345 y346 y347 y348 y349 y350 y351 y352 y353 y354 : Value)
    (J K' : Act → World → Prop) (Q : Exit → Act → World → Prop) (R : Hid (Rnd w4 W8 p N lb lc cb cc E V B C s s' kd pa di ix dat da dl dc code od ol))
    (hJ : ∀ (a' : Act) (w' : World), (∃ u2 u16 u17 u18 u19 u113 u114 u115 u116 u117 u118 u119 u120 u121 u122 u123 u124 u125 u126 u127 u128 u129 u130 u131 u132 u133 u134 u135 u136 u137 u138 u139 u140 u141 u142 u143 u144 u145 u146 u147 u148 u149 u150 u151 u152 u153 u154 u155 u156 u157 u158 u159 u160 u161 u162 u163 u164 u165 u166 u167 u168 u169 u170 u171 u172 u173 u174 u175 u176 u177 u178 u179 u180 u181 u182 u183 u184 u185 u186 u187 u188 u189 u190 u191 u192 u193 u194 u195 u196 u197 u198 u199 u200 u201 u202 u203 u204 u205 u206 u207 u208 u209 u210 u211 u212 u213 u214 u215 u216 u217 u218 u219 u220 u221 u222 u223 u224 u225 u226 u227 u228 u229 u230 u231 u232 u233 u234 u235 u236 u237 u238 u239 u240 u241 u242 u243 u244 u245 u246 u247 u248 u249 u250 u251 u252 u253 u254 u255 u256 u257 u258 u259 u260 u261 u262 u263 u264 u265 u266 u267 u268 u269 u270 u271 u272 u273 u274 u275 u276 u277 u278 u279 u280 : Value, (∃ (V' : Nat → Value) (B' : Nat → Bg) (C' : Nat → Int) (wa : Option Addr) (wc : Nat), u16 = .slice wa ol wc ∧ Hid (Ints .u8 w4 wa od) ∧ Hid (ListsAt w4 w' lb lc cb cc N V' B' C') ∧ Hid (Agree p s' B' C')) ∧ a' = ⟨#[y0, y1, u2, .int .i64 (p : Int), y4, y5, y6, y7, y8, y9, y10, .slice (some ⟨lb, 0, none⟩) N lc, .slice (some ⟨cb, 0, none⟩) N cc, y13, y14, .pointer (some ⟨E, 0, none⟩), u16, u17, u18, u19, y20, y21, y22, y23, y24, y25, y26, y27, y28, y29, y30, y31, y32, y33, y34, y35, y36, y37, y38, y39, y40, y41, y42, y43, y44, y45, y46, y47, y48, y49, y50, y51, y52, y53, y54, y55, y56, y57, y58, y59, y60, y61, y62, y63, y64, y65, y66, y67, y68, y69, y70, y71, y72, y73, y74, y75, y76, y77, y78, y79, y80, y81, y82, y83, y84, y85, y86, y87, y88, y89, y90, y91, y92, y93, y94, y95, y96, y97, y98, y99, y100, y101, y102, y103, y104, y105, y106, y107, y108, y109, y110, y111, y112, u113, u114, u115, u116, u117, u118, u119, u120, u121, u122, u123, u124, u125, u126, u127, u128, u129, u130, u131, u132, u133, u134, u135, u136, u137, u138, u139, u140, u141, u142, u143, u144, u145, u146, u147, u148, u149, u150, u151, u152, u153, u154, u155, u156, u157, u158, u159, u160, u161, u162, u163, u164, u165, u166, u167, u168, u169, u170, u171, u172, u173, u174, u175, u176, u177, u178, u179, u180, u181, u182, u183, u184, u185, u186, u187, u188, u189, u190, u191, u192, u193, u194, u195, u196, u197, u198, u199, u200, u201, u202, u203, u204, u205, u206, u207, u208, u209, u210, u211, u212, u213, u214, u215, u216, u217, u218, u219, u220, u221, u222, u223, u224, u225, u226, u227, u228, u229, u230, u231, u232, u233, u234, u235, u236, u237, u238, u239, u240, u241, u242, u243, u244, u245, u246, u247, u248, u249, u250, u251, u252, u253, u254, u255, u256, u257, u258, u259, u260, u261, u262, u263, u264, u265, u266, u267, u268, u269, u270, u271, u272, u273, u274, u275, u276, u277, u278, u279, u280, y281, y282, y283, y284, y285, y286, y287, y288, y289, y290, y291, y292, y293, y294, y295, y296, y297, y298, y299, y300, y301, y302, y303, y304, y305, y306, y307, y308, y309, y310, y311, y312, y313, y314, y315, y316, y317, y318, y319, y320, y321, y322, y323, y324, y325, y326, y327, y328, y329, y330, y331, y332, y333, y334, y335, y336, y337, y338, y339, y340, y341, y342, y343, y344, y345, y346, y347, y348, y349, y350, y351, y352, y353, y354], []⟩) → J a' w') (hK : ∀ (a' : Act) (w' : World), Met J a' w' → K' a' w')
    (cz : code = 0) (k4 : kd ≤ 4) (k1 : kd = 1) : Code.wp Try.prog (ifAt Try.f3 118) (Exit.then K' Q) ⟨#[y0, y1, y2, .int .i64 (p : Int), y4, y5, y6, y7, y8, y9, y10, .slice (some ⟨lb, 0, none⟩) N lc, .slice (some ⟨cb, 0, none⟩) N cc, y13, y14, .pointer (some ⟨E, 0, none⟩), .slice (some ⟨WB, 0, none⟩) 0 0, y17, y18, y19, y20, y21, y22, y23, y24, y25, y26, y27, y28, y29, y30, y31, y32, y33, y34, y35, y36, y37, y38, y39, y40, y41, y42, y43, y44, y45, y46, y47, y48, y49, y50, y51, y52, y53, y54, y55, y56, y57, y58, y59, y60, y61, y62, y63, y64, y65, y66, y67, y68, y69, y70, y71, y72, y73, y74, y75, y76, y77, y78, y79, y80, y81, y82, y83, y84, y85, y86, y87, y88, y89, y90, y91, y92, y93, y94, y95, y96, y97, y98, y99, y100, y101, y102, y103, y104, y105, y106, y107, y108, y109, y110, y111, y112, y113, y114, y115, y116, y117, .bool true, y119, y120, y121, y122, y123, y124, y125, y126, y127, y128, y129, y130, y131, y132, y133, y134, y135, y136, y137, y138, y139, y140, y141, y142, y143, y144, y145, y146, y147, y148, y149, y150, y151, y152, y153, y154, y155, y156, y157, y158, y159, y160, y161, y162, y163, y164, y165, y166, y167, y168, y169, y170, y171, y172, y173, y174, y175, y176, y177, y178, y179, y180, y181, y182, y183, y184, y185, y186, y187, y188, y189, y190, y191, y192, y193, y194, y195, y196, y197, y198, y199, y200, y201, y202, y203, y204, y205, y206, y207, y208, y209, y210, y211, y212, y213, y214, y215, y216, y217, y218, y219, y220, y221, y222, y223, y224, y225, y226, y227, y228, y229, y230, y231, y232, y233, y234, y235, y236, y237, y238, y239, y240, y241, y242, y243, y244, y245, y246, y247, y248, y249, y250, y251, y252, y253, y254, y255, y256, y257, y258, y259, y260, y261, y262, y263, y264, y265, y266, y267, y268, y269, y270, y271, y272, y273, y274, y275, y276, y277, y278, y279, y280, y281, y282, y283, y284, y285, y286, y287, y288, y289, y290, y291, y292, y293, y294, y295, y296, y297, y298, y299, y300, y301, y302, y303, y304, y305, y306, y307, y308, y309, y310, y311, y312, y313, y314, y315, y316, y317, y318, y319, y320, y321, y322, y323, y324, y325, y326, y327, y328, y329, y330, y331, y332, y333, y334, y335, y336, y337, y338, y339, y340, y341, y342, y343, y344, y345, y346, y347, y348, y349, y350, y351, y352, y353, y354], []⟩ W8 := by
  conv => arg 2; whnf
  have h1 := R.out
  have hcode : (stepN p s ⟨kd, pa, di, ix, dat⟩).1.code = 0 := by rw [← h1.gk]; exact cz
  obtain ⟨⟨hpa0, hpa1⟩, ⟨hkd1, hkd6⟩, hdi, hsend, hix⟩ := pass_yes _ hcode
  simp only at hpa0 hpa1 hkd1 hkd6 hdi hsend hix
  obtain ⟨pp, hpp⟩ : ∃ pp : Nat, pa = (pp : Int) := ⟨pa.toNat, by omega⟩
  have q1 : decide (pa < 0) = false := decide_eq_false (by omega)
  have q2 : decide ((p : Int) ≤ pa) = false := decide_eq_false (by omega)
  obtain ⟨JJ, hJJ⟩ : ∃ JJ, JJ = 2 * pp := ⟨_, rfl⟩
  have p8 := h1.p8
  have hJw : IntKind.i64.wrap (2 * pa) = (JJ : Int) := by rw [IntKind.wrap_i64]; omega
  have hJN : JJ + 1 < N := by have := h1.n; omega
  have hN16 : N ≤ 16 := by have := h1.n; omega
  have HPP : Hid (pa = (pp : Int) ∧ pp < p ∧ JJ = 2 * pp) := ⟨hpp, by omega, hJJ⟩
  obtain ⟨⟨e0, e1, e2, e3, e4⟩, _⟩ := cells5r h1.box
  have HCD : Hid _ := hcode
  have bk4 : decide (kd ≤ 4) = true := decide_eq_true k4
  obtain ⟨d, hd⟩ : ∃ d : Nat, di = (d : Int) ∧ d < 2 := ⟨di.toNat, by have := hdi k4; omega⟩
  obtain ⟨I, hI⟩ : ∃ I, I = JJ + d := ⟨_, rfl⟩
  have hIw : IntKind.i64.wrap ((JJ : Int) + di) = (I : Int) := by rw [IntKind.wrap_i64]; omega
  have hIN : I < N := by omega
  have hbg : (B I).map (·.1) = s.bag pa di := by
    have h := h1.ag.bag pp d HPP.out.2.1 hd.2
    rw [← HPP.out.2.2, ← hI] at h
    rw [HPP.out.1, hd.1]
    exact h
  have hctI : C I = s.cut pa := by
    have h := h1.ag.cut pp d HPP.out.2.1 hd.2
    rw [← HPP.out.2.2, ← hI] at h
    rw [HPP.out.1]
    exact h
  obtain ⟨L, hL⟩ : ∃ L, Hid (L = (B I).length) := ⟨_, rfl⟩
  have hlen := h1.inv.len pa di
  rw [← hbg, List.length_map, ← hL.out] at hlen hix
  have hrowI := h1.la.bag I hIN
  obtain ⟨va, vc, hVI⟩ := own_shape hrowI
  rw [← hL.out] at hVI
  obtain ⟨l0, lf0⟩ := h1.la.cellL hIN
  rw [hVI] at l0
  have hI0 : decide ((I : Int) < 0) = false := decide_eq_false (by omega)
  have hIN2 : decide ((N : Int) ≤ (I : Int)) = false := decide_eq_false (by omega)
  have hIN3 : decide (N ≤ I) = false := decide_eq_false (by omega)
  have hIi : (I : Int) < (N : Int) := by omega
  have HROW : Hid (W8.ownsRow w4.heap.size 22 1 (.slice va L vc) L ((B I).map (·.2))) := by
    have h := hrowI
    rw [← hL.out, hVI] at h
    exact h
  have HDI : Hid (di = (d : Int) ∧ d < 2 ∧ I = JJ + d) := ⟨hd.1, hd.2, hI⟩
  have HVI : Hid _ := hVI
  have HBG : Hid _ := hbg
  have hk1 : kd = 1 := k1
  have bk1 : (kd == 1) = true := by simpa using k1
  have bk2 : decide (2 ≤ kd) = false := decide_eq_false (by omega)
  obtain ⟨l1, _⟩ := h1.la.cellC hIN
  have hc1 : (C I == 1) = false := by rw [hctI]; simpa using hsend k1
  obtain ⟨CI, hCI⟩ : ∃ CI, CI = C I := ⟨_, rfl⟩
  rw [← hCI] at hc1 l1
  have HK1 : Hid _ := hk1
  clear hk1 k1 k4 hd hI hVI hbg hctI hrowI hCI hix hsend hdi hkd1 hkd6 cz hcode hpp hJJ hpa0 hpa1 h1
  go_upto_region 31 with fail
  clear hJw hIw q1 q2 bk4
  go_big_quiet (fail)
  go_upto_region 37 with fail
  obtain ⟨Y, hY⟩ : ∃ Y, Y = (W8.drewN nq).drew := ⟨_, rfl⟩
  have hbY : Below W8.heap.size W8 Y := by rw [hY]; exact (drewsN (Below.refl _ _) nq).drew
  have HLY : Hid (ListsAt w4 Y lb lc cb cc N V B C) := R.out.la.moved hbY
  have hEY := (hbY.block E (Array.getElem?_eq_some_iff.1 R.out.box).1).trans R.out.box
  have hElt := (Array.getElem?_eq_some_iff.1 hEY).1
  have hrowY : Y.ownsRow w4.heap.size 22 1 (.slice va L vc) L ((B I).map (·.2)) := row_stays HROW.out fun k hk => hbY.block k (HROW.out.lt k hk).2
  have hsY : w4.heap.size ≤ Y.heap.size := HLY.out.bel.size
  obtain ⟨ll0, llf⟩ := HLY.out.cellL hIN
  rw [HVI.out] at ll0
  obtain ⟨lcs, hlb⟩ := HLY.out.lblk
  have hlblt := (Array.getElem?_eq_some_iff.1 hlb).1
  have hEl : E ≠ lb := type_ne hEY hlb (by decide)
  have x4 : Y.cell? ⟨E, 4, none⟩ = some (.slice da dl dc) := Go.Joins.cell_of_block hEY 4
  clear e0 e1 e2 e3 e4 l0 lf0 l1 hc1 hbY bk1 bk2 hI0 hIN2 hIN3
  refine wp_region_noPanic ?_
  refine wp_region_held_drew (S := fun w' => w'.cell? ⟨E, 4, none⟩ = some (.slice da dl dc)) (by kernel_rfl) (by rw [← hY]; exact x4) (fun hHeld => ?_)
  rw [← hY] at hHeld ⊢
  clear hY
  refine wpAnyH_take (i := 0) (v := ?_) rfl (by kernel_rfl) (by kernel_rfl) (by kernel_rfl) (fun _ _ _ h => h) (Or.inl ⟨by rfl, ?_⟩) (by assumption) ?_
  rotate_left
  · intro w hSw
    try dsimp only at hSw
    (go_simp; try with_reducible rfl)
  try simp only [Act.put, List.setIfInBounds_toArray, List.set_cons_zero, List.set_cons_succ]
  refine wpAnyH_take (i := 1) (v := ?_) rfl (by kernel_rfl) (by kernel_rfl) (by kernel_rfl) (fun _ _ _ h => h) (Or.inl ⟨by rfl, ?_⟩) (by assumption) ?_
  rotate_left
  · intro w hSw
    try dsimp only at hSw
    (go_simp; try with_reducible rfl)
  try simp only [Act.put, List.setIfInBounds_toArray, List.set_cons_zero, List.set_cons_succ]
  refine wpAnyH_take (i := 2) (v := ?_) rfl (by kernel_rfl) (by kernel_rfl) (by kernel_rfl) (fun _ _ _ h => h) (Or.inl ⟨by rfl, ?_⟩) (by assumption) ?_
  rotate_left
  · intro w hSw
    try dsimp only at hSw
    (go_simp; try with_reducible rfl)
  try simp only [Act.put, List.setIfInBounds_toArray, List.set_cons_zero, List.set_cons_succ]
  refine wpAnyH_take (i := 3) (v := ?_) rfl (by kernel_rfl) (by kernel_rfl) (by kernel_rfl) (fun _ _ _ h => h) (Or.inl ⟨by rfl, ?_⟩) (by assumption) ?_
  rotate_left
  · intro w hSw
    try dsimp only at hSw
    (go_simp; try with_reducible rfl)
  try simp only [Act.put, List.setIfInBounds_toArray, List.set_cons_zero, List.set_cons_succ]
  refine wpAnyH_take (i := 4) (v := ?_) rfl (by kernel_rfl) (by kernel_rfl) (by kernel_rfl) (fun _ _ _ h => h) (Or.inl ⟨by rfl, ?_⟩) (by assumption) ?_
  rotate_left
  · intro w hSw
    try dsimp only at hSw
    (go_simp; try with_reducible rfl)
  try simp only [Act.put, List.setIfInBounds_toArray, List.set_cons_zero, List.set_cons_succ]
  refine wpAnyH_take (i := 6) (v := ?_) rfl (by kernel_rfl) (by kernel_rfl) (by kernel_rfl) (fun _ _ _ h => h) (Or.inl ⟨by rfl, ?_⟩) (by assumption) ?_
  rotate_left
  · intro w hSw
    try dsimp only at hSw
    (go_simp; try with_reducible rfl)
  try simp only [Act.put, List.setIfInBounds_toArray, List.set_cons_zero, List.set_cons_succ]
  refine wpAnyH_take (i := 7) (v := ?_) rfl (by kernel_rfl) (by kernel_rfl) (by kernel_rfl) (fun _ _ _ h => h) (Or.inl ⟨by rfl, ?_⟩) (by assumption) ?_
  rotate_left
  · intro w hSw
    try dsimp only at hSw
    (go_simp; try with_reducible rfl)
  try simp only [Act.put, List.setIfInBounds_toArray, List.set_cons_zero, List.set_cons_succ]
  refine wpAnyH_ready (rs := [5, 8]) (by kernel_rfl) (by simp) ?_
  refine AllReadyH.cons rfl (fun K hK => ?_) ?_
  · go_simp
    refine hK.out _ _ ?_ (fun hHeld => ?_)
    · first | assumption | (go_keep; done)
    clear hK K
    try simp only [Act.put, List.setIfInBounds_toArray, List.set_cons_zero, List.set_cons_succ]
    refine wpAnyH_ready (rs := [8]) (by kernel_rfl) (by simp) ?_
    refine AllReadyH.cons rfl (fun K hK => ?_) ?_
    rotate_left
    · exact AllReadyH.nil
    go_simp
    refine hK.out _ _ ?_ (fun hHeld => ?_)
    · first | assumption | (go_keep; done)
    clear hK K
    try simp only [Act.put, List.setIfInBounds_toArray, List.set_cons_zero, List.set_cons_succ]
    refine wpAnyH_ready (rs := [9]) (by kernel_rfl) (by simp) ?_
    refine AllReadyH.cons rfl (fun K hK => ?_) ?_
    rotate_left
    · exact AllReadyH.nil
    refine step_appV (Y.alloc (.cells #[.slice da dl dc] 22)) (by rfl) _ _ (by rfl) w4.heap.size va L vc ((B I).map (·.2)) (by simp [Act.eval, Act.put]) (own_alloc hrowY _) Y.heap.size _ (by simp [Act.eval, Act.put]) (heap_alloc_new Y _) (by rfl) (by omega) (by simp; omega) ?_
    intro g11 cap11 w11 ho11 hg11 hfr11
    have hne1 : (Value.slice va L vc).ownBlock ≠ some lb := own_ne9 hrowY hlb (by decide)
    have hne2 : (Value.slice va L vc).ownBlock ≠ some E := own_ne9 hrowY hEY (by decide)
    have hl11 := (hg11.block lb (by simp; omega) (fun e => hne1 e.symm)).trans ((Below.heap_alloc Y _ lb hlblt).trans hlb)
    have hE11 := (hg11.block E (by simp; omega) (fun e => hne2 e.symm)).trans ((Below.heap_alloc Y _ E hElt).trans hEY)
    have t2 : w11.cell? ⟨lb, I, none⟩ = some (.slice va L vc) := cell_grown (a := ⟨lb, I, none⟩) hg11 ((World.cell?_alloc_lt Y _ ⟨lb, I, none⟩ hlblt).trans ll0) hne1
    have tf := Go.Joins.unfrozen_of_block hl11 I
    have s4 : w11.cell? ⟨E, 4, none⟩ = some (.slice da dl dc) := Go.Joins.cell_of_block hE11 4
    refine hK.out _ _ ?_ (fun hHeld => ?_)
    · first | assumption | (go_keep; done)
    clear hK K
    try simp only [Act.put, List.setIfInBounds_toArray, List.set_cons_zero, List.set_cons_succ]
    refine wpAnyH_take (i := 10) (v := ?_) rfl (by kernel_rfl) (by kernel_rfl) (by kernel_rfl) (fun _ _ _ h => h) (Or.inl ⟨by rfl, ?_⟩) (by assumption) ?_
    rotate_left
    · intro w hSw
      try dsimp only at hSw
      (go_simp; try with_reducible rfl)
    try simp only [Act.put, List.setIfInBounds_toArray, List.set_cons_zero, List.set_cons_succ]
    refine wpAnyH_ready (rs := [11]) (by kernel_rfl) (by simp) ?_
    refine AllReadyH.cons rfl (fun K hK => ?_) ?_
    rotate_left
    · exact AllReadyH.nil
    go_simp
    refine hK.out _ _ ?_ (fun hHeld => ?_)
    · exact (World.cell?_setCell_far _ _ _ _ (Ne.symm hEl)).trans s4
    clear hK K
    try simp only [Act.put, List.setIfInBounds_toArray, List.set_cons_zero, List.set_cons_succ]
    refine wpAnyH_done (by kernel_rfl) ?_ _
    refine NoPanic.normal ?_
    go_wp2_with fail
    go_meet
    case rel =>
      have hst := step_send ⟨kd, pa, di, ix, dat⟩ HK1.out HCD.out
      have hgk := R.out.gk
      have hs' := R.out.st
      rw [hst] at hgk hs'
      simp only [NOut.mk.injEq] at hgk hs'
      have hmore := ListsAt.more (b := I) (y := dat) (x := .slice da dl dc) (HLY.out.moved ((Below.refl _ _).alloc (Nat.le_refl _) _)) hIN (by rw [HVI.out]; exact hg11) (by rw [← hL.out]; exact ho11) (by rw [HVI.out]; exact hfr11) rfl ⟨da, dc, by simp only; rw [← R.out.hdl], R.out.dt⟩
      rw [← hL.out] at hmore
      have hag := R.out.ag.put (p := pp) (d := d) HPP.out.2.1 HDI.out.2.1 (bg := B I ++ [(dat, .slice da dl dc)]) (l := s.bag pa di ++ [dat]) (by rw [List.map_append, HBG.out]; rfl)
      rw [← HPP.out.2.2, ← HDI.out.2.2, ← HPP.out.1, ← HDI.out.1, ← hs'] at hag
      exact ⟨_, _, C, some ⟨WB, 0, none⟩, 0, by rw [R.out.hol, hgk.2]; rfl, by unfold Hid; rw [hgk.2]; exact .inl rfl, hmore, hag⟩
  refine AllReadyH.cons rfl (fun K hK => ?_) AllReadyH.nil
  go_simp
  refine hK.out _ _ ?_ (fun hHeld => ?_)
  · first | assumption | (go_keep; done)
  clear hK K
  try simp only [Act.put, List.setIfInBounds_toArray, List.set_cons_zero, List.set_cons_succ]
  refine wpAnyH_ready (rs := [5]) (by kernel_rfl) (by simp) ?_
  refine AllReadyH.cons rfl (fun K hK => ?_) ?_
  rotate_left
  · exact AllReadyH.nil
  go_simp
  refine hK.out _ _ ?_ (fun hHeld => ?_)
  · first | assumption | (go_keep; done)
  clear hK K
  try simp only [Act.put, List.setIfInBounds_toArray, List.set_cons_zero, List.set_cons_succ]
  refine wpAnyH_ready (rs := [9]) (by kernel_rfl) (by simp) ?_
  refine AllReadyH.cons rfl (fun K hK => ?_) ?_
  rotate_left
  · exact AllReadyH.nil
  refine step_appV (Y.alloc (.cells #[.slice da dl dc] 22)) (by rfl) _ _ (by rfl) w4.heap.size va L vc ((B I).map (·.2)) (by simp [Act.eval, Act.put]) (own_alloc hrowY _) Y.heap.size _ (by simp [Act.eval, Act.put]) (heap_alloc_new Y _) (by rfl) (by omega) (by simp; omega) ?_
  intro g11 cap11 w11 ho11 hg11 hfr11
  have hne1 : (Value.slice va L vc).ownBlock ≠ some lb := own_ne9 hrowY hlb (by decide)
  have hne2 : (Value.slice va L vc).ownBlock ≠ some E := own_ne9 hrowY hEY (by decide)
  have hl11 := (hg11.block lb (by simp; omega) (fun e => hne1 e.symm)).trans ((Below.heap_alloc Y _ lb hlblt).trans hlb)
  have hE11 := (hg11.block E (by simp; omega) (fun e => hne2 e.symm)).trans ((Below.heap_alloc Y _ E hElt).trans hEY)
  have t2 : w11.cell? ⟨lb, I, none⟩ = some (.slice va L vc) := cell_grown (a := ⟨lb, I, none⟩) hg11 ((World.cell?_alloc_lt Y _ ⟨lb, I, none⟩ hlblt).trans ll0) hne1
  have tf := Go.Joins.unfrozen_of_block hl11 I
  have s4 : w11.cell? ⟨E, 4, none⟩ = some (.slice da dl dc) := Go.Joins.cell_of_block hE11 4
  refine hK.out _ _ ?_ (fun hHeld => ?_)
  · first | assumption | (go_keep; done)
  clear hK K
  try simp only [Act.put, List.setIfInBounds_toArray, List.set_cons_zero, List.set_cons_succ]
  refine wpAnyH_take (i := 10) (v := ?_) rfl (by kernel_rfl) (by kernel_rfl) (by kernel_rfl) (fun _ _ _ h => h) (Or.inl ⟨by rfl, ?_⟩) (by assumption) ?_
  rotate_left
  · intro w hSw
    try dsimp only at hSw
    (go_simp; try with_reducible rfl)
  try simp only [Act.put, List.setIfInBounds_toArray, List.set_cons_zero, List.set_cons_succ]
  refine wpAnyH_ready (rs := [11]) (by kernel_rfl) (by simp) ?_
  refine AllReadyH.cons rfl (fun K hK => ?_) ?_
  rotate_left
  · exact AllReadyH.nil
  go_simp
  refine hK.out _ _ ?_ (fun hHeld => ?_)
  · exact (World.cell?_setCell_far _ _ _ _ (Ne.symm hEl)).trans s4
  clear hK K
  try simp only [Act.put, List.setIfInBounds_toArray, List.set_cons_zero, List.set_cons_succ]
  refine wpAnyH_done (by kernel_rfl) ?_ _
  refine NoPanic.normal ?_
  go_wp2_with fail
  go_meet
  case rel =>
    have hst := step_send ⟨kd, pa, di, ix, dat⟩ HK1.out HCD.out
    have hgk := R.out.gk
    have hs' := R.out.st
    rw [hst] at hgk hs'
    simp only [NOut.mk.injEq] at hgk hs'
    have hmore := ListsAt.more (b := I) (y := dat) (x := .slice da dl dc) (HLY.out.moved ((Below.refl _ _).alloc (Nat.le_refl _) _)) hIN (by rw [HVI.out]; exact hg11) (by rw [← hL.out]; exact ho11) (by rw [HVI.out]; exact hfr11) rfl ⟨da, dc, by simp only; rw [← R.out.hdl], R.out.dt⟩
    rw [← hL.out] at hmore
    have hag := R.out.ag.put (p := pp) (d := d) HPP.out.2.1 HDI.out.2.1 (bg := B I ++ [(dat, .slice da dl dc)]) (l := s.bag pa di ++ [dat]) (by rw [List.map_append, HBG.out]; rfl)
    rw [← HPP.out.2.2, ← HDI.out.2.2, ← HPP.out.1, ← HDI.out.1, ← hs'] at hag
    exact ⟨_, _, C, some ⟨WB, 0, none⟩, 0, by rw [R.out.hol, hgk.2]; rfl, by unfold Hid; rw [hgk.2]; exact .inl rfl, hmore, hag⟩

set_option maxHeartbeats 4000000 in
set_option maxRecDepth 1000000 in
theorem if_dup (w4 W8 : World) (p N lb lc cb cc E WB : Nat) (V : Nat → Value) (B : Nat → Bg) (C : Nat → Int) (s s' : NS) (kd pa di ix : Int) (dat : List Int) (da : Option Addr) (dl dc : Nat) (code : Int) (od : List Int) (ol : Nat)
    (y0 y1 y2 y4 y5 y6 y7 y8 y9 y10 y13 y14 y17 y18 y19 y20 y21 y22 y23 y24 y25 y26 y27 y28 y29 y30 y31 y32 y33 y34 y35 y36 y37 y38 y39 y40 y41 y42 y43 y44 y45 y46 y47 y48 y49 y50 y51 y52 y53 y54 y55 y56 y57 y58 y59 y60 y61 y62 y63 y64 y65 y66 y67 y68 y69 y70 y71 y72 y73 y74 y75 y76 y77 y78 y79 y80 y81 y82 y83 y84 y85 y86 y87 y88 y89 y90 y91 y92 y93 y94 y95 y96 y97 y98 y99 y100 y101 y102 y103 y104 y105 y106 y107 y108 y109 y110 y111 y112 y113 y114 y115 y116 y117 y119 y120 y121 y122 y123 y124 y125 y126 y127 y128 y129 y130 y131 y132 y133 y134 y135 y136 y137 y138 y139 y140 y141 y142 y143 y144 y145 y146 y147 y148 y149 y150 y151 y152 y153 y154 y155 y156 y157 y158 y159 y160 y161 y162 y163 y164 y165 y166 y167 y168 y169 y170 y171 y172 y173 y174 y175 y176 y177 y178 y179 y180 y181 y182 y183 y184 y185 y186 y187 y188 y189 y190 y191 y192 y193 y194 y195 y196 y197 y198 y199 y200 y201 y202 y203 y204 y205 y206 y207 y208 y209 y210 y211 y212 y213 y214 y215 y216 y217 y218 y219 y220 y221 y222 y223 y224 y225 y226 y227 y228 y229 y230 y231 y232 y233 y234 y235 y236 y237 y238 y239 y240 y241 y242 y243 y244 y245 y246 y247 y248 y249 y250 y251 y252 y253 y254 y255 y256 y257 y258 y259 y260 y261 y262 y263 y264 y265 y266 y267 y268 y269 y270 y271 y272 y273 y274 y275 y276 y277 y278 y279 y280 y281 y282 y283 y284 y285 y286 y287 y288 y289 y290 y291 y292 y293 y294 y295 y296 y297 y298 y299 y300 y301 y302 y303 y304 y305 y306 y307 y308 y309 y310 y311 y312 y313 y314 y315 y316 y317 y318 y319 y320 y321 y322 y323 y324 y325 y326 y327 y328 y329 y330 y331 y332 y333 y334 y335 y336 y337 y338 y339 y340 y341 y342 y343 y344 y345 y346 y347 y348 y349 y350 y351 y352 y353 y354 : Value)
    (J K' : Act → World → Prop) (Q : Exit → Act → World → Prop) (R : Hid (Rnd w4 W8 p N lb lc cb cc E V B C s s' kd pa di ix dat da dl dc code od ol))
    (hJ : ∀ (a' : Act) (w' : World), (∃ u2 u16 u17 u18 u19 u113 u114 u115 u116 u117 u118 u119 u120 u121 u122 u123 u124 u125 u126 u127 u128 u129 u130 u131 u132 u133 u134 u135 u136 u137 u138 u139 u140 u141 u142 u143 u144 u145 u146 u147 u148 u149 u150 u151 u152 u153 u154 u155 u156 u157 u158 u159 u160 u161 u162 u163 u164 u165 u166 u167 u168 u169 u170 u171 u172 u173 u174 u175 u176 u177 u178 u179 u180 u181 u182 u183 u184 u185 u186 u187 u188 u189 u190 u191 u192 u193 u194 u195 u196 u197 u198 u199 u200 u201 u202 u203 u204 u205 u206 u207 u208 u209 u210 u211 u212 u213 u214 u215 u216 u217 u218 u219 u220 u221 u222 u223 u224 u225 u226 u227 u228 u229 u230 u231 u232 u233 u234 u235 u236 u237 u238 u239 u240 u241 u242 u243 u244 u245 u246 u247 u248 u249 u250 u251 u252 u253 u254 u255 u256 u257 u258 u259 u260 u261 u262 u263 u264 u265 u266 u267 u268 u269 u270 u271 u272 u273 u274 u275 u276 u277 u278 u279 u280 : Value, (∃ (V' : Nat → Value) (B' : Nat → Bg) (C' : Nat → Int) (wa : Option Addr) (wc : Nat), u16 = .slice wa ol wc ∧ Hid (Ints .u8 w4 wa od) ∧ Hid (ListsAt w4 w' lb lc cb cc N V' B' C') ∧ Hid (Agree p s' B' C')) ∧ a' = ⟨#[y0, y1, u2, .int .i64 (p : Int), y4, y5, y6, y7, y8, y9, y10, .slice (some ⟨lb, 0, none⟩) N lc, .slice (some ⟨cb, 0, none⟩) N cc, y13, y14, .pointer (some ⟨E, 0, none⟩), u16, u17, u18, u19, y20, y21, y22, y23, y24, y25, y26, y27, y28, y29, y30, y31, y32, y33, y34, y35, y36, y37, y38, y39, y40, y41, y42, y43, y44, y45, y46, y47, y48, y49, y50, y51, y52, y53, y54, y55, y56, y57, y58, y59, y60, y61, y62, y63, y64, y65, y66, y67, y68, y69, y70, y71, y72, y73, y74, y75, y76, y77, y78, y79, y80, y81, y82, y83, y84, y85, y86, y87, y88, y89, y90, y91, y92, y93, y94, y95, y96, y97, y98, y99, y100, y101, y102, y103, y104, y105, y106, y107, y108, y109, y110, y111, y112, u113, u114, u115, u116, u117, u118, u119, u120, u121, u122, u123, u124, u125, u126, u127, u128, u129, u130, u131, u132, u133, u134, u135, u136, u137, u138, u139, u140, u141, u142, u143, u144, u145, u146, u147, u148, u149, u150, u151, u152, u153, u154, u155, u156, u157, u158, u159, u160, u161, u162, u163, u164, u165, u166, u167, u168, u169, u170, u171, u172, u173, u174, u175, u176, u177, u178, u179, u180, u181, u182, u183, u184, u185, u186, u187, u188, u189, u190, u191, u192, u193, u194, u195, u196, u197, u198, u199, u200, u201, u202, u203, u204, u205, u206, u207, u208, u209, u210, u211, u212, u213, u214, u215, u216, u217, u218, u219, u220, u221, u222, u223, u224, u225, u226, u227, u228, u229, u230, u231, u232, u233, u234, u235, u236, u237, u238, u239, u240, u241, u242, u243, u244, u245, u246, u247, u248, u249, u250, u251, u252, u253, u254, u255, u256, u257, u258, u259, u260, u261, u262, u263, u264, u265, u266, u267, u268, u269, u270, u271, u272, u273, u274, u275, u276, u277, u278, u279, u280, y281, y282, y283, y284, y285, y286, y287, y288, y289, y290, y291, y292, y293, y294, y295, y296, y297, y298, y299, y300, y301, y302, y303, y304, y305, y306, y307, y308, y309, y310, y311, y312, y313, y314, y315, y316, y317, y318, y319, y320, y321, y322, y323, y324, y325, y326, y327, y328, y329, y330, y331, y332, y333, y334, y335, y336, y337, y338, y339, y340, y341, y342, y343, y344, y345, y346, y347, y348, y349, y350, y351, y352, y353, y354], []⟩) → J a' w') (hK : ∀ (a' : Act) (w' : World), Met J a' w' → K' a' w')
    (cz : code = 0) (k4 : kd ≤ 4) (k1 : kd = 4) : Code.wp Try.prog (ifAt Try.f3 118) (Exit.then K' Q) ⟨#[y0, y1, y2, .int .i64 (p : Int), y4, y5, y6, y7, y8, y9, y10, .slice (some ⟨lb, 0, none⟩) N lc, .slice (some ⟨cb, 0, none⟩) N cc, y13, y14, .pointer (some ⟨E, 0, none⟩), .slice (some ⟨WB, 0, none⟩) 0 0, y17, y18, y19, y20, y21, y22, y23, y24, y25, y26, y27, y28, y29, y30, y31, y32, y33, y34, y35, y36, y37, y38, y39, y40, y41, y42, y43, y44, y45, y46, y47, y48, y49, y50, y51, y52, y53, y54, y55, y56, y57, y58, y59, y60, y61, y62, y63, y64, y65, y66, y67, y68, y69, y70, y71, y72, y73, y74, y75, y76, y77, y78, y79, y80, y81, y82, y83, y84, y85, y86, y87, y88, y89, y90, y91, y92, y93, y94, y95, y96, y97, y98, y99, y100, y101, y102, y103, y104, y105, y106, y107, y108, y109, y110, y111, y112, y113, y114, y115, y116, y117, .bool true, y119, y120, y121, y122, y123, y124, y125, y126, y127, y128, y129, y130, y131, y132, y133, y134, y135, y136, y137, y138, y139, y140, y141, y142, y143, y144, y145, y146, y147, y148, y149, y150, y151, y152, y153, y154, y155, y156, y157, y158, y159, y160, y161, y162, y163, y164, y165, y166, y167, y168, y169, y170, y171, y172, y173, y174, y175, y176, y177, y178, y179, y180, y181, y182, y183, y184, y185, y186, y187, y188, y189, y190, y191, y192, y193, y194, y195, y196, y197, y198, y199, y200, y201, y202, y203, y204, y205, y206, y207, y208, y209, y210, y211, y212, y213, y214, y215, y216, y217, y218, y219, y220, y221, y222, y223, y224, y225, y226, y227, y228, y229, y230, y231, y232, y233, y234, y235, y236, y237, y238, y239, y240, y241, y242, y243, y244, y245, y246, y247, y248, y249, y250, y251, y252, y253, y254, y255, y256, y257, y258, y259, y260, y261, y262, y263, y264, y265, y266, y267, y268, y269, y270, y271, y272, y273, y274, y275, y276, y277, y278, y279, y280, y281, y282, y283, y284, y285, y286, y287, y288, y289, y290, y291, y292, y293, y294, y295, y296, y297, y298, y299, y300, y301, y302, y303, y304, y305, y306, y307, y308, y309, y310, y311, y312, y313, y314, y315, y316, y317, y318, y319, y320, y321, y322, y323, y324, y325, y326, y327, y328, y329, y330, y331, y332, y333, y334, y335, y336, y337, y338, y339, y340, y341, y342, y343, y344, y345, y346, y347, y348, y349, y350, y351, y352, y353, y354], []⟩ W8 := by
  conv => arg 2; whnf
  have h1 := R.out
  have hcode : (stepN p s ⟨kd, pa, di, ix, dat⟩).1.code = 0 := by rw [← h1.gk]; exact cz
  obtain ⟨⟨hpa0, hpa1⟩, ⟨hkd1, hkd6⟩, hdi, hsend, hix⟩ := pass_yes _ hcode
  simp only at hpa0 hpa1 hkd1 hkd6 hdi hsend hix
  obtain ⟨pp, hpp⟩ : ∃ pp : Nat, pa = (pp : Int) := ⟨pa.toNat, by omega⟩
  have q1 : decide (pa < 0) = false := decide_eq_false (by omega)
  have q2 : decide ((p : Int) ≤ pa) = false := decide_eq_false (by omega)
  obtain ⟨JJ, hJJ⟩ : ∃ JJ, JJ = 2 * pp := ⟨_, rfl⟩
  have p8 := h1.p8
  have hJw : IntKind.i64.wrap (2 * pa) = (JJ : Int) := by rw [IntKind.wrap_i64]; omega
  have hJN : JJ + 1 < N := by have := h1.n; omega
  have hN16 : N ≤ 16 := by have := h1.n; omega
  have HPP : Hid (pa = (pp : Int) ∧ pp < p ∧ JJ = 2 * pp) := ⟨hpp, by omega, hJJ⟩
  obtain ⟨⟨e0, e1, e2, e3, e4⟩, _⟩ := cells5r h1.box
  have HCD : Hid _ := hcode
  have bk4 : decide (kd ≤ 4) = true := decide_eq_true k4
  obtain ⟨d, hd⟩ : ∃ d : Nat, di = (d : Int) ∧ d < 2 := ⟨di.toNat, by have := hdi k4; omega⟩
  obtain ⟨I, hI⟩ : ∃ I, I = JJ + d := ⟨_, rfl⟩
  have hIw : IntKind.i64.wrap ((JJ : Int) + di) = (I : Int) := by rw [IntKind.wrap_i64]; omega
  have hIN : I < N := by omega
  have hbg : (B I).map (·.1) = s.bag pa di := by
    have h := h1.ag.bag pp d HPP.out.2.1 hd.2
    rw [← HPP.out.2.2, ← hI] at h
    rw [HPP.out.1, hd.1]
    exact h
  have hctI : C I = s.cut pa := by
    have h := h1.ag.cut pp d HPP.out.2.1 hd.2
    rw [← HPP.out.2.2, ← hI] at h
    rw [HPP.out.1]
    exact h
  obtain ⟨L, hL⟩ : ∃ L, Hid (L = (B I).length) := ⟨_, rfl⟩
  have hlen := h1.inv.len pa di
  rw [← hbg, List.length_map, ← hL.out] at hlen hix
  have hrowI := h1.la.bag I hIN
  obtain ⟨va, vc, hVI⟩ := own_shape hrowI
  rw [← hL.out] at hVI
  obtain ⟨l0, lf0⟩ := h1.la.cellL hIN
  rw [hVI] at l0
  have hI0 : decide ((I : Int) < 0) = false := decide_eq_false (by omega)
  have hIN2 : decide ((N : Int) ≤ (I : Int)) = false := decide_eq_false (by omega)
  have hIN3 : decide (N ≤ I) = false := decide_eq_false (by omega)
  have hIi : (I : Int) < (N : Int) := by omega
  have HROW : Hid (W8.ownsRow w4.heap.size 22 1 (.slice va L vc) L ((B I).map (·.2))) := by
    have h := hrowI
    rw [← hL.out, hVI] at h
    exact h
  have HDI : Hid (di = (d : Int) ∧ d < 2 ∧ I = JJ + d) := ⟨hd.1, hd.2, hI⟩
  have HVI : Hid _ := hVI
  have HBG : Hid _ := hbg
  obtain ⟨hix0, hix1⟩ := hix (by omega) k4
  obtain ⟨z, hz⟩ : ∃ z : Nat, ix = (z : Int) := ⟨ix.toNat, by omega⟩
  have hzL : z < L := by omega
  have bi0 : decide (ix < 0) = false := decide_eq_false (by omega)
  have biL : decide ((L : Int) ≤ ix) = false := decide_eq_false (by omega)
  have bq2 : decide (2 ≤ kd) = true := decide_eq_true (by omega)
  have bk1 : (kd == 1) = false := by simp; omega
  have bk2 : (kd == 2) = false := by simp; omega
  have bk3 : (kd == 3) = false := by simp; omega
  have bk4 : (kd == 4) = true := by simp; omega
  have HK1 : Hid _ := k1
  have HZ : Hid _ := hz
  clear hz hix0 hix1 k1 k4 hd hI hVI hbg hctI hrowI hix hsend hdi hkd1 hkd6 cz hcode hpp hJJ hpa0 hpa1 h1
  go_upto_region 31 with fail
  clear hJw hIw q1 q2
  go_big_quiet (fail)
  obtain ⟨X, hX⟩ : ∃ X, X = W8.drewN nq := ⟨_, rfl⟩
  have hbX : Below W8.heap.size W8 X := by rw [hX]; exact drewsN (Below.refl _ _) nq
  have HLX : Hid (ListsAt w4 X lb lc cb cc N V B C) := R.out.la.moved hbX
  have hEX := (hbX.block E (Array.getElem?_eq_some_iff.1 R.out.box).1).trans R.out.box
  have hElt := (Array.getElem?_eq_some_iff.1 hEX).1
  have hrowX : X.ownsRow w4.heap.size 22 1 (.slice va L vc) L ((B I).map (·.2)) := row_stays HROW.out fun k hk => hbX.block k (HROW.out.lt k hk).2
  have hsX : w4.heap.size ≤ X.heap.size := HLX.out.bel.size
  rw [← hX]
  clear e0 e1 e2 e3 e4 l0 lf0 hX hbX bi0 biL hI0 hIN2 hIN3
  obtain ⟨qa, qc, hq2, hqd⟩ := HLX.out.dat I hIN ((B I)[z]'(by rw [← hL.out]; exact hzL)) (List.getElem_mem _)
  obtain ⟨ql, hql⟩ : ∃ ql : Nat, ql = ((B I)[z]'(by rw [← hL.out]; exact hzL)).1.length := ⟨_, rfl⟩
  rw [← hql] at hq2
  have HQ2 : Hid _ := hq2
  have HQD : Hid _ := hqd
  have HQL : Hid _ := hql
  clear hq2 hqd hql
  obtain ⟨gv, hva⟩ : ∃ gv, va = some ⟨gv, 0, none⟩ := by
    rcases hrowX.2 with ⟨e, h0⟩ | ⟨g, c, cur, e, _⟩
    · omega
    · simp only [Value.slice.injEq] at e
      exact ⟨g, e.1⟩
  subst hva
  have e0 : X.cell? ⟨E, 0, none⟩ = some (.int .i64 kd) := Go.Joins.cell_of_block hEX 0
  go_upto_region 50 with fail
  obtain ⟨Y, hY⟩ : ∃ Y, Y = X.drew := ⟨_, rfl⟩
  have hbY : Below X.heap.size X Y := by rw [hY]; exact (Below.refl _ _).drew
  have HLY : Hid (ListsAt w4 Y lb lc cb cc N V B C) := HLX.out.moved hbY
  have hEY := (hbY.block E hElt).trans hEX
  have hrowY : Y.ownsRow w4.heap.size 22 1 (.slice (some ⟨gv, 0, none⟩) L vc) L ((B I).map (·.2)) := row_stays hrowX fun k hk => hbY.block k (hrowX.lt k hk).2
  have hsY : w4.heap.size ≤ Y.heap.size := HLY.out.bel.size
  clear hElt
  have hElt := (Array.getElem?_eq_some_iff.1 hEY).1
  obtain ⟨ll0, llf⟩ := HLY.out.cellL hIN
  rw [HVI.out] at ll0
  have c2 : Y.cell? ⟨gv, z, none⟩ = some (.slice qa ql qc) := by
    rw [← HQ2.out, hrowY.cellAt z (by omega), List.getElem?_map, List.getElem?_eq_getElem (by rw [← hL.out]; exact hzL)]
    rfl
  have hzi : (z : Int) < (L : Int) := by omega
  have hzx : ix.toNat = z := by rw [HZ.out]; rfl
  have hz0 : 0 ≤ ix := by rw [HZ.out]; omega
  have hz1 : ix < (L : Int) := by rw [HZ.out]; omega
  obtain ⟨lcs, hlb⟩ := HLY.out.lblk
  have hlblt := (Array.getElem?_eq_some_iff.1 hlb).1
  have hEl : E ≠ lb := type_ne hEY hlb (by decide)
  have x4 : Y.cell? ⟨E, 3, none⟩ = some (.int .i64 ix) := Go.Joins.cell_of_block hEY 3
  clear e0 hbY bk1 bk2 bk3 bk4 bq2 hEX hrowX hsX
  refine wp_region_noPanic ?_
  refine wp_region_held_drew (S := fun w' => w'.cell? ⟨E, 3, none⟩ = some (.int .i64 ix)) (by kernel_rfl) (by rw [← hY]; exact x4) (fun hHeld => ?_)
  rw [← hY] at hHeld ⊢
  clear hY
  refine wpAnyH_take (i := 0) (v := ?_) rfl (by kernel_rfl) (by kernel_rfl) (by kernel_rfl) (fun _ _ _ h => h) (Or.inl ⟨by rfl, ?_⟩) (by assumption) ?_
  rotate_left
  · intro w hSw
    try dsimp only at hSw
    (go_simp; try with_reducible rfl)
  try simp only [Act.put, List.setIfInBounds_toArray, List.set_cons_zero, List.set_cons_succ]
  refine wpAnyH_take (i := 1) (v := ?_) rfl (by kernel_rfl) (by kernel_rfl) (by kernel_rfl) (fun _ _ _ h => h) (Or.inl ⟨by rfl, ?_⟩) (by assumption) ?_
  rotate_left
  · intro w hSw
    try dsimp only at hSw
    (go_simp; try with_reducible rfl)
  try simp only [Act.put, List.setIfInBounds_toArray, List.set_cons_zero, List.set_cons_succ]
  refine wpAnyH_take (i := 2) (v := ?_) rfl (by kernel_rfl) (by kernel_rfl) (by kernel_rfl) (fun _ _ _ h => h) (Or.inl ⟨by rfl, ?_⟩) (by assumption) ?_
  rotate_left
  · intro w hSw
    try dsimp only at hSw
    (go_simp; try with_reducible rfl)
  try simp only [Act.put, List.setIfInBounds_toArray, List.set_cons_zero, List.set_cons_succ]
  refine wpAnyH_take (i := 3) (v := ?_) rfl (by kernel_rfl) (by kernel_rfl) (by kernel_rfl) (fun _ _ _ h => h) (Or.inl ⟨by rfl, ?_⟩) (by assumption) ?_
  rotate_left
  · intro w hSw
    try dsimp only at hSw
    (go_simp; try with_reducible rfl)
  try simp only [Act.put, List.setIfInBounds_toArray, List.set_cons_zero, List.set_cons_succ]
  refine wpAnyH_take (i := 4) (v := ?_) rfl (by kernel_rfl) (by kernel_rfl) (by kernel_rfl) (fun _ _ _ h => h) (Or.inl ⟨by rfl, ?_⟩) (by assumption) ?_
  rotate_left
  · intro w hSw
    try dsimp only at hSw
    (go_simp; try with_reducible rfl)
  try simp only [Act.put, List.setIfInBounds_toArray, List.set_cons_zero, List.set_cons_succ]
  refine wpAnyH_take (i := 6) (v := ?_) rfl (by kernel_rfl) (by kernel_rfl) (by kernel_rfl) (fun _ _ _ h => h) (Or.inl ⟨by rfl, ?_⟩) (by assumption) ?_
  rotate_left
  · intro w hSw
    try dsimp only at hSw
    (go_simp; try with_reducible rfl)
  try simp only [Act.put, List.setIfInBounds_toArray, List.set_cons_zero, List.set_cons_succ]
  refine wpAnyH_take (i := 7) (v := ?_) rfl (by kernel_rfl) (by kernel_rfl) (by kernel_rfl) (fun _ _ _ h => h) (Or.inl ⟨by rfl, ?_⟩) (by assumption) ?_
  rotate_left
  · intro w hSw
    try dsimp only at hSw
    (go_simp; try with_reducible rfl)
  try simp only [Act.put, List.setIfInBounds_toArray, List.set_cons_zero, List.set_cons_succ]
  refine wpAnyH_take (i := 8) (v := ?_) rfl (by kernel_rfl) (by kernel_rfl) (by kernel_rfl) (fun _ _ _ h => h) (Or.inl ⟨by rfl, ?_⟩) (by assumption) ?_
  rotate_left
  · intro w hSw
    try dsimp only at hSw
    (go_simp; try with_reducible rfl)
  try simp only [Act.put, List.setIfInBounds_toArray, List.set_cons_zero, List.set_cons_succ]
  refine wpAnyH_take (i := 10) (v := ?_) rfl (by kernel_rfl) (by kernel_rfl) (by kernel_rfl) (fun _ _ _ h => h) (Or.inl ⟨by rfl, ?_⟩) (by assumption) ?_
  rotate_left
  · intro w hSw
    try dsimp only at hSw
    (go_simp; try with_reducible rfl)
  try simp only [Act.put, List.setIfInBounds_toArray, List.set_cons_zero, List.set_cons_succ]
  refine wpAnyH_take (i := 11) (v := ?_) rfl (by kernel_rfl) (by kernel_rfl) (by kernel_rfl) (fun _ _ _ h => h) (Or.inl ⟨by rfl, ?_⟩) (by assumption) ?_
  rotate_left
  · intro w hSw
    try dsimp only at hSw
    (go_simp; try with_reducible rfl)
  try simp only [Act.put, List.setIfInBounds_toArray, List.set_cons_zero, List.set_cons_succ]
  refine wpAnyH_ready (rs := [5, 9]) (by kernel_rfl) (by simp) ?_
  refine AllReadyH.cons rfl (fun K hK => ?_) ?_
  · go_simp
    refine hK.out _ _ ?_ (fun hHeld => ?_)
    · first | assumption | (go_keep; done)
    clear hK K
    try simp only [Act.put, List.setIfInBounds_toArray, List.set_cons_zero, List.set_cons_succ]
    refine wpAnyH_ready (rs := [9]) (by kernel_rfl) (by simp) ?_
    refine AllReadyH.cons rfl (fun K hK => ?_) ?_
    rotate_left
    · exact AllReadyH.nil
    go_simp
    refine hK.out _ _ ?_ (fun hHeld => ?_)
    · first | assumption | (go_keep; done)
    clear hK K
    try simp only [Act.put, List.setIfInBounds_toArray, List.set_cons_zero, List.set_cons_succ]
    refine wpAnyH_take (i := 12) (v := ?_) rfl (by kernel_rfl) (by kernel_rfl) (by kernel_rfl) (fun _ _ _ h => h) (Or.inl ⟨by rfl, ?_⟩) (by assumption) ?_
    rotate_left
    · intro w hSw
      try dsimp only at hSw
      (go_simp; try with_reducible rfl)
    try simp only [Act.put, List.setIfInBounds_toArray, List.set_cons_zero, List.set_cons_succ]
    refine wpAnyH_ready (rs := [13]) (by kernel_rfl) (by simp) ?_
    refine AllReadyH.cons rfl (fun K hK => ?_) ?_
    rotate_left
    · exact AllReadyH.nil
    go_simp
    refine hK.out _ _ ?_ (fun hHeld => ?_)
    · first | assumption | (go_keep; done)
    clear hK K
    try simp only [Act.put, List.setIfInBounds_toArray, List.set_cons_zero, List.set_cons_succ]
    refine wpAnyH_ready (rs := [14]) (by kernel_rfl) (by simp) ?_
    refine AllReadyH.cons rfl (fun K hK => ?_) ?_
    rotate_left
    · exact AllReadyH.nil
    go_simp
    refine hK.out _ _ ?_ (fun hHeld => ?_)
    · first | assumption | (go_keep; done)
    clear hK K
    try simp only [Act.put, List.setIfInBounds_toArray, List.set_cons_zero, List.set_cons_succ]
    refine wpAnyH_ready (rs := [15]) (by kernel_rfl) (by simp) ?_
    refine AllReadyH.cons rfl (fun K hK => ?_) ?_
    rotate_left
    · exact AllReadyH.nil
    refine step_appV (Y.alloc (.cells #[.slice qa ql qc] 22)) (by rfl) _ _ (by rfl) w4.heap.size (some ⟨gv, 0, none⟩) L vc ((B I).map (·.2)) (by simp [Act.eval, Act.put]) (own_alloc hrowY _) Y.heap.size _ (by simp [Act.eval, Act.put]) (heap_alloc_new Y _) (by rfl) (by omega) (by simp; omega) ?_
    intro g11 cap11 w11 ho11 hg11 hfr11
    have hne1 : (Value.slice (some ⟨gv, 0, none⟩) L vc).ownBlock ≠ some lb := own_ne9 hrowY hlb (by decide)
    have hne2 : (Value.slice (some ⟨gv, 0, none⟩) L vc).ownBlock ≠ some E := own_ne9 hrowY hEY (by decide)
    have hl11 := (hg11.block lb (by simp; omega) (fun e => hne1 e.symm)).trans ((Below.heap_alloc Y _ lb hlblt).trans hlb)
    have hE11 := (hg11.block E (by simp; omega) (fun e => hne2 e.symm)).trans ((Below.heap_alloc Y _ E hElt).trans hEY)
    have t2 : w11.cell? ⟨lb, I, none⟩ = some (.slice (some ⟨gv, 0, none⟩) L vc) := cell_grown (a := ⟨lb, I, none⟩) hg11 ((World.cell?_alloc_lt Y _ ⟨lb, I, none⟩ hlblt).trans ll0) hne1
    have tf := Go.Joins.unfrozen_of_block hl11 I
    have s4 : w11.cell? ⟨E, 3, none⟩ = some (.int .i64 ix) := Go.Joins.cell_of_block hE11 3
    refine hK.out _ _ ?_ (fun hHeld => ?_)
    · first | assumption | (go_keep; done)
    clear hK K
    try simp only [Act.put, List.setIfInBounds_toArray, List.set_cons_zero, List.set_cons_succ]
    refine wpAnyH_take (i := 16) (v := ?_) rfl (by kernel_rfl) (by kernel_rfl) (by kernel_rfl) (fun _ _ _ h => h) (Or.inl ⟨by rfl, ?_⟩) (by assumption) ?_
    rotate_left
    · intro w hSw
      try dsimp only at hSw
      (go_simp; try with_reducible rfl)
    try simp only [Act.put, List.setIfInBounds_toArray, List.set_cons_zero, List.set_cons_succ]
    refine wpAnyH_ready (rs := [17]) (by kernel_rfl) (by simp) ?_
    refine AllReadyH.cons rfl (fun K hK => ?_) ?_
    rotate_left
    · exact AllReadyH.nil
    go_simp
    refine hK.out _ _ ?_ (fun hHeld => ?_)
    · exact (World.cell?_setCell_far _ _ _ _ (Ne.symm hEl)).trans s4
    clear hK K
    try simp only [Act.put, List.setIfInBounds_toArray, List.set_cons_zero, List.set_cons_succ]
    refine wpAnyH_done (by kernel_rfl) ?_ _
    refine NoPanic.normal ?_
    go_wp2_with fail
    go_meet
    case rel =>
      have hzB : z < (B I).length := by rw [← hL.out]; exact hzL
      have hst := step_dup ⟨kd, pa, di, ix, dat⟩ HK1.out HCD.out
      have hgk := R.out.gk
      have hs' := R.out.st
      rw [hst] at hgk hs'
      simp only [NOut.mk.injEq] at hgk hs'
      have hmore := ListsAt.more (b := I) (y := ((B I)[z]'hzB).1) (x := .slice qa ql qc) (HLY.out.moved ((Below.refl _ _).alloc (Nat.le_refl _) _)) hIN (by rw [HVI.out]; exact hg11) (by rw [← hL.out]; exact ho11) (by rw [HVI.out]; exact hfr11) rfl ⟨qa, qc, by rw [HQL.out], HQD.out⟩
      rw [← hL.out] at hmore
      have hgd : (s.bag pa di).getD ix.toNat [] = ((B I)[z]'hzB).1 := by
        rw [← HBG.out, HZ.out, Int.toNat_natCast, List.getD_eq_getElem?_getD, List.getElem?_map, List.getElem?_eq_getElem hzB]
        rfl
      have hag := R.out.ag.put (p := pp) (d := d) HPP.out.2.1 HDI.out.2.1 (bg := B I ++ [(((B I)[z]'hzB).1, .slice qa ql qc)]) (l := s.bag pa di ++ [(s.bag pa di).getD ix.toNat []]) (by rw [List.map_append, HBG.out, hgd]; rfl)
      rw [← HPP.out.2.2, ← HDI.out.2.2, ← HPP.out.1, ← HDI.out.1, ← hs'] at hag
      exact ⟨_, _, C, some ⟨WB, 0, none⟩, 0, by rw [R.out.hol, hgk.2]; rfl, by unfold Hid; rw [hgk.2]; exact .inl rfl, hmore, hag⟩
  refine AllReadyH.cons rfl (fun K hK => ?_) AllReadyH.nil
  go_simp
  refine hK.out _ _ ?_ (fun hHeld => ?_)
  · first | assumption | (go_keep; done)
  clear hK K
  try simp only [Act.put, List.setIfInBounds_toArray, List.set_cons_zero, List.set_cons_succ]
  refine wpAnyH_take (i := 12) (v := ?_) rfl (by kernel_rfl) (by kernel_rfl) (by kernel_rfl) (fun _ _ _ h => h) (Or.inl ⟨by rfl, ?_⟩) (by assumption) ?_
  rotate_left
  · intro w hSw
    try dsimp only at hSw
    (go_simp; try with_reducible rfl)
  try simp only [Act.put, List.setIfInBounds_toArray, List.set_cons_zero, List.set_cons_succ]
  refine wpAnyH_ready (rs := [5, 13]) (by kernel_rfl) (by simp) ?_
  refine AllReadyH.cons rfl (fun K hK => ?_) ?_
  · go_simp
    refine hK.out _ _ ?_ (fun hHeld => ?_)
    · first | assumption | (go_keep; done)
    clear hK K
    try simp only [Act.put, List.setIfInBounds_toArray, List.set_cons_zero, List.set_cons_succ]
    refine wpAnyH_ready (rs := [13]) (by kernel_rfl) (by simp) ?_
    refine AllReadyH.cons rfl (fun K hK => ?_) ?_
    rotate_left
    · exact AllReadyH.nil
    go_simp
    refine hK.out _ _ ?_ (fun hHeld => ?_)
    · first | assumption | (go_keep; done)
    clear hK K
    try simp only [Act.put, List.setIfInBounds_toArray, List.set_cons_zero, List.set_cons_succ]
    refine wpAnyH_ready (rs := [14]) (by kernel_rfl) (by simp) ?_
    refine AllReadyH.cons rfl (fun K hK => ?_) ?_
    rotate_left
    · exact AllReadyH.nil
    go_simp
    refine hK.out _ _ ?_ (fun hHeld => ?_)
    · first | assumption | (go_keep; done)
    clear hK K
    try simp only [Act.put, List.setIfInBounds_toArray, List.set_cons_zero, List.set_cons_succ]
    refine wpAnyH_ready (rs := [15]) (by kernel_rfl) (by simp) ?_
    refine AllReadyH.cons rfl (fun K hK => ?_) ?_
    rotate_left
    · exact AllReadyH.nil
    refine step_appV (Y.alloc (.cells #[.slice qa ql qc] 22)) (by rfl) _ _ (by rfl) w4.heap.size (some ⟨gv, 0, none⟩) L vc ((B I).map (·.2)) (by simp [Act.eval, Act.put]) (own_alloc hrowY _) Y.heap.size _ (by simp [Act.eval, Act.put]) (heap_alloc_new Y _) (by rfl) (by omega) (by simp; omega) ?_
    intro g11 cap11 w11 ho11 hg11 hfr11
    have hne1 : (Value.slice (some ⟨gv, 0, none⟩) L vc).ownBlock ≠ some lb := own_ne9 hrowY hlb (by decide)
    have hne2 : (Value.slice (some ⟨gv, 0, none⟩) L vc).ownBlock ≠ some E := own_ne9 hrowY hEY (by decide)
    have hl11 := (hg11.block lb (by simp; omega) (fun e => hne1 e.symm)).trans ((Below.heap_alloc Y _ lb hlblt).trans hlb)
    have hE11 := (hg11.block E (by simp; omega) (fun e => hne2 e.symm)).trans ((Below.heap_alloc Y _ E hElt).trans hEY)
    have t2 : w11.cell? ⟨lb, I, none⟩ = some (.slice (some ⟨gv, 0, none⟩) L vc) := cell_grown (a := ⟨lb, I, none⟩) hg11 ((World.cell?_alloc_lt Y _ ⟨lb, I, none⟩ hlblt).trans ll0) hne1
    have tf := Go.Joins.unfrozen_of_block hl11 I
    have s4 : w11.cell? ⟨E, 3, none⟩ = some (.int .i64 ix) := Go.Joins.cell_of_block hE11 3
    refine hK.out _ _ ?_ (fun hHeld => ?_)
    · first | assumption | (go_keep; done)
    clear hK K
    try simp only [Act.put, List.setIfInBounds_toArray, List.set_cons_zero, List.set_cons_succ]
    refine wpAnyH_take (i := 16) (v := ?_) rfl (by kernel_rfl) (by kernel_rfl) (by kernel_rfl) (fun _ _ _ h => h) (Or.inl ⟨by rfl, ?_⟩) (by assumption) ?_
    rotate_left
    · intro w hSw
      try dsimp only at hSw
      (go_simp; try with_reducible rfl)
    try simp only [Act.put, List.setIfInBounds_toArray, List.set_cons_zero, List.set_cons_succ]
    refine wpAnyH_ready (rs := [17]) (by kernel_rfl) (by simp) ?_
    refine AllReadyH.cons rfl (fun K hK => ?_) ?_
    rotate_left
    · exact AllReadyH.nil
    go_simp
    refine hK.out _ _ ?_ (fun hHeld => ?_)
    · exact (World.cell?_setCell_far _ _ _ _ (Ne.symm hEl)).trans s4
    clear hK K
    try simp only [Act.put, List.setIfInBounds_toArray, List.set_cons_zero, List.set_cons_succ]
    refine wpAnyH_done (by kernel_rfl) ?_ _
    refine NoPanic.normal ?_
    go_wp2_with fail
    go_meet
    case rel =>
      have hzB : z < (B I).length := by rw [← hL.out]; exact hzL
      have hst := step_dup ⟨kd, pa, di, ix, dat⟩ HK1.out HCD.out
      have hgk := R.out.gk
      have hs' := R.out.st
      rw [hst] at hgk hs'
      simp only [NOut.mk.injEq] at hgk hs'
      have hmore := ListsAt.more (b := I) (y := ((B I)[z]'hzB).1) (x := .slice qa ql qc) (HLY.out.moved ((Below.refl _ _).alloc (Nat.le_refl _) _)) hIN (by rw [HVI.out]; exact hg11) (by rw [← hL.out]; exact ho11) (by rw [HVI.out]; exact hfr11) rfl ⟨qa, qc, by rw [HQL.out], HQD.out⟩
      rw [← hL.out] at hmore
      have hgd : (s.bag pa di).getD ix.toNat [] = ((B I)[z]'hzB).1 := by
        rw [← HBG.out, HZ.out, Int.toNat_natCast, List.getD_eq_getElem?_getD, List.getElem?_map, List.getElem?_eq_getElem hzB]
        rfl
      have hag := R.out.ag.put (p := pp) (d := d) HPP.out.2.1 HDI.out.2.1 (bg := B I ++ [(((B I)[z]'hzB).1, .slice qa ql qc)]) (l := s.bag pa di ++ [(s.bag pa di).getD ix.toNat []]) (by rw [List.map_append, HBG.out, hgd]; rfl)
      rw [← HPP.out.2.2, ← HDI.out.2.2, ← HPP.out.1, ← HDI.out.1, ← hs'] at hag
      exact ⟨_, _, C, some ⟨WB, 0, none⟩, 0, by rw [R.out.hol, hgk.2]; rfl, by unfold Hid; rw [hgk.2]; exact .inl rfl, hmore, hag⟩
  refine AllReadyH.cons rfl (fun K hK => ?_) AllReadyH.nil
  go_simp
  refine hK.out _ _ ?_ (fun hHeld => ?_)
  · first | assumption | (go_keep; done)
  clear hK K
  try simp only [Act.put, List.setIfInBounds_toArray, List.set_cons_zero, List.set_cons_succ]
  refine wpAnyH_ready (rs := [5, 14]) (by kernel_rfl) (by simp) ?_
  refine AllReadyH.cons rfl (fun K hK => ?_) ?_
  · go_simp
    refine hK.out _ _ ?_ (fun hHeld => ?_)
    · first | assumption | (go_keep; done)
    clear hK K
    try simp only [Act.put, List.setIfInBounds_toArray, List.set_cons_zero, List.set_cons_succ]
    refine wpAnyH_ready (rs := [14]) (by kernel_rfl) (by simp) ?_
    refine AllReadyH.cons rfl (fun K hK => ?_) ?_
    rotate_left
    · exact AllReadyH.nil
    go_simp
    refine hK.out _ _ ?_ (fun hHeld => ?_)
    · first | assumption | (go_keep; done)
    clear hK K
    try simp only [Act.put, List.setIfInBounds_toArray, List.set_cons_zero, List.set_cons_succ]
    refine wpAnyH_ready (rs := [15]) (by kernel_rfl) (by simp) ?_
    refine AllReadyH.cons rfl (fun K hK => ?_) ?_
    rotate_left
    · exact AllReadyH.nil
    refine step_appV (Y.alloc (.cells #[.slice qa ql qc] 22)) (by rfl) _ _ (by rfl) w4.heap.size (some ⟨gv, 0, none⟩) L vc ((B I).map (·.2)) (by simp [Act.eval, Act.put]) (own_alloc hrowY _) Y.heap.size _ (by simp [Act.eval, Act.put]) (heap_alloc_new Y _) (by rfl) (by omega) (by simp; omega) ?_
    intro g11 cap11 w11 ho11 hg11 hfr11
    have hne1 : (Value.slice (some ⟨gv, 0, none⟩) L vc).ownBlock ≠ some lb := own_ne9 hrowY hlb (by decide)
    have hne2 : (Value.slice (some ⟨gv, 0, none⟩) L vc).ownBlock ≠ some E := own_ne9 hrowY hEY (by decide)
    have hl11 := (hg11.block lb (by simp; omega) (fun e => hne1 e.symm)).trans ((Below.heap_alloc Y _ lb hlblt).trans hlb)
    have hE11 := (hg11.block E (by simp; omega) (fun e => hne2 e.symm)).trans ((Below.heap_alloc Y _ E hElt).trans hEY)
    have t2 : w11.cell? ⟨lb, I, none⟩ = some (.slice (some ⟨gv, 0, none⟩) L vc) := cell_grown (a := ⟨lb, I, none⟩) hg11 ((World.cell?_alloc_lt Y _ ⟨lb, I, none⟩ hlblt).trans ll0) hne1
    have tf := Go.Joins.unfrozen_of_block hl11 I
    have s4 : w11.cell? ⟨E, 3, none⟩ = some (.int .i64 ix) := Go.Joins.cell_of_block hE11 3
    refine hK.out _ _ ?_ (fun hHeld => ?_)
    · first | assumption | (go_keep; done)
    clear hK K
    try simp only [Act.put, List.setIfInBounds_toArray, List.set_cons_zero, List.set_cons_succ]
    refine wpAnyH_take (i := 16) (v := ?_) rfl (by kernel_rfl) (by kernel_rfl) (by kernel_rfl) (fun _ _ _ h => h) (Or.inl ⟨by rfl, ?_⟩) (by assumption) ?_
    rotate_left
    · intro w hSw
      try dsimp only at hSw
      (go_simp; try with_reducible rfl)
    try simp only [Act.put, List.setIfInBounds_toArray, List.set_cons_zero, List.set_cons_succ]
    refine wpAnyH_ready (rs := [17]) (by kernel_rfl) (by simp) ?_
    refine AllReadyH.cons rfl (fun K hK => ?_) ?_
    rotate_left
    · exact AllReadyH.nil
    go_simp
    refine hK.out _ _ ?_ (fun hHeld => ?_)
    · exact (World.cell?_setCell_far _ _ _ _ (Ne.symm hEl)).trans s4
    clear hK K
    try simp only [Act.put, List.setIfInBounds_toArray, List.set_cons_zero, List.set_cons_succ]
    refine wpAnyH_done (by kernel_rfl) ?_ _
    refine NoPanic.normal ?_
    go_wp2_with fail
    go_meet
    case rel =>
      have hzB : z < (B I).length := by rw [← hL.out]; exact hzL
      have hst := step_dup ⟨kd, pa, di, ix, dat⟩ HK1.out HCD.out
      have hgk := R.out.gk
      have hs' := R.out.st
      rw [hst] at hgk hs'
      simp only [NOut.mk.injEq] at hgk hs'
      have hmore := ListsAt.more (b := I) (y := ((B I)[z]'hzB).1) (x := .slice qa ql qc) (HLY.out.moved ((Below.refl _ _).alloc (Nat.le_refl _) _)) hIN (by rw [HVI.out]; exact hg11) (by rw [← hL.out]; exact ho11) (by rw [HVI.out]; exact hfr11) rfl ⟨qa, qc, by rw [HQL.out], HQD.out⟩
      rw [← hL.out] at hmore
      have hgd : (s.bag pa di).getD ix.toNat [] = ((B I)[z]'hzB).1 := by
        rw [← HBG.out, HZ.out, Int.toNat_natCast, List.getD_eq_getElem?_getD, List.getElem?_map, List.getElem?_eq_getElem hzB]
        rfl
      have hag := R.out.ag.put (p := pp) (d := d) HPP.out.2.1 HDI.out.2.1 (bg := B I ++ [(((B I)[z]'hzB).1, .slice qa ql qc)]) (l := s.bag pa di ++ [(s.bag pa di).getD ix.toNat []]) (by rw [List.map_append, HBG.out, hgd]; rfl)
      rw [← HPP.out.2.2, ← HDI.out.2.2, ← HPP.out.1, ← HDI.out.1, ← hs'] at hag
      exact ⟨_, _, C, some ⟨WB, 0, none⟩, 0, by rw [R.out.hol, hgk.2]; rfl, by unfold Hid; rw [hgk.2]; exact .inl rfl, hmore, hag⟩
  refine AllReadyH.cons rfl (fun K hK => ?_) AllReadyH.nil
  go_simp
  refine hK.out _ _ ?_ (fun hHeld => ?_)
  · first | assumption | (go_keep; done)
  clear hK K
  try simp only [Act.put, List.setIfInBounds_toArray, List.set_cons_zero, List.set_cons_succ]
  refine wpAnyH_ready (rs := [5]) (by kernel_rfl) (by simp) ?_
  refine AllReadyH.cons rfl (fun K hK => ?_) ?_
  rotate_left
  · exact AllReadyH.nil
  go_simp
  refine hK.out _ _ ?_ (fun hHeld => ?_)
  · first | assumption | (go_keep; done)
  clear hK K
  try simp only [Act.put, List.setIfInBounds_toArray, List.set_cons_zero, List.set_cons_succ]
  refine wpAnyH_ready (rs := [15]) (by kernel_rfl) (by simp) ?_
  refine AllReadyH.cons rfl (fun K hK => ?_) ?_
  rotate_left
  · exact AllReadyH.nil
  refine step_appV (Y.alloc (.cells #[.slice qa ql qc] 22)) (by rfl) _ _ (by rfl) w4.heap.size (some ⟨gv, 0, none⟩) L vc ((B I).map (·.2)) (by simp [Act.eval, Act.put]) (own_alloc hrowY _) Y.heap.size _ (by simp [Act.eval, Act.put]) (heap_alloc_new Y _) (by rfl) (by omega) (by simp; omega) ?_
  intro g11 cap11 w11 ho11 hg11 hfr11
  have hne1 : (Value.slice (some ⟨gv, 0, none⟩) L vc).ownBlock ≠ some lb := own_ne9 hrowY hlb (by decide)
  have hne2 : (Value.slice (some ⟨gv, 0, none⟩) L vc).ownBlock ≠ some E := own_ne9 hrowY hEY (by decide)
  have hl11 := (hg11.block lb (by simp; omega) (fun e => hne1 e.symm)).trans ((Below.heap_alloc Y _ lb hlblt).trans hlb)
  have hE11 := (hg11.block E (by simp; omega) (fun e => hne2 e.symm)).trans ((Below.heap_alloc Y _ E hElt).trans hEY)
  have t2 : w11.cell? ⟨lb, I, none⟩ = some (.slice (some ⟨gv, 0, none⟩) L vc) := cell_grown (a := ⟨lb, I, none⟩) hg11 ((World.cell?_alloc_lt Y _ ⟨lb, I, none⟩ hlblt).trans ll0) hne1
  have tf := Go.Joins.unfrozen_of_block hl11 I
  have s4 : w11.cell? ⟨E, 3, none⟩ = some (.int .i64 ix) := Go.Joins.cell_of_block hE11 3
  refine hK.out _ _ ?_ (fun hHeld => ?_)
  · first | assumption | (go_keep; done)
  clear hK K
  try simp only [Act.put, List.setIfInBounds_toArray, List.set_cons_zero, List.set_cons_succ]
  refine wpAnyH_take (i := 16) (v := ?_) rfl (by kernel_rfl) (by kernel_rfl) (by kernel_rfl) (fun _ _ _ h => h) (Or.inl ⟨by rfl, ?_⟩) (by assumption) ?_
  rotate_left
  · intro w hSw
    try dsimp only at hSw
    (go_simp; try with_reducible rfl)
  try simp only [Act.put, List.setIfInBounds_toArray, List.set_cons_zero, List.set_cons_succ]
  refine wpAnyH_ready (rs := [17]) (by kernel_rfl) (by simp) ?_
  refine AllReadyH.cons rfl (fun K hK => ?_) ?_
  rotate_left
  · exact AllReadyH.nil
  go_simp
  refine hK.out _ _ ?_ (fun hHeld => ?_)
  · exact (World.cell?_setCell_far _ _ _ _ (Ne.symm hEl)).trans s4
  clear hK K
  try simp only [Act.put, List.setIfInBounds_toArray, List.set_cons_zero, List.set_cons_succ]
  refine wpAnyH_done (by kernel_rfl) ?_ _
  refine NoPanic.normal ?_
  go_wp2_with fail
  go_meet
  case rel =>
    have hzB : z < (B I).length := by rw [← hL.out]; exact hzL
    have hst := step_dup ⟨kd, pa, di, ix, dat⟩ HK1.out HCD.out
    have hgk := R.out.gk
    have hs' := R.out.st
    rw [hst] at hgk hs'
    simp only [NOut.mk.injEq] at hgk hs'
    have hmore := ListsAt.more (b := I) (y := ((B I)[z]'hzB).1) (x := .slice qa ql qc) (HLY.out.moved ((Below.refl _ _).alloc (Nat.le_refl _) _)) hIN (by rw [HVI.out]; exact hg11) (by rw [← hL.out]; exact ho11) (by rw [HVI.out]; exact hfr11) rfl ⟨qa, qc, by rw [HQL.out], HQD.out⟩
    rw [← hL.out] at hmore
    have hgd : (s.bag pa di).getD ix.toNat [] = ((B I)[z]'hzB).1 := by
      rw [← HBG.out, HZ.out, Int.toNat_natCast, List.getD_eq_getElem?_getD, List.getElem?_map, List.getElem?_eq_getElem hzB]
      rfl
    have hag := R.out.ag.put (p := pp) (d := d) HPP.out.2.1 HDI.out.2.1 (bg := B I ++ [(((B I)[z]'hzB).1, .slice qa ql qc)]) (l := s.bag pa di ++ [(s.bag pa di).getD ix.toNat []]) (by rw [List.map_append, HBG.out, hgd]; rfl)
    rw [← HPP.out.2.2, ← HDI.out.2.2, ← HPP.out.1, ← HDI.out.1, ← hs'] at hag
    exact ⟨_, _, C, some ⟨WB, 0, none⟩, 0, by rw [R.out.hol, hgk.2]; rfl, by unfold Hid; rw [hgk.2]; exact .inl rfl, hmore, hag⟩

end Go.Proofs.Ytkamdaadgndmbaa
