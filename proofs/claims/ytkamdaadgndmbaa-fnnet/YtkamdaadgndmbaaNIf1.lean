import Derived.Test.YtkamdaadgndmbaaNIf0
import Derived.BigQuiet
namespace Go.Proofs.Ytkamdaadgndmbaa
open Go.ChangeShapes Go.WideShapes Go.ChangeAt Go.RowKit
set_option linter.unusedVariables false
set_option linter.unusedSimpArgs false

set_option maxHeartbeats 4000000 in
set_option maxRecDepth 1000000 in
theorem if_refused (w4 W8 : World) (p N lb lc cb cc E WB : Nat) (V : Nat → Value) (B : Nat → Bg) (C : Nat → Int) (s s' : NS) (kd pa di ix : Int) (dat : List Int) (da : Option Addr) (dl dc : Nat) (code : Int) (od : List Int) (ol : Nat)
    (y0 y1 y2 y4 y5 y6 y7 y8 y9 y10 y13 y14 y17 y18 y19 y20 y21 y22 y23 y24 y25 y26 y27 y28 y29 y30 y31 y32 y33 y34 y35 y36 y37 y38 y39 y40 y41 y42 y43 y44 y45 y46 y47 y48 y49 y50 y51 y52 y53 y54 y55 y56 y57 y58 y59 y60 y61 y62 y63 y64 y65 y66 y67 y68 y69 y70 y71 y72 y73 y74 y75 y76 y77 y78 y79 y80 y81 y82 y83 y84 y85 y86 y87 y88 y89 y90 y91 y92 y93 y94 y95 y96 y97 y98 y99 y100 y101 y102 y103 y104 y105 y106 y107 y108 y109 y110 y111 y112 y113 y114 y115 y116 y117 y119 y120 y121 y122 y123 y124 y125 y126 y127 y128 y129 y130 y131 y132 y133 y134 y135 y136 y137 y138 y139 y140 y141 y142 y143 y144 y145 y146 y147 y148 y149 y150 y151 y152 y153 y154 y155 y156 y157 y158 y159 y160 y161 y162 y163 y164 y165 y166 y167 y168 y169 y170 y171 y172 y173 y174 y175 y176 y177 y178 y179 y180 y181 y182 y183 y184 y185 y186 y187 y188 y189 y190 y191 y192 y193 y194 y195 y196 y197 y198 y199 y200 y201 y202 y203 y204 y205 y206 y207 y208 y209 y210 y211 y212 y213 y214 y215 y216 y217 y218 y219 y220 y221 y222 y223 y224 y225 y226 y227 y228 y229 y230 y231 y232 y233 y234 y235 y236 y237 y238 y239 y240 y241 y242 y243 y244 y245 y246 y247 y248 y249 y250 y251 y252 y253 y254 y255 y256 y257 y258 y259 y260 y261 y262 y263 y264 y265 y266 y267 y268 y269 y270 y271 y272 y273 y274 y275 y276 y277 y278 y279 y280 y281 y282 y283 y284 y285 y286 y287 y288 y289 y290 y291 y292 y293 y294 y295 y296 y297 y298 y299 y300 y301 y302 y303 y304 y305 y306 y307 y308 y309 y310 y311 y312 y313 y314 y315 y316 y317 y318 y319 y320 y321 y322 y323 y324 y325 y326 y327 y328 y329 y330 y331 y332 y333 y334 y335 y336 y337 y338 y339 y340 y341 y342 y343 y344 y345 y346 y347 y348 y349 y350 y351 y352 y353 y354 : Value)
    (J K' : Act → World → Prop) (Q : Exit → Act → World → Prop) (R : Hid (Rnd w4 W8 p N lb lc cb cc E V B C s s' kd pa di ix dat da dl dc code od ol))
    (hJ : ∀ (a' : Act) (w' : World), (∃ u2 u16 u17 u18 u19 u113 u114 u115 u116 u117 u118 u119 u120 u121 u122 u123 u124 u125 u126 u127 u128 u129 u130 u131 u132 u133 u134 u135 u136 u137 u138 u139 u140 u141 u142 u143 u144 u145 u146 u147 u148 u149 u150 u151 u152 u153 u154 u155 u156 u157 u158 u159 u160 u161 u162 u163 u164 u165 u166 u167 u168 u169 u170 u171 u172 u173 u174 u175 u176 u177 u178 u179 u180 u181 u182 u183 u184 u185 u186 u187 u188 u189 u190 u191 u192 u193 u194 u195 u196 u197 u198 u199 u200 u201 u202 u203 u204 u205 u206 u207 u208 u209 u210 u211 u212 u213 u214 u215 u216 u217 u218 u219 u220 u221 u222 u223 u224 u225 u226 u227 u228 u229 u230 u231 u232 u233 u234 u235 u236 u237 u238 u239 u240 u241 u242 u243 u244 u245 u246 u247 u248 u249 u250 u251 u252 u253 u254 u255 u256 u257 u258 u259 u260 u261 u262 u263 u264 u265 u266 u267 u268 u269 u270 u271 u272 u273 u274 u275 u276 u277 u278 u279 u280 : Value, (∃ (V' : Nat → Value) (B' : Nat → Bg) (C' : Nat → Int) (wa : Option Addr) (wc : Nat), u16 = .slice wa ol wc ∧ Hid (Ints .u8 w4 wa od) ∧ Hid (ListsAt w4 w' lb lc cb cc N V' B' C') ∧ Hid (Agree p s' B' C')) ∧ a' = ⟨#[y0, y1, u2, .int .i64 (p : Int), y4, y5, y6, y7, y8, y9, y10, .slice (some ⟨lb, 0, none⟩) N lc, .slice (some ⟨cb, 0, none⟩) N cc, y13, y14, .pointer (some ⟨E, 0, none⟩), u16, u17, u18, u19, y20, y21, y22, y23, y24, y25, y26, y27, y28, y29, y30, y31, y32, y33, y34, y35, y36, y37, y38, y39, y40, y41, y42, y43, y44, y45, y46, y47, y48, y49, y50, y51, y52, y53, y54, y55, y56, y57, y58, y59, y60, y61, y62, y63, y64, y65, y66, y67, y68, y69, y70, y71, y72, y73, y74, y75, y76, y77, y78, y79, y80, y81, y82, y83, y84, y85, y86, y87, y88, y89, y90, y91, y92, y93, y94, y95, y96, y97, y98, y99, y100, y101, y102, y103, y104, y105, y106, y107, y108, y109, y110, y111, y112, u113, u114, u115, u116, u117, u118, u119, u120, u121, u122, u123, u124, u125, u126, u127, u128, u129, u130, u131, u132, u133, u134, u135, u136, u137, u138, u139, u140, u141, u142, u143, u144, u145, u146, u147, u148, u149, u150, u151, u152, u153, u154, u155, u156, u157, u158, u159, u160, u161, u162, u163, u164, u165, u166, u167, u168, u169, u170, u171, u172, u173, u174, u175, u176, u177, u178, u179, u180, u181, u182, u183, u184, u185, u186, u187, u188, u189, u190, u191, u192, u193, u194, u195, u196, u197, u198, u199, u200, u201, u202, u203, u204, u205, u206, u207, u208, u209, u210, u211, u212, u213, u214, u215, u216, u217, u218, u219, u220, u221, u222, u223, u224, u225, u226, u227, u228, u229, u230, u231, u232, u233, u234, u235, u236, u237, u238, u239, u240, u241, u242, u243, u244, u245, u246, u247, u248, u249, u250, u251, u252, u253, u254, u255, u256, u257, u258, u259, u260, u261, u262, u263, u264, u265, u266, u267, u268, u269, u270, u271, u272, u273, u274, u275, u276, u277, u278, u279, u280, y281, y282, y283, y284, y285, y286, y287, y288, y289, y290, y291, y292, y293, y294, y295, y296, y297, y298, y299, y300, y301, y302, y303, y304, y305, y306, y307, y308, y309, y310, y311, y312, y313, y314, y315, y316, y317, y318, y319, y320, y321, y322, y323, y324, y325, y326, y327, y328, y329, y330, y331, y332, y333, y334, y335, y336, y337, y338, y339, y340, y341, y342, y343, y344, y345, y346, y347, y348, y349, y350, y351, y352, y353, y354], []⟩) → J a' w') (hK : ∀ (a' : Act) (w' : World), Met J a' w' → K' a' w')
    (cz : code ≠ 0) : Code.wp Try.prog (ifAt Try.f3 118) (Exit.then K' Q) ⟨#[y0, y1, y2, .int .i64 (p : Int), y4, y5, y6, y7, y8, y9, y10, .slice (some ⟨lb, 0, none⟩) N lc, .slice (some ⟨cb, 0, none⟩) N cc, y13, y14, .pointer (some ⟨E, 0, none⟩), .slice (some ⟨WB, 0, none⟩) 0 0, y17, y18, y19, y20, y21, y22, y23, y24, y25, y26, y27, y28, y29, y30, y31, y32, y33, y34, y35, y36, y37, y38, y39, y40, y41, y42, y43, y44, y45, y46, y47, y48, y49, y50, y51, y52, y53, y54, y55, y56, y57, y58, y59, y60, y61, y62, y63, y64, y65, y66, y67, y68, y69, y70, y71, y72, y73, y74, y75, y76, y77, y78, y79, y80, y81, y82, y83, y84, y85, y86, y87, y88, y89, y90, y91, y92, y93, y94, y95, y96, y97, y98, y99, y100, y101, y102, y103, y104, y105, y106, y107, y108, y109, y110, y111, y112, y113, y114, y115, y116, y117, .bool false, y119, y120, y121, y122, y123, y124, y125, y126, y127, y128, y129, y130, y131, y132, y133, y134, y135, y136, y137, y138, y139, y140, y141, y142, y143, y144, y145, y146, y147, y148, y149, y150, y151, y152, y153, y154, y155, y156, y157, y158, y159, y160, y161, y162, y163, y164, y165, y166, y167, y168, y169, y170, y171, y172, y173, y174, y175, y176, y177, y178, y179, y180, y181, y182, y183, y184, y185, y186, y187, y188, y189, y190, y191, y192, y193, y194, y195, y196, y197, y198, y199, y200, y201, y202, y203, y204, y205, y206, y207, y208, y209, y210, y211, y212, y213, y214, y215, y216, y217, y218, y219, y220, y221, y222, y223, y224, y225, y226, y227, y228, y229, y230, y231, y232, y233, y234, y235, y236, y237, y238, y239, y240, y241, y242, y243, y244, y245, y246, y247, y248, y249, y250, y251, y252, y253, y254, y255, y256, y257, y258, y259, y260, y261, y262, y263, y264, y265, y266, y267, y268, y269, y270, y271, y272, y273, y274, y275, y276, y277, y278, y279, y280, y281, y282, y283, y284, y285, y286, y287, y288, y289, y290, y291, y292, y293, y294, y295, y296, y297, y298, y299, y300, y301, y302, y303, y304, y305, y306, y307, y308, y309, y310, y311, y312, y313, y314, y315, y316, y317, y318, y319, y320, y321, y322, y323, y324, y325, y326, y327, y328, y329, y330, y331, y332, y333, y334, y335, y336, y337, y338, y339, y340, y341, y342, y343, y344, y345, y346, y347, y348, y349, y350, y351, y352, y353, y354], []⟩ W8 := by
  conv => arg 2; whnf
  have h1 := R.out
  have hcode : (stepN p s ⟨kd, pa, di, ix, dat⟩).1.code ≠ 0 := by rw [← h1.gk]; exact cz
  have hno := step_no _ hcode
  have hmust := must_no h1.inv _ hcode
  rw [← h1.gk, ← h1.st] at hno
  obtain ⟨ho0, hss⟩ := hno
  simp only at ho0
  have hol0 : ol = 0 := by rw [h1.hol, ho0]; rfl
  have h5 := mustPass_no w4 W8 lb lc cb cc p V B C s kd pa di ix dat da dl dc h1.ok h1.hdl.symm h1.p8 (by rw [← h1.n]; exact h1.la) h1.ag h1.inv hmust
  rw [← h1.n] at h5
  obtain ⟨⟨e0, e1, e2, e3, e4⟩, _⟩ := cells5r h1.box
  have HO0 : Hid _ := ho0
  have HSS : Hid _ := hss
  have HZ : Hid _ := hol0
  clear cz hcode hmust ho0 hss hol0 h1
  go_wp2_with fail
  refine h5.mono ?_
  rintro e w9 ⟨rfl, hb9⟩
  clear h5
  go_wp2_with fail
  go_meet
  case rel => exact ⟨V, B, C, some ⟨WB, 0, none⟩, 0, by rw [HZ.out], by unfold Hid; rw [HO0.out]; exact .inl rfl, R.out.la.moved hb9, by unfold Hid; rw [HSS.out]; exact R.out.ag⟩
set_option maxHeartbeats 4000000 in
set_option maxRecDepth 1000000 in
theorem if_cut (w4 W8 : World) (p N lb lc cb cc E WB : Nat) (V : Nat → Value) (B : Nat → Bg) (C : Nat → Int) (s s' : NS) (kd pa di ix : Int) (dat : List Int) (da : Option Addr) (dl dc : Nat) (code : Int) (od : List Int) (ol : Nat)
    (y0 y1 y2 y4 y5 y6 y7 y8 y9 y10 y13 y14 y17 y18 y19 y20 y21 y22 y23 y24 y25 y26 y27 y28 y29 y30 y31 y32 y33 y34 y35 y36 y37 y38 y39 y40 y41 y42 y43 y44 y45 y46 y47 y48 y49 y50 y51 y52 y53 y54 y55 y56 y57 y58 y59 y60 y61 y62 y63 y64 y65 y66 y67 y68 y69 y70 y71 y72 y73 y74 y75 y76 y77 y78 y79 y80 y81 y82 y83 y84 y85 y86 y87 y88 y89 y90 y91 y92 y93 y94 y95 y96 y97 y98 y99 y100 y101 y102 y103 y104 y105 y106 y107 y108 y109 y110 y111 y112 y113 y114 y115 y116 y117 y119 y120 y121 y122 y123 y124 y125 y126 y127 y128 y129 y130 y131 y132 y133 y134 y135 y136 y137 y138 y139 y140 y141 y142 y143 y144 y145 y146 y147 y148 y149 y150 y151 y152 y153 y154 y155 y156 y157 y158 y159 y160 y161 y162 y163 y164 y165 y166 y167 y168 y169 y170 y171 y172 y173 y174 y175 y176 y177 y178 y179 y180 y181 y182 y183 y184 y185 y186 y187 y188 y189 y190 y191 y192 y193 y194 y195 y196 y197 y198 y199 y200 y201 y202 y203 y204 y205 y206 y207 y208 y209 y210 y211 y212 y213 y214 y215 y216 y217 y218 y219 y220 y221 y222 y223 y224 y225 y226 y227 y228 y229 y230 y231 y232 y233 y234 y235 y236 y237 y238 y239 y240 y241 y242 y243 y244 y245 y246 y247 y248 y249 y250 y251 y252 y253 y254 y255 y256 y257 y258 y259 y260 y261 y262 y263 y264 y265 y266 y267 y268 y269 y270 y271 y272 y273 y274 y275 y276 y277 y278 y279 y280 y281 y282 y283 y284 y285 y286 y287 y288 y289 y290 y291 y292 y293 y294 y295 y296 y297 y298 y299 y300 y301 y302 y303 y304 y305 y306 y307 y308 y309 y310 y311 y312 y313 y314 y315 y316 y317 y318 y319 y320 y321 y322 y323 y324 y325 y326 y327 y328 y329 y330 y331 y332 y333 y334 y335 y336 y337 y338 y339 y340 y341 y342 y343 y344 y345 y346 y347 y348 y349 y350 y351 y352 y353 y354 : Value)
    (J K' : Act → World → Prop) (Q : Exit → Act → World → Prop) (R : Hid (Rnd w4 W8 p N lb lc cb cc E V B C s s' kd pa di ix dat da dl dc code od ol))
    (hJ : ∀ (a' : Act) (w' : World), (∃ u2 u16 u17 u18 u19 u113 u114 u115 u116 u117 u118 u119 u120 u121 u122 u123 u124 u125 u126 u127 u128 u129 u130 u131 u132 u133 u134 u135 u136 u137 u138 u139 u140 u141 u142 u143 u144 u145 u146 u147 u148 u149 u150 u151 u152 u153 u154 u155 u156 u157 u158 u159 u160 u161 u162 u163 u164 u165 u166 u167 u168 u169 u170 u171 u172 u173 u174 u175 u176 u177 u178 u179 u180 u181 u182 u183 u184 u185 u186 u187 u188 u189 u190 u191 u192 u193 u194 u195 u196 u197 u198 u199 u200 u201 u202 u203 u204 u205 u206 u207 u208 u209 u210 u211 u212 u213 u214 u215 u216 u217 u218 u219 u220 u221 u222 u223 u224 u225 u226 u227 u228 u229 u230 u231 u232 u233 u234 u235 u236 u237 u238 u239 u240 u241 u242 u243 u244 u245 u246 u247 u248 u249 u250 u251 u252 u253 u254 u255 u256 u257 u258 u259 u260 u261 u262 u263 u264 u265 u266 u267 u268 u269 u270 u271 u272 u273 u274 u275 u276 u277 u278 u279 u280 : Value, (∃ (V' : Nat → Value) (B' : Nat → Bg) (C' : Nat → Int) (wa : Option Addr) (wc : Nat), u16 = .slice wa ol wc ∧ Hid (Ints .u8 w4 wa od) ∧ Hid (ListsAt w4 w' lb lc cb cc N V' B' C') ∧ Hid (Agree p s' B' C')) ∧ a' = ⟨#[y0, y1, u2, .int .i64 (p : Int), y4, y5, y6, y7, y8, y9, y10, .slice (some ⟨lb, 0, none⟩) N lc, .slice (some ⟨cb, 0, none⟩) N cc, y13, y14, .pointer (some ⟨E, 0, none⟩), u16, u17, u18, u19, y20, y21, y22, y23, y24, y25, y26, y27, y28, y29, y30, y31, y32, y33, y34, y35, y36, y37, y38, y39, y40, y41, y42, y43, y44, y45, y46, y47, y48, y49, y50, y51, y52, y53, y54, y55, y56, y57, y58, y59, y60, y61, y62, y63, y64, y65, y66, y67, y68, y69, y70, y71, y72, y73, y74, y75, y76, y77, y78, y79, y80, y81, y82, y83, y84, y85, y86, y87, y88, y89, y90, y91, y92, y93, y94, y95, y96, y97, y98, y99, y100, y101, y102, y103, y104, y105, y106, y107, y108, y109, y110, y111, y112, u113, u114, u115, u116, u117, u118, u119, u120, u121, u122, u123, u124, u125, u126, u127, u128, u129, u130, u131, u132, u133, u134, u135, u136, u137, u138, u139, u140, u141, u142, u143, u144, u145, u146, u147, u148, u149, u150, u151, u152, u153, u154, u155, u156, u157, u158, u159, u160, u161, u162, u163, u164, u165, u166, u167, u168, u169, u170, u171, u172, u173, u174, u175, u176, u177, u178, u179, u180, u181, u182, u183, u184, u185, u186, u187, u188, u189, u190, u191, u192, u193, u194, u195, u196, u197, u198, u199, u200, u201, u202, u203, u204, u205, u206, u207, u208, u209, u210, u211, u212, u213, u214, u215, u216, u217, u218, u219, u220, u221, u222, u223, u224, u225, u226, u227, u228, u229, u230, u231, u232, u233, u234, u235, u236, u237, u238, u239, u240, u241, u242, u243, u244, u245, u246, u247, u248, u249, u250, u251, u252, u253, u254, u255, u256, u257, u258, u259, u260, u261, u262, u263, u264, u265, u266, u267, u268, u269, u270, u271, u272, u273, u274, u275, u276, u277, u278, u279, u280, y281, y282, y283, y284, y285, y286, y287, y288, y289, y290, y291, y292, y293, y294, y295, y296, y297, y298, y299, y300, y301, y302, y303, y304, y305, y306, y307, y308, y309, y310, y311, y312, y313, y314, y315, y316, y317, y318, y319, y320, y321, y322, y323, y324, y325, y326, y327, y328, y329, y330, y331, y332, y333, y334, y335, y336, y337, y338, y339, y340, y341, y342, y343, y344, y345, y346, y347, y348, y349, y350, y351, y352, y353, y354], []⟩) → J a' w') (hK : ∀ (a' : Act) (w' : World), Met J a' w' → K' a' w')
    (cz : code = 0) (k1 : kd = 5) : Code.wp Try.prog (ifAt Try.f3 118) (Exit.then K' Q) ⟨#[y0, y1, y2, .int .i64 (p : Int), y4, y5, y6, y7, y8, y9, y10, .slice (some ⟨lb, 0, none⟩) N lc, .slice (some ⟨cb, 0, none⟩) N cc, y13, y14, .pointer (some ⟨E, 0, none⟩), .slice (some ⟨WB, 0, none⟩) 0 0, y17, y18, y19, y20, y21, y22, y23, y24, y25, y26, y27, y28, y29, y30, y31, y32, y33, y34, y35, y36, y37, y38, y39, y40, y41, y42, y43, y44, y45, y46, y47, y48, y49, y50, y51, y52, y53, y54, y55, y56, y57, y58, y59, y60, y61, y62, y63, y64, y65, y66, y67, y68, y69, y70, y71, y72, y73, y74, y75, y76, y77, y78, y79, y80, y81, y82, y83, y84, y85, y86, y87, y88, y89, y90, y91, y92, y93, y94, y95, y96, y97, y98, y99, y100, y101, y102, y103, y104, y105, y106, y107, y108, y109, y110, y111, y112, y113, y114, y115, y116, y117, .bool true, y119, y120, y121, y122, y123, y124, y125, y126, y127, y128, y129, y130, y131, y132, y133, y134, y135, y136, y137, y138, y139, y140, y141, y142, y143, y144, y145, y146, y147, y148, y149, y150, y151, y152, y153, y154, y155, y156, y157, y158, y159, y160, y161, y162, y163, y164, y165, y166, y167, y168, y169, y170, y171, y172, y173, y174, y175, y176, y177, y178, y179, y180, y181, y182, y183, y184, y185, y186, y187, y188, y189, y190, y191, y192, y193, y194, y195, y196, y197, y198, y199, y200, y201, y202, y203, y204, y205, y206, y207, y208, y209, y210, y211, y212, y213, y214, y215, y216, y217, y218, y219, y220, y221, y222, y223, y224, y225, y226, y227, y228, y229, y230, y231, y232, y233, y234, y235, y236, y237, y238, y239, y240, y241, y242, y243, y244, y245, y246, y247, y248, y249, y250, y251, y252, y253, y254, y255, y256, y257, y258, y259, y260, y261, y262, y263, y264, y265, y266, y267, y268, y269, y270, y271, y272, y273, y274, y275, y276, y277, y278, y279, y280, y281, y282, y283, y284, y285, y286, y287, y288, y289, y290, y291, y292, y293, y294, y295, y296, y297, y298, y299, y300, y301, y302, y303, y304, y305, y306, y307, y308, y309, y310, y311, y312, y313, y314, y315, y316, y317, y318, y319, y320, y321, y322, y323, y324, y325, y326, y327, y328, y329, y330, y331, y332, y333, y334, y335, y336, y337, y338, y339, y340, y341, y342, y343, y344, y345, y346, y347, y348, y349, y350, y351, y352, y353, y354], []⟩ W8 := by
  conv => arg 2; whnf
  have h1 := R.out
  have hcode : (stepN p s ⟨kd, pa, di, ix, dat⟩).1.code = 0 := by rw [← h1.gk]; exact cz
  obtain ⟨⟨hpa0, hpa1⟩, ⟨hkd1, hkd6⟩, hdi, hsend, hix⟩ := pass_yes _ hcode
  simp only at hpa0 hpa1 hkd1 hkd6 hdi hsend hix
  obtain ⟨pp, hpp⟩ : ∃ pp : Nat, pa = (pp : Int) := ⟨pa.toNat, by omega⟩
  have q1 : decide (pa < 0) = false := decide_eq_false (by omega)
  have q2 : decide ((p : Int) ≤ pa) = false := decide_eq_false (by omega)
  obtain ⟨JJ, hJJ⟩ : ∃ JJ, JJ = 2 * pp := ⟨_, rfl⟩
  have p8 := h1.p8
  have hJw : IntKind.i64.wrap (2 * pa) = (JJ : Int) := by rw [IntKind.wrap_i64]; omega
  have hJN : JJ + 1 < N := by have := h1.n; omega
  have hN16 : N ≤ 16 := by have := h1.n; omega
  have HPP : Hid (pa = (pp : Int) ∧ pp < p ∧ JJ = 2 * pp) := ⟨hpp, by omega, hJJ⟩
  obtain ⟨⟨e0, e1, e2, e3, e4⟩, _⟩ := cells5r h1.box
  have HCD : Hid _ := hcode
  have bq4 : decide (kd ≤ 4) = false := decide_eq_false (by omega)
  have bq2 : decide (2 ≤ kd) = true := decide_eq_true (by omega)
  have bk1 : (kd == 1) = false := by simp; omega
  have bk2 : (kd == 2) = false := by simp; omega
  have bk3 : (kd == 3) = false := by simp; omega
  have bk4 : (kd == 4) = false := by simp; omega
  have bk5 : (kd == 5) = true := by simp; omega
  have bk6 : (kd == 6) = false := by simp; omega
  have hJ0 : decide ((JJ : Int) < 0) = false := decide_eq_false (by omega)
  have hJ3 : decide (N ≤ JJ) = false := decide_eq_false (by omega)
  have hJ4 : decide ((N : Int) ≤ (JJ : Int)) = false := decide_eq_false (by omega)
  obtain ⟨J1, hJ1⟩ : ∃ J1, J1 = JJ + 1 := ⟨_, rfl⟩
  have hJ1i : (JJ : Int) + 1 = (J1 : Int) := by omega
  have hn1 : ¬ JJ = J1 := by omega
  have hn2 : ¬ J1 = JJ := by omega
  have hJi : (JJ : Int) < (N : Int) := by omega
  have hJi1 : (J1 : Int) < (N : Int) := by omega
  have HJ1 : Hid _ := hJ1
  have HK1 : Hid _ := k1
  clear k1 hix hsend hdi hkd1 hkd6 cz hcode hpp hJJ hpa0 hpa1 h1 hJ1
  go_upto_region 31 with fail
  clear hJw q1 q2
  go_big_quiet (fail)
  obtain ⟨X, hX⟩ : ∃ X, X = W8.drewN nq := ⟨_, rfl⟩
  have hbX : Below W8.heap.size W8 X := by rw [hX]; exact drewsN (Below.refl _ _) nq
  have HLX : Hid (ListsAt w4 X lb lc cb cc N V B C) := R.out.la.moved hbX
  have hEX := (hbX.block E (Array.getElem?_eq_some_iff.1 R.out.box).1).trans R.out.box
  rw [← hX]
  clear e0 e1 e2 e3 e4 hX
  have e0 : X.cell? ⟨E, 0, none⟩ = some (.int .i64 kd) := Go.Joins.cell_of_block hEX 0
  obtain ⟨lcs, hlb⟩ := HLX.out.lblk
  obtain ⟨ccs, hcb⟩ := HLX.out.cblk
  have hlc : ¬ lb = cb := type_ne hlb hcb (by decide)
  have hcl : ¬ cb = lb := fun e => hlc e.symm
  obtain ⟨a0, af0⟩ := HLX.out.cellL (b := JJ) (by omega)
  obtain ⟨a1, af1⟩ := HLX.out.cellL (b := J1) (by omega)
  obtain ⟨d0, df0⟩ := HLX.out.cellC (b := JJ) (by omega)
  obtain ⟨d1, df1⟩ := HLX.out.cellC (b := J1) (by omega)
  clear hlb hcb hEX
  go_wp2_with fail
  go_meet
  case rel =>
    have hst := step_cut ⟨kd, pa, di, ix, dat⟩ HK1.out HCD.out
    have hgk := R.out.gk
    have hs' := R.out.st
    rw [hst] at hgk hs'
    simp only [NOut.mk.injEq] at hgk hs'
    have hag := R.out.ag.cutOff (p := pp) HPP.out.2.1
    rw [← HPP.out.2.2, ← HJ1.out, ← HPP.out.1, ← hs'] at hag
    have hla := (((HLX.out.setL (b := JJ) (by omega) (.slice none 0 0) [] ⟨rfl, .inl ⟨rfl, rfl⟩⟩ (fun k hk => by simp [Value.ownBlock] at hk) (fun q hq => by simp at hq)).setL (b := J1) (by omega) (.slice none 0 0) [] ⟨rfl, .inl ⟨rfl, rfl⟩⟩ (fun k hk => by simp [Value.ownBlock] at hk) (fun q hq => by simp at hq)).setC (b := JJ) (by omega) 1).setC (b := J1) (by omega) 1
    exact ⟨_, _, _, some ⟨WB, 0, none⟩, 0, by rw [R.out.hol, hgk.2]; rfl, by unfold Hid; rw [hgk.2]; exact .inl rfl, hla, hag⟩
set_option maxHeartbeats 4000000 in
set_option maxRecDepth 1000000 in
theorem if_up (w4 W8 : World) (p N lb lc cb cc E WB : Nat) (V : Nat → Value) (B : Nat → Bg) (C : Nat → Int) (s s' : NS) (kd pa di ix : Int) (dat : List Int) (da : Option Addr) (dl dc : Nat) (code : Int) (od : List Int) (ol : Nat)
    (y0 y1 y2 y4 y5 y6 y7 y8 y9 y10 y13 y14 y17 y18 y19 y20 y21 y22 y23 y24 y25 y26 y27 y28 y29 y30 y31 y32 y33 y34 y35 y36 y37 y38 y39 y40 y41 y42 y43 y44 y45 y46 y47 y48 y49 y50 y51 y52 y53 y54 y55 y56 y57 y58 y59 y60 y61 y62 y63 y64 y65 y66 y67 y68 y69 y70 y71 y72 y73 y74 y75 y76 y77 y78 y79 y80 y81 y82 y83 y84 y85 y86 y87 y88 y89 y90 y91 y92 y93 y94 y95 y96 y97 y98 y99 y100 y101 y102 y103 y104 y105 y106 y107 y108 y109 y110 y111 y112 y113 y114 y115 y116 y117 y119 y120 y121 y122 y123 y124 y125 y126 y127 y128 y129 y130 y131 y132 y133 y134 y135 y136 y137 y138 y139 y140 y141 y142 y143 y144 y145 y146 y147 y148 y149 y150 y151 y152 y153 y154 y155 y156 y157 y158 y159 y160 y161 y162 y163 y164 y165 y166 y167 y168 y169 y170 y171 y172 y173 y174 y175 y176 y177 y178 y179 y180 y181 y182 y183 y184 y185 y186 y187 y188 y189 y190 y191 y192 y193 y194 y195 y196 y197 y198 y199 y200 y201 y202 y203 y204 y205 y206 y207 y208 y209 y210 y211 y212 y213 y214 y215 y216 y217 y218 y219 y220 y221 y222 y223 y224 y225 y226 y227 y228 y229 y230 y231 y232 y233 y234 y235 y236 y237 y238 y239 y240 y241 y242 y243 y244 y245 y246 y247 y248 y249 y250 y251 y252 y253 y254 y255 y256 y257 y258 y259 y260 y261 y262 y263 y264 y265 y266 y267 y268 y269 y270 y271 y272 y273 y274 y275 y276 y277 y278 y279 y280 y281 y282 y283 y284 y285 y286 y287 y288 y289 y290 y291 y292 y293 y294 y295 y296 y297 y298 y299 y300 y301 y302 y303 y304 y305 y306 y307 y308 y309 y310 y311 y312 y313 y314 y315 y316 y317 y318 y319 y320 y321 y322 y323 y324 y325 y326 y327 y328 y329 y330 y331 y332 y333 y334 y335 y336 y337 y338 y339 y340 y341 y342 y343 y344 y345 y346 y347 y348 y349 y350 y351 y352 y353 y354 : Value)
    (J K' : Act → World → Prop) (Q : Exit → Act → World → Prop) (R : Hid (Rnd w4 W8 p N lb lc cb cc E V B C s s' kd pa di ix dat da dl dc code od ol))
    (hJ : ∀ (a' : Act) (w' : World), (∃ u2 u16 u17 u18 u19 u113 u114 u115 u116 u117 u118 u119 u120 u121 u122 u123 u124 u125 u126 u127 u128 u129 u130 u131 u132 u133 u134 u135 u136 u137 u138 u139 u140 u141 u142 u143 u144 u145 u146 u147 u148 u149 u150 u151 u152 u153 u154 u155 u156 u157 u158 u159 u160 u161 u162 u163 u164 u165 u166 u167 u168 u169 u170 u171 u172 u173 u174 u175 u176 u177 u178 u179 u180 u181 u182 u183 u184 u185 u186 u187 u188 u189 u190 u191 u192 u193 u194 u195 u196 u197 u198 u199 u200 u201 u202 u203 u204 u205 u206 u207 u208 u209 u210 u211 u212 u213 u214 u215 u216 u217 u218 u219 u220 u221 u222 u223 u224 u225 u226 u227 u228 u229 u230 u231 u232 u233 u234 u235 u236 u237 u238 u239 u240 u241 u242 u243 u244 u245 u246 u247 u248 u249 u250 u251 u252 u253 u254 u255 u256 u257 u258 u259 u260 u261 u262 u263 u264 u265 u266 u267 u268 u269 u270 u271 u272 u273 u274 u275 u276 u277 u278 u279 u280 : Value, (∃ (V' : Nat → Value) (B' : Nat → Bg) (C' : Nat → Int) (wa : Option Addr) (wc : Nat), u16 = .slice wa ol wc ∧ Hid (Ints .u8 w4 wa od) ∧ Hid (ListsAt w4 w' lb lc cb cc N V' B' C') ∧ Hid (Agree p s' B' C')) ∧ a' = ⟨#[y0, y1, u2, .int .i64 (p : Int), y4, y5, y6, y7, y8, y9, y10, .slice (some ⟨lb, 0, none⟩) N lc, .slice (some ⟨cb, 0, none⟩) N cc, y13, y14, .pointer (some ⟨E, 0, none⟩), u16, u17, u18, u19, y20, y21, y22, y23, y24, y25, y26, y27, y28, y29, y30, y31, y32, y33, y34, y35, y36, y37, y38, y39, y40, y41, y42, y43, y44, y45, y46, y47, y48, y49, y50, y51, y52, y53, y54, y55, y56, y57, y58, y59, y60, y61, y62, y63, y64, y65, y66, y67, y68, y69, y70, y71, y72, y73, y74, y75, y76, y77, y78, y79, y80, y81, y82, y83, y84, y85, y86, y87, y88, y89, y90, y91, y92, y93, y94, y95, y96, y97, y98, y99, y100, y101, y102, y103, y104, y105, y106, y107, y108, y109, y110, y111, y112, u113, u114, u115, u116, u117, u118, u119, u120, u121, u122, u123, u124, u125, u126, u127, u128, u129, u130, u131, u132, u133, u134, u135, u136, u137, u138, u139, u140, u141, u142, u143, u144, u145, u146, u147, u148, u149, u150, u151, u152, u153, u154, u155, u156, u157, u158, u159, u160, u161, u162, u163, u164, u165, u166, u167, u168, u169, u170, u171, u172, u173, u174, u175, u176, u177, u178, u179, u180, u181, u182, u183, u184, u185, u186, u187, u188, u189, u190, u191, u192, u193, u194, u195, u196, u197, u198, u199, u200, u201, u202, u203, u204, u205, u206, u207, u208, u209, u210, u211, u212, u213, u214, u215, u216, u217, u218, u219, u220, u221, u222, u223, u224, u225, u226, u227, u228, u229, u230, u231, u232, u233, u234, u235, u236, u237, u238, u239, u240, u241, u242, u243, u244, u245, u246, u247, u248, u249, u250, u251, u252, u253, u254, u255, u256, u257, u258, u259, u260, u261, u262, u263, u264, u265, u266, u267, u268, u269, u270, u271, u272, u273, u274, u275, u276, u277, u278, u279, u280, y281, y282, y283, y284, y285, y286, y287, y288, y289, y290, y291, y292, y293, y294, y295, y296, y297, y298, y299, y300, y301, y302, y303, y304, y305, y306, y307, y308, y309, y310, y311, y312, y313, y314, y315, y316, y317, y318, y319, y320, y321, y322, y323, y324, y325, y326, y327, y328, y329, y330, y331, y332, y333, y334, y335, y336, y337, y338, y339, y340, y341, y342, y343, y344, y345, y346, y347, y348, y349, y350, y351, y352, y353, y354], []⟩) → J a' w') (hK : ∀ (a' : Act) (w' : World), Met J a' w' → K' a' w')
    (cz : code = 0) (k1 : kd = 6) : Code.wp Try.prog (ifAt Try.f3 118) (Exit.then K' Q) ⟨#[y0, y1, y2, .int .i64 (p : Int), y4, y5, y6, y7, y8, y9, y10, .slice (some ⟨lb, 0, none⟩) N lc, .slice (some ⟨cb, 0, none⟩) N cc, y13, y14, .pointer (some ⟨E, 0, none⟩), .slice (some ⟨WB, 0, none⟩) 0 0, y17, y18, y19, y20, y21, y22, y23, y24, y25, y26, y27, y28, y29, y30, y31, y32, y33, y34, y35, y36, y37, y38, y39, y40, y41, y42, y43, y44, y45, y46, y47, y48, y49, y50, y51, y52, y53, y54, y55, y56, y57, y58, y59, y60, y61, y62, y63, y64, y65, y66, y67, y68, y69, y70, y71, y72, y73, y74, y75, y76, y77, y78, y79, y80, y81, y82, y83, y84, y85, y86, y87, y88, y89, y90, y91, y92, y93, y94, y95, y96, y97, y98, y99, y100, y101, y102, y103, y104, y105, y106, y107, y108, y109, y110, y111, y112, y113, y114, y115, y116, y117, .bool true, y119, y120, y121, y122, y123, y124, y125, y126, y127, y128, y129, y130, y131, y132, y133, y134, y135, y136, y137, y138, y139, y140, y141, y142, y143, y144, y145, y146, y147, y148, y149, y150, y151, y152, y153, y154, y155, y156, y157, y158, y159, y160, y161, y162, y163, y164, y165, y166, y167, y168, y169, y170, y171, y172, y173, y174, y175, y176, y177, y178, y179, y180, y181, y182, y183, y184, y185, y186, y187, y188, y189, y190, y191, y192, y193, y194, y195, y196, y197, y198, y199, y200, y201, y202, y203, y204, y205, y206, y207, y208, y209, y210, y211, y212, y213, y214, y215, y216, y217, y218, y219, y220, y221, y222, y223, y224, y225, y226, y227, y228, y229, y230, y231, y232, y233, y234, y235, y236, y237, y238, y239, y240, y241, y242, y243, y244, y245, y246, y247, y248, y249, y250, y251, y252, y253, y254, y255, y256, y257, y258, y259, y260, y261, y262, y263, y264, y265, y266, y267, y268, y269, y270, y271, y272, y273, y274, y275, y276, y277, y278, y279, y280, y281, y282, y283, y284, y285, y286, y287, y288, y289, y290, y291, y292, y293, y294, y295, y296, y297, y298, y299, y300, y301, y302, y303, y304, y305, y306, y307, y308, y309, y310, y311, y312, y313, y314, y315, y316, y317, y318, y319, y320, y321, y322, y323, y324, y325, y326, y327, y328, y329, y330, y331, y332, y333, y334, y335, y336, y337, y338, y339, y340, y341, y342, y343, y344, y345, y346, y347, y348, y349, y350, y351, y352, y353, y354], []⟩ W8 := by
  conv => arg 2; whnf
  have h1 := R.out
  have hcode : (stepN p s ⟨kd, pa, di, ix, dat⟩).1.code = 0 := by rw [← h1.gk]; exact cz
  obtain ⟨⟨hpa0, hpa1⟩, ⟨hkd1, hkd6⟩, hdi, hsend, hix⟩ := pass_yes _ hcode
  simp only at hpa0 hpa1 hkd1 hkd6 hdi hsend hix
  obtain ⟨pp, hpp⟩ : ∃ pp : Nat, pa = (pp : Int) := ⟨pa.toNat, by omega⟩
  have q1 : decide (pa < 0) = false := decide_eq_false (by omega)
  have q2 : decide ((p : Int) ≤ pa) = false := decide_eq_false (by omega)
  obtain ⟨JJ, hJJ⟩ : ∃ JJ, JJ = 2 * pp := ⟨_, rfl⟩
  have p8 := h1.p8
  have hJw : IntKind.i64.wrap (2 * pa) = (JJ : Int) := by rw [IntKind.wrap_i64]; omega
  have hJN : JJ + 1 < N := by have := h1.n; omega
  have hN16 : N ≤ 16 := by have := h1.n; omega
  have HPP : Hid (pa = (pp : Int) ∧ pp < p ∧ JJ = 2 * pp) := ⟨hpp, by omega, hJJ⟩
  obtain ⟨⟨e0, e1, e2, e3, e4⟩, _⟩ := cells5r h1.box
  have HCD : Hid _ := hcode
  have bq4 : decide (kd ≤ 4) = false := decide_eq_false (by omega)
  have bq2 : decide (2 ≤ kd) = true := decide_eq_true (by omega)
  have bk1 : (kd == 1) = false := by simp; omega
  have bk2 : (kd == 2) = false := by simp; omega
  have bk3 : (kd == 3) = false := by simp; omega
  have bk4 : (kd == 4) = false := by simp; omega
  have bk5 : (kd == 5) = false := by simp; omega
  have bk6 : (kd == 6) = true := by simp; omega
  have hJ0 : decide ((JJ : Int) < 0) = false := decide_eq_false (by omega)
  have hJ3 : decide (N ≤ JJ) = false := decide_eq_false (by omega)
  have hJ4 : decide ((N : Int) ≤ (JJ : Int)) = false := decide_eq_false (by omega)
  obtain ⟨J1, hJ1⟩ : ∃ J1, J1 = JJ + 1 := ⟨_, rfl⟩
  have hJ1i : (JJ : Int) + 1 = (J1 : Int) := by omega
  have hn1 : ¬ JJ = J1 := by omega
  have hn2 : ¬ J1 = JJ := by omega
  have hJi : (JJ : Int) < (N : Int) := by omega
  have hJi1 : (J1 : Int) < (N : Int) := by omega
  have HJ1 : Hid _ := hJ1
  have HK1 : Hid _ := k1
  clear k1 hix hsend hdi hkd1 hkd6 cz hcode hpp hJJ hpa0 hpa1 h1 hJ1
  go_upto_region 31 with fail
  clear hJw q1 q2
  go_big_quiet (fail)
  obtain ⟨X, hX⟩ : ∃ X, X = W8.drewN nq := ⟨_, rfl⟩
  have hbX : Below W8.heap.size W8 X := by rw [hX]; exact drewsN (Below.refl _ _) nq
  have HLX : Hid (ListsAt w4 X lb lc cb cc N V B C) := R.out.la.moved hbX
  have hEX := (hbX.block E (Array.getElem?_eq_some_iff.1 R.out.box).1).trans R.out.box
  rw [← hX]
  clear e0 e1 e2 e3 e4 hX
  have e0 : X.cell? ⟨E, 0, none⟩ = some (.int .i64 kd) := Go.Joins.cell_of_block hEX 0
  obtain ⟨lcs, hlb⟩ := HLX.out.lblk
  obtain ⟨ccs, hcb⟩ := HLX.out.cblk
  have hlc : ¬ lb = cb := type_ne hlb hcb (by decide)
  have hcl : ¬ cb = lb := fun e => hlc e.symm
  obtain ⟨d0, df0⟩ := HLX.out.cellC (b := JJ) (by omega)
  obtain ⟨d1, df1⟩ := HLX.out.cellC (b := J1) (by omega)
  clear hlb hcb hEX
  go_wp2_with fail
  go_meet
  case rel =>
    have hst := step_up ⟨kd, pa, di, ix, dat⟩ HK1.out HCD.out
    have hgk := R.out.gk
    have hs' := R.out.st
    rw [hst] at hgk hs'
    simp only [NOut.mk.injEq] at hgk hs'
    have hag := R.out.ag.up (p := pp) HPP.out.2.1
    rw [← HPP.out.2.2, ← HJ1.out, ← HPP.out.1, ← hs'] at hag
    have hla := (HLX.out.setC (b := JJ) (by omega) 0).setC (b := J1) (by omega) 0
    exact ⟨_, _, _, some ⟨WB, 0, none⟩, 0, by rw [R.out.hol, hgk.2]; rfl, by unfold Hid; rw [hgk.2]; exact .inl rfl, hla, hag⟩
end Go.Proofs.Ytkamdaadgndmbaa
