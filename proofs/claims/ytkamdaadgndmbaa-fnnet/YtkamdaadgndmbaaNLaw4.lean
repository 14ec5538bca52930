import Derived.Test.YtkamdaadgndmbaaNLaw3
import Derived.Deep.RegionWith
namespace Go.Proofs.Ytkamdaadgndmbaa
open Go.ChangeShapes Go.WideShapes Go.ChangeAt Go.RowKit
set_option linter.unusedVariables false

theorem Ints.movedB {k : IntKind} {w w' : World} {a : Option Addr} {zs : List Int} (h : Ints k w a zs) (hb : Below w.heap.size w w') : Ints k w' a zs := h.moved hb
set_option maxHeartbeats 1000000 in
theorem eqNetEvent_same (kd pa di ix : Int) (a a' : Option Addr) (ys : List Int) (dl cap cap' : Nat) (w : World) (hz : Ints .u8 w a ys) (hz' : Ints .u8 w a' ys) (hn : ys.length = dl) (hl : dl ≤ 1048576) :
    Calls Try.prog 31 #[.agg #[.int .i64 kd, .int .i64 pa, .int .i64 di, .int .i64 ix, .slice a dl cap], .agg #[.int .i64 kd, .int .i64 pa, .int .i64 di, .int .i64 ix, .slice a' dl cap']] w fun e w' => e = .returned (.bool true) ∧ Below w.heap.size w w' := by
  subst hn
  have hb0 : Below w.heap.size w ((w.alloc (.cells #[.int .i64 kd, .int .i64 pa, .int .i64 di, .int .i64 ix, .slice a ys.length cap] 35)).alloc (.cells #[.int .i64 kd, .int .i64 pa, .int .i64 di, .int .i64 ix, .slice a' ys.length cap'] 35)) := ((Below.refl _ _).alloc (Nat.le_refl _) _).alloc (by simp) _
  have hzW := hz.moved hb0
  have hzW' := hz'.moved hb0
  obtain ⟨W, hW⟩ : ∃ W, W = ((w.alloc (.cells #[.int .i64 kd, .int .i64 pa, .int .i64 di, .int .i64 ix, .slice a ys.length cap] 35)).alloc (.cells #[.int .i64 kd, .int .i64 pa, .int .i64 di, .int .i64 ix, .slice a' ys.length cap'] 35)) := ⟨_, rfl⟩
  have hE1 : W.heap[w.heap.size]? = some (.cells #[.int .i64 kd, .int .i64 pa, .int .i64 di, .int .i64 ix, .slice a ys.length cap] 35) := by rw [hW]; exact (Below.heap_alloc _ _ _ (by simp)).trans (box_new _ _ _ rfl)
  have hE2 : W.heap[w.heap.size + 1]? = some (.cells #[.int .i64 kd, .int .i64 pa, .int .i64 di, .int .i64 ix, .slice a' ys.length cap'] 35) := by rw [hW]; exact box_new _ _ _ (by simp)
  have hs : W.heap.size = w.heap.size + 2 := by rw [hW]; simp
  rw [← hW] at hb0 hzW hzW'
  obtain ⟨E, hEe⟩ : ∃ E, E = w.heap.size := ⟨_, rfl⟩
  obtain ⟨F, hFe⟩ : ∃ E, E = w.heap.size + 1 := ⟨_, rfl⟩
  rw [← hEe] at hE1
  rw [← hFe] at hE2
  have hEl : E < W.heap.size := by omega
  have hFl : F < W.heap.size := by omega
  obtain ⟨⟨e0, e1, e2, e3, e4⟩, _⟩ := cells5r hE1
  obtain ⟨⟨f0, f1, f2, f3, f4⟩, _⟩ := cells5r hE2
  have hcall := eqByteS_same a a' ys cap cap' W hzW hzW' hl
  obtain ⟨dl, hdl⟩ : ∃ dl, Hid (dl = ys.length) := ⟨_, rfl⟩
  rw [← hdl.out] at hcall hE1 hE2 e4 f4 ⊢
  rw [← hdl.out] at hW
  clear hz hz' hzW hzW' hs
  go_enter Try.func31, Try.ntmps31
  go_upto_region 1 with fail
  rw [← hW, ← hFe, ← hEe]
  clear hW hFe hEe
  go_wp2_with fail
  refine hcall.mono ?_
  rintro e w1 ⟨rfl, hb1⟩
  obtain ⟨⟨g0, g1, g2, g3, g4⟩, _⟩ := cells5r ((hb1.block E hEl).trans hE1)
  obtain ⟨⟨h0, h1, h2, h3, h4⟩, _⟩ := cells5r ((hb1.block F hFl).trans hE2)
  have hB := hb0.trans (hb1.mono hb0.size)
  clear hcall
  go_wp2_with fail
  go_ret
  exact ⟨rfl, hB⟩
set_option maxHeartbeats 1000000 in
theorem eqNetOut_same (c : Int) (a a' : Option Addr) (ys : List Int) (dl cap cap' : Nat) (w : World) (hz : Ints .u8 w a ys) (hz' : Ints .u8 w a' ys) (hn : ys.length = dl) (hl : dl ≤ 1048576) :
    Calls Try.prog 30 #[.agg #[.int .i64 c, .slice a dl cap], .agg #[.int .i64 c, .slice a' dl cap']] w fun e w' => e = .returned (.bool true) ∧ Below w.heap.size w w' := by
  subst hn
  have hb0 : Below w.heap.size w ((w.alloc (.cells #[.int .i64 c, .slice a ys.length cap] 37)).alloc (.cells #[.int .i64 c, .slice a' ys.length cap'] 37)) := ((Below.refl _ _).alloc (Nat.le_refl _) _).alloc (by simp) _
  have hzW := hz.moved hb0
  have hzW' := hz'.moved hb0
  have hcall := eqByteS_same a a' ys cap cap' _ hzW hzW' hl
  obtain ⟨dl, hdl⟩ : ∃ dl, Hid (dl = ys.length) := ⟨_, rfl⟩
  rw [← hdl.out] at hcall hb0 ⊢
  clear hz hz' hzW hzW'
  go_enter Try.func30, Try.ntmps30
  go_wp2_with fail
  refine hcall.mono ?_
  rintro e w1 ⟨rfl, hb1⟩
  have hB := hb0.trans (hb1.mono hb0.size)
  clear hcall
  go_wp2_with fail
  go_ret
  exact ⟨rfl, hB⟩
set_option maxHeartbeats 1000000 in
set_option maxRecDepth 100000 in
theorem eqNetEventS_same (es es' : Evs) (a a' : Option Addr) (n cap cap' : Nat) (w : World) (hn : es.length = n) (hG : es.map (·.1) = es'.map (·.1)) (h1 : EvIn w a es) (h2 : EvIn w a' es') (hl : n ≤ 1048576) (hd : ∀ p ∈ es, p.1.dat.length ≤ 1048576) :
    Calls Try.prog 14 #[.slice a n cap, .slice a' n cap'] w fun e w' => e = .returned (.bool true) ∧ Below w.heap.size w w' := by
  have hn' : es'.length = n := by
    have e := congrArg List.length hG
    simp only [List.length_map] at e
    omega
  have HN : Hid (es.length = n) := hn
  have HN2 : Hid (es'.length = n) := hn'
  have HG : Hid (es.map (·.1) = es'.map (·.1)) := hG
  clear hn hn' hG
  go_enter Try.func14, Try.ntmps14
  go_wp2_with fail
  go_loopw [5] (fun i wr => ∃ k : Nat, k ≤ n ∧ i = .int .i64 (k : Int) ∧ Below w.heap.size w wr) (fun i _ => n - (intOf i).toNat)
  case atStart => exact ⟨0, Nat.zero_le _, rfl, Below.refl _ _⟩
  case round =>
  obtain ⟨k, hk, rfl, hb⟩ := hrel
  by_cases hlt : k < n
  · have hk1 : k < es.length := by have := HN.out; omega
    have hk2 : k < es'.length := by have := HN2.out; omega
    rcases h1.at_ with h | ⟨b, off, rfl, hc⟩
    · rw [h] at hk1; simp at hk1
    rcases h2.at_ with h | ⟨b', off', rfl, hc'⟩
    · rw [h] at hk2; simp at hk2
    obtain ⟨c1, c2, c3, c4, c5⟩ := hc k hk1
    obtain ⟨t1, t2, t3, t4, t5⟩ := hc' k hk2
    have hm := List.getElem_mem hk1
    have hm' := List.getElem_mem hk2
    have hdk := hd _ hm
    have hi1 := (h1.dat _ hm).moved hb
    have hi2 := (h2.dat _ hm').moved hb
    have heq : (es[k]).1 = (es'[k]).1 := by
      have e1 : (es.map (·.1))[k]? = some (es[k]).1 := by rw [List.getElem?_map, List.getElem?_eq_getElem hk1]; rfl
      have e2 : (es'.map (·.1))[k]? = some (es'[k]).1 := by rw [List.getElem?_map, List.getElem?_eq_getElem hk2]; rfl
      rw [HG.out, e2] at e1
      exact (Option.some.inj e1).symm
    rw [← heq] at t1 t2 t3 t4 t5 hi2
    obtain ⟨⟨⟨kd, pa, di, ix, dat⟩, da, dc⟩, he⟩ : ∃ p, es[k] = p := ⟨_, rfl⟩
    obtain ⟨⟨da', dc'⟩, he'⟩ : ∃ p, (es'[k]).2 = p := ⟨_, rfl⟩
    rw [he] at c1 c2 c3 c4 c5 t1 t2 t3 t4 t5 hdk hi1 hi2
    rw [he'] at t5 hi2
    simp only at c1 c2 c3 c4 c5 t1 t2 t3 t4 t5 hdk hi1 hi2
    have lb := World.block_lt_of_cell? w _ c1
    have lb' := World.block_lt_of_cell? w _ t1
    have r1 := (hb.cell (p := ⟨b, off + k * 5, none⟩) lb).trans c1
    have r2 := (hb.cell (p := ⟨b, off + k * 5 + 1, none⟩) lb).trans c2
    have r3 := (hb.cell (p := ⟨b, off + k * 5 + 2, none⟩) lb).trans c3
    have r4 := (hb.cell (p := ⟨b, off + k * 5 + 3, none⟩) lb).trans c4
    have r5 := (hb.cell (p := ⟨b, off + k * 5 + 4, none⟩) lb).trans c5
    have s1 := (hb.cell (p := ⟨b', off' + k * 5, none⟩) lb').trans t1
    have s2 := (hb.cell (p := ⟨b', off' + k * 5 + 1, none⟩) lb').trans t2
    have s3 := (hb.cell (p := ⟨b', off' + k * 5 + 2, none⟩) lb').trans t3
    have s4 := (hb.cell (p := ⟨b', off' + k * 5 + 3, none⟩) lb').trans t4
    have s5 := (hb.cell (p := ⟨b', off' + k * 5 + 4, none⟩) lb').trans t5
    obtain ⟨dl, hdl⟩ : ∃ dl, Hid (dl = dat.length) := ⟨_, rfl⟩
    rw [← hdl.out] at r5 s5 hdk
    have hcl := fun (W : World) (hW : Below wr.heap.size wr W) => eqNetEvent_same kd pa di ix da da' dat dl dc dc' W (hi1.moved hW) (hi2.moved hW) hdl.out.symm hdk
    have hclA := hcl wr (Below.refl _ _)
    have hclB := hcl wr.drew (Below.refl _ _).drew
    clear hcl c1 c2 c3 c4 c5 t1 t2 t3 t4 t5 hm hm' heq he he' hi1 hi2 hc hc' h1 h2 hd
    go_wp2_with fail
    go_region_with (go_at_call 31; with_reducible (first | refine Calls.mono hclB ?_ | refine Calls.mono hclA ?_); rintro e w2 ⟨rfl, hb2⟩)
    all_goals
      have hb3 := hb.drew.trans (hb2.mono hb.size)
      clear hb hb2
      go_wp2_with fail
      go_roundw
      case rel => exact ⟨k + 1, by omega, by go_num, by first | exact hb3 | exact hb3.drew⟩
      case measure => simp [intOf]; omega
  · have hkk : ¬ (k : Int) < (n : Int) := by omega
    go_wp2_with fail
    go_ret
    exact ⟨rfl, hb⟩
/-- One answer of a row. -/
theorem OutsN.at {w : World} {base : Nat} {a : Option Addr} {n cap : Nat} {G : GotO} (h : OutsN w base (.slice a n cap) G) (hn : G.length = n) {k : Nat} (hk : k < G.length) : ∃ g, a = some ⟨g, 0, none⟩ ∧ base ≤ g ∧ g < w.heap.size ∧ w.cell? ⟨g, k * 2, none⟩ = some (.int .i64 (G[k]).1.code) ∧ w.cell? ⟨g, k * 2 + 1, none⟩ = some (G[k]).2 ∧ (∀ j, w.frozen? ⟨g, j, none⟩ = false) := by
  subst hn
  rcases h.row.2 with ⟨e, h0⟩ | ⟨g, cp', cur, e, hb, hg, _⟩
  · omega
  · simp only [Value.slice.injEq] at e
    obtain ⟨rfl, _, rfl⟩ := e
    obtain ⟨f0, f1⟩ := flatO_at hk
    exact ⟨g, rfl, hb, (h.row.lt g rfl).2, by rw [h.row.cellAt _ (by omega)]; exact f0, by rw [h.row.cellAt _ (by omega)]; exact f1, fun j => h.row.frozenAt j⟩
set_option maxHeartbeats 1000000 in
set_option maxRecDepth 100000 in
theorem eqNetOutS_same (G G' : GotO) (b1 b2 : Nat) (a a' : Option Addr) (n cap cap' : Nat) (w : World) (hn : G.length = n) (hG : G.map (·.1) = G'.map (·.1)) (h1 : OutsN w b1 (.slice a n cap) G) (h2 : OutsN w b2 (.slice a' n cap') G') (hl : n ≤ 1048576) (hd : ∀ p ∈ G, p.1.dat.length ≤ 1048576) :
    Calls Try.prog 13 #[.slice a n cap, .slice a' n cap'] w fun e w' => e = .returned (.bool true) ∧ Below w.heap.size w w' := by
  have hn' : G'.length = n := by
    have e := congrArg List.length hG
    simp only [List.length_map] at e
    omega
  have HN : Hid (G.length = n) := hn
  have HN2 : Hid (G'.length = n) := hn'
  have HG : Hid (G.map (·.1) = G'.map (·.1)) := hG
  clear hn hn' hG
  go_enter Try.func13, Try.ntmps13
  go_wp2_with fail
  go_loopw [5] (fun i wr => ∃ k : Nat, k ≤ n ∧ i = .int .i64 (k : Int) ∧ Below w.heap.size w wr) (fun i _ => n - (intOf i).toNat)
  case atStart => exact ⟨0, Nat.zero_le _, rfl, Below.refl _ _⟩
  case round =>
  obtain ⟨k, hk, rfl, hb⟩ := hrel
  by_cases hlt : k < n
  · have hk1 : k < G.length := by have := HN.out; omega
    have hk2 : k < G'.length := by have := HN2.out; omega
    obtain ⟨g, rfl, _, lg, c0, c1, _⟩ := h1.at HN.out hk1
    obtain ⟨g', rfl, _, lg', t0, t1, _⟩ := h2.at HN2.out hk2
    have hm := List.getElem_mem hk1
    have hm' := List.getElem_mem hk2
    have hdk := hd _ hm
    have hr1 := h1.dat _ hm
    have hr2 := h2.dat _ hm'
    have heq : (G[k]).1 = (G'[k]).1 := by
      have e1 : (G.map (·.1))[k]? = some (G[k]).1 := by rw [List.getElem?_map, List.getElem?_eq_getElem hk1]; rfl
      have e2 : (G'.map (·.1))[k]? = some (G'[k]).1 := by rw [List.getElem?_map, List.getElem?_eq_getElem hk2]; rfl
      rw [HG.out, e2] at e1
      exact (Option.some.inj e1).symm
    rw [← heq] at t0 hr2
    obtain ⟨⟨⟨cd, dat⟩, dv⟩, he⟩ : ∃ p, G[k] = p := ⟨_, rfl⟩
    obtain ⟨dv', he'⟩ : ∃ p, (G'[k]).2 = p := ⟨_, rfl⟩
    rw [he] at c0 c1 t0 hdk hr1 hr2
    rw [he'] at t1 hr2
    simp only at c0 c1 t0 t1 hdk hr1 hr2
    obtain ⟨da, dc, rfl⟩ := own_shape hr1
    obtain ⟨da', dc', rfl⟩ := own_shape hr2
    have hi1 := (Ints.ofRow hr1).moved hb
    have hi2 := (Ints.ofRow hr2).moved hb
    have r0 := (hb.cell (p := ⟨g, k * 2, none⟩) lg).trans c0
    have r1 := (hb.cell (p := ⟨g, k * 2 + 1, none⟩) lg).trans c1
    have s0 := (hb.cell (p := ⟨g', k * 2, none⟩) lg').trans t0
    have s1 := (hb.cell (p := ⟨g', k * 2 + 1, none⟩) lg').trans t1
    obtain ⟨dl, hdl⟩ : ∃ dl, Hid (dl = dat.length) := ⟨_, rfl⟩
    rw [← hdl.out] at r1 s1 hdk
    have hcl := fun (W : World) (hW : Below wr.heap.size wr W) => eqNetOut_same cd da da' dat dl dc dc' W (hi1.moved hW) (hi2.moved hW) hdl.out.symm hdk
    have hclA := hcl wr (Below.refl _ _)
    have hclB := hcl wr.drew (Below.refl _ _).drew
    clear hcl c0 c1 t0 t1 hm hm' heq he he' hi1 hi2 hr1 hr2 h1 h2 hd
    go_wp2_with fail
    go_region_with (go_at_call 30; with_reducible (first | refine Calls.mono hclB ?_ | refine Calls.mono hclA ?_); rintro e w2 ⟨rfl, hb2⟩)
    all_goals
      have hb3 := hb.drew.trans (hb2.mono hb.size)
      clear hb hb2
      go_wp2_with fail
      go_roundw
      case rel => exact ⟨k + 1, by omega, by go_num, by first | exact hb3 | exact hb3.drew⟩
      case measure => simp [intOf]; omega
  · have hkk : ¬ (k : Int) < (n : Int) := by omega
    go_wp2_with fail
    go_ret
    exact ⟨rfl, hb⟩
end Go.Proofs.Ytkamdaadgndmbaa
