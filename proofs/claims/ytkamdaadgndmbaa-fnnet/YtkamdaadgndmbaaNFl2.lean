import Derived.Test.YtkamdaadgndmbaaNFl1
namespace Go.Proofs.Ytkamdaadgndmbaa
open Go.ChangeShapes Go.WideShapes Go.ChangeAt Go.RowKit
set_option linter.unusedVariables false

theorem cells4r {w : World} {B : Nat} {t : TypeId} {x0 x1 x2 x3 : Value} (h : w.heap[B]? = some (.cells #[x0, x1, x2, x3] t (0, 0))) :
    (w.cell? ⟨B, 0, none⟩ = some x0 ∧ w.cell? ⟨B, 1, none⟩ = some x1 ∧ w.cell? ⟨B, 2, none⟩ = some x2 ∧ w.cell? ⟨B, 3, none⟩ = some x3) ∧ (∀ j, w.frozen? ⟨B, j, none⟩ = false) :=
  ⟨⟨Go.Joins.cell_of_block h 0, Go.Joins.cell_of_block h 1, Go.Joins.cell_of_block h 2, Go.Joins.cell_of_block h 3⟩, fun j => Go.Joins.unfrozen_of_block h _⟩
set_option maxHeartbeats 400000 in
theorem eqBag_same (p d c : Int) (G G' : Bg) (b1 b2 : Nat) (a a' : Option Addr) (n cap cap' : Nat) (w : World) (hn : G.length = n) (hG : G.map (·.1) = G'.map (·.1)) (h1 : RowB w b1 (.slice a n cap) G) (h2 : RowB w b2 (.slice a' n cap') G') (hl : n ≤ 1048576) (hd : ∀ p ∈ G, p.1.length ≤ 1048576) :
    Calls Try.prog 35 #[.agg #[.int .i64 p, .int .i64 d, .int .i64 c, .slice a n cap], .agg #[.int .i64 p, .int .i64 d, .int .i64 c, .slice a' n cap']] w fun e w' => e = .returned (.bool true) ∧ Below w.heap.size w w' := by
  have hb0 : Below w.heap.size w ((w.alloc (.cells #[.int .i64 p, .int .i64 d, .int .i64 c, .slice a n cap] 41)).alloc (.cells #[.int .i64 p, .int .i64 d, .int .i64 c, .slice a' n cap'] 41)) := ((Below.refl _ _).alloc (Nat.le_refl _) _).alloc (by simp) _
  have hcall := eqByteSS_same G G' b1 b2 a a' n cap cap' _ hn hG (h1.below hb0) (h2.below hb0) hl hd
  clear h1 h2 hn hG hd
  go_enter Try.func35, Try.ntmps35
  go_wp2_with fail
  refine hcall.mono ?_
  rintro e w1 ⟨rfl, hb1⟩
  have hB := hb0.trans (hb1.mono hb0.size)
  clear hcall
  go_wp2_with fail
  go_ret
  exact ⟨rfl, hB⟩
set_option maxHeartbeats 1000000 in
set_option maxRecDepth 100000 in
theorem eqBagS_same (G G' : List FB) (b1 b2 : Nat) (a a' : Option Addr) (n cap cap' : Nat) (w : World) (hn : G.length = n) (hG : G.map FB.told = G'.map FB.told) (h1 : OutsF w b1 (.slice a n cap) G) (h2 : OutsF w b2 (.slice a' n cap') G') (hl : n ≤ 1048576) (hd : ∀ p ∈ G, p.g.length ≤ 1048576 ∧ ∀ q ∈ p.g, q.1.length ≤ 1048576) :
    Calls Try.prog 19 #[.slice a n cap, .slice a' n cap'] w fun e w' => e = .returned (.bool true) ∧ Below w.heap.size w w' := by
  have hn' : G'.length = n := by
    have e := congrArg List.length hG
    simp only [List.length_map] at e
    omega
  have HN : Hid (G.length = n) := hn
  have HN2 : Hid (G'.length = n) := hn'
  have HG : Hid (G.map FB.told = G'.map FB.told) := hG
  clear hn hn' hG
  go_enter Try.func19, Try.ntmps19
  go_wp2_with fail
  go_loopw [5] (fun i wr => ∃ k : Nat, k ≤ n ∧ i = .int .i64 (k : Int) ∧ Below w.heap.size w wr) (fun i _ => n - (intOf i).toNat)
  case atStart => exact ⟨0, Nat.zero_le _, rfl, Below.refl _ _⟩
  case round =>
  obtain ⟨k, hk, rfl, hb⟩ := hrel
  by_cases hlt : k < n
  · have hk1 : k < G.length := by have := HN.out; omega
    have hk2 : k < G'.length := by have := HN2.out; omega
    obtain ⟨g, rfl, _, lg, c0, c1, c2, c3, _⟩ := h1.at HN.out hk1
    obtain ⟨g', rfl, _, lg', t0, t1, t2, t3, _⟩ := h2.at HN2.out hk2
    have hm := List.getElem_mem hk1
    have hm' := List.getElem_mem hk2
    obtain ⟨hdl, hdk⟩ := hd _ hm
    have hr1 := h1.rowB hm
    have hr2 := h2.rowB hm'
    have heq : (G[k]).told = (G'[k]).told := by
      have e1 : (G.map FB.told)[k]? = some (G[k]).told := by rw [List.getElem?_map, List.getElem?_eq_getElem hk1]; rfl
      have e2 : (G'.map FB.told)[k]? = some (G'[k]).told := by rw [List.getElem?_map, List.getElem?_eq_getElem hk2]; rfl
      rw [HG.out, e2] at e1
      exact (Option.some.inj e1).symm
    obtain ⟨⟨p, d, c, v, B⟩, he⟩ : ∃ q, G[k] = q := ⟨_, rfl⟩
    obtain ⟨⟨p', d', c', v', B'⟩, he'⟩ : ∃ q, G'[k] = q := ⟨_, rfl⟩
    rw [he] at c0 c1 c2 c3 hdl hdk hr1 heq
    rw [he'] at t0 t1 t2 t3 hr2 heq
    simp only [FB.told, Prod.mk.injEq] at c0 c1 c2 c3 t0 t1 t2 t3 hdl hdk hr1 hr2 heq
    obtain ⟨rfl, rfl, rfl, hBB⟩ := heq
    obtain ⟨da, dc, rfl⟩ := own_shape hr1.row
    obtain ⟨da', dc', rfl⟩ := own_shape hr2.row
    have hBl : B'.length = B.length := by have := congrArg List.length hBB; simpa using this.symm
    rw [hBl] at t3 hr2
    have r0 := (hb.cell (p := ⟨g, k * 4, none⟩) lg).trans c0
    have r1 := (hb.cell (p := ⟨g, k * 4 + 1, none⟩) lg).trans c1
    have r2 := (hb.cell (p := ⟨g, k * 4 + 2, none⟩) lg).trans c2
    have r3 := (hb.cell (p := ⟨g, k * 4 + 3, none⟩) lg).trans c3
    have s0 := (hb.cell (p := ⟨g', k * 4, none⟩) lg').trans t0
    have s1 := (hb.cell (p := ⟨g', k * 4 + 1, none⟩) lg').trans t1
    have s2 := (hb.cell (p := ⟨g', k * 4 + 2, none⟩) lg').trans t2
    have s3 := (hb.cell (p := ⟨g', k * 4 + 3, none⟩) lg').trans t3
    have hx1 := (hr1.below ⟨hb.os, hb.tape, hb.output, hb.size, hb.block⟩)
    have hx2 := (hr2.below ⟨hb.os, hb.tape, hb.output, hb.size, hb.block⟩)
    obtain ⟨dl, hdle⟩ : ∃ dl, B.length = dl := ⟨_, rfl⟩
    rw [hdle] at r3 s3 hdl hx1 hx2
    have hcl := fun (W : World) (hW : Below wr.heap.size wr W) => eqBag_same p d c B B' _ _ da da' dl dc dc' W hdle hBB (hx1.below hW) (hx2.below hW) hdl hdk
    have hclA := hcl wr (Below.refl _ _)
    have hclB := hcl wr.drew (Below.refl _ _).drew
    clear hcl c0 c1 c2 c3 t0 t1 t2 t3 hm hm' he he' hr1 hr2 h1 h2 hd hx1 hx2 hBB hBl hdk hdle
    go_wp2_with fail
    go_region_with (go_at_call 35; with_reducible (first | refine Calls.mono hclB ?_ | refine Calls.mono hclA ?_); rintro e w2 ⟨rfl, hb2⟩)
    all_goals
      have hb3 := hb.drew.trans (hb2.mono hb.size)
      clear hb hb2
      go_wp2_with fail
      go_roundw
      case rel => exact ⟨k + 1, by omega, by go_num, by first | exact hb3 | exact hb3.drew⟩
      case measure => simp [intOf]; omega
  · have hkk : ¬ (k : Int) < (n : Int) := by omega
    go_wp2_with fail
    go_ret
    exact ⟨rfl, hb⟩
end Go.Proofs.Ytkamdaadgndmbaa
