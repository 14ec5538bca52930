import Derived.Test.YtkamdaadgndmbaaNLaw7
import Derived.Test.YtkamdaadgndmbaaNNet1
namespace Go.Proofs.Ytkamdaadgndmbaa
open Go.ChangeShapes Go.WideShapes Go.ChangeAt Go.RowKit
set_option linter.unusedVariables false

/-! ### Bags that are told -/
structure FB where
  pa : Int
  di : Int
  cut : Int
  v : Value
  g : Bg
def flatF (F : List FB) : List Value := F.flatMap fun b => [.int .i64 b.pa, .int .i64 b.di, .int .i64 b.cut, b.v]
def bgs (F : List FB) : Bgs := F.map fun b => (b.v, b.g)
def FB.told (b : FB) : Int × Int × Int × List (List Int) := (b.pa, b.di, b.cut, b.g.map (·.1))
theorem flatF_cons (b : FB) (F : List FB) : flatF (b :: F) = .int .i64 b.pa :: .int .i64 b.di :: .int .i64 b.cut :: b.v :: flatF F := rfl
theorem flatF_snoc (F : List FB) (b : FB) : flatF (F ++ [b]) = flatF F ++ [.int .i64 b.pa, .int .i64 b.di, .int .i64 b.cut, b.v] := by simp [flatF]
theorem flatF_at {F : List FB} {i : Nat} (h : i < F.length) : (flatF F)[i * 4]? = some (.int .i64 (F[i]).pa) ∧ (flatF F)[i * 4 + 1]? = some (.int .i64 (F[i]).di) ∧ (flatF F)[i * 4 + 2]? = some (.int .i64 (F[i]).cut) ∧ (flatF F)[i * 4 + 3]? = some (F[i]).v := by
  induction F generalizing i with
  | nil => simp at h
  | cons p r ih =>
    cases i with
    | zero => exact ⟨rfl, rfl, rfl, rfl⟩
    | succ i =>
      have := ih (i := i) (by simpa using h)
      rw [show (i + 1) * 4 = i * 4 + 4 by omega, flatF_cons]
      simpa using this
structure OutsF (w : World) (base : Nat) (ov : Value) (F : List FB) : Prop where
  row : w.ownsRow base 41 4 ov F.length (flatF F)
  bags : Bags w base (bgs F)
theorem OutsF.keep {w w' : World} {base : Nat} {ov : Value} {F : List FB} (h : OutsF w base ov F) (hb : ∀ k, base ≤ k → k < w.heap.size → w'.heap[k]? = w.heap[k]?) : OutsF w' base ov F :=
  ⟨row_stays h.row fun k hk => hb k (h.row.lt k hk).1 (h.row.lt k hk).2, h.bags.stays fun k cs t h1 _ hk => hb k h1 (Array.getElem?_eq_some_iff.1 hk).1⟩
theorem OutsF.at {w : World} {base : Nat} {a : Option Addr} {n cap : Nat} {F : List FB} (h : OutsF w base (.slice a n cap) F) (hn : F.length = n) {k : Nat} (hk : k < F.length) : ∃ g, a = some ⟨g, 0, none⟩ ∧ base ≤ g ∧ g < w.heap.size ∧ w.cell? ⟨g, k * 4, none⟩ = some (.int .i64 (F[k]).pa) ∧ w.cell? ⟨g, k * 4 + 1, none⟩ = some (.int .i64 (F[k]).di) ∧ w.cell? ⟨g, k * 4 + 2, none⟩ = some (.int .i64 (F[k]).cut) ∧ w.cell? ⟨g, k * 4 + 3, none⟩ = some (F[k]).v ∧ (∀ j, w.frozen? ⟨g, j, none⟩ = false) := by
  subst hn
  rcases h.row.2 with ⟨e, h0⟩ | ⟨g, cp', cur, e, hb, hg, _⟩
  · omega
  · simp only [Value.slice.injEq] at e
    obtain ⟨rfl, _, rfl⟩ := e
    obtain ⟨f0, f1, f2, f3⟩ := flatF_at hk
    exact ⟨g, rfl, hb, (h.row.lt g rfl).2, by rw [h.row.cellAt _ (by omega)]; exact f0, by rw [h.row.cellAt _ (by omega)]; exact f1, by rw [h.row.cellAt _ (by omega)]; exact f2, by rw [h.row.cellAt _ (by omega)]; exact f3, fun j => h.row.frozenAt j⟩
/-- A bag's row and its datagrams. -/
structure RowB (w : World) (base : Nat) (v : Value) (g : Bg) : Prop where
  row : w.ownsRow base 22 1 v g.length (g.map (·.2))
  dat : ∀ q ∈ g, w.ownsRow base 5 1 q.2 q.1.length (q.1.map (.int .u8))
theorem RowB.below {w w' : World} {base : Nat} {v : Value} {g : Bg} (h : RowB w base v g) (hb : Below w.heap.size w w') : RowB w' base v g :=
  ⟨row_stays h.row fun k hk => hb.block k (h.row.lt k hk).2, fun q hq => row_stays (h.dat q hq) fun k hk => hb.block k ((h.dat q hq).lt k hk).2⟩
theorem OutsF.rowB {w : World} {base : Nat} {ov : Value} {F : List FB} (h : OutsF w base ov F) {b : FB} (hb : b ∈ F) : RowB w base b.v b.g :=
  ⟨h.bags.row (b.v, b.g) (List.mem_map.2 ⟨b, hb, rfl⟩), h.bags.dat (b.v, b.g) (List.mem_map.2 ⟨b, hb, rfl⟩)⟩
set_option maxHeartbeats 1000000 in
set_option maxRecDepth 100000 in
theorem eqByteSS_same (G G' : Bg) (b1 b2 : Nat) (a a' : Option Addr) (n cap cap' : Nat) (w : World) (hn : G.length = n) (hG : G.map (·.1) = G'.map (·.1)) (h1 : RowB w b1 (.slice a n cap) G) (h2 : RowB w b2 (.slice a' n cap') G') (hl : n ≤ 1048576) (hd : ∀ p ∈ G, p.1.length ≤ 1048576) :
    Calls Try.prog 51 #[.slice a n cap, .slice a' n cap'] w fun e w' => e = .returned (.bool true) ∧ Below w.heap.size w w' := by
  have hn' : G'.length = n := by
    have e := congrArg List.length hG
    simp only [List.length_map] at e
    omega
  have HN : Hid (G.length = n) := hn
  have HN2 : Hid (G'.length = n) := hn'
  have HG : Hid (G.map (·.1) = G'.map (·.1)) := hG
  clear hn hn' hG
  go_enter Try.func51, Try.ntmps51
  go_wp2_with fail
  go_loopw [5] (fun i wr => ∃ k : Nat, k ≤ n ∧ i = .int .i64 (k : Int) ∧ Below w.heap.size w wr) (fun i _ => n - (intOf i).toNat)
  case atStart => exact ⟨0, Nat.zero_le _, rfl, Below.refl _ _⟩
  case round =>
  obtain ⟨k, hk, rfl, hb⟩ := hrel
  by_cases hlt : k < n
  · have hk1 : k < G.length := by have := HN.out; omega
    have hk2 : k < G'.length := by have := HN2.out; omega
    have hm := List.getElem_mem hk1
    have hm' := List.getElem_mem hk2
    have hdk := hd _ hm
    have hr1 := h1.dat _ hm
    have hr2 := h2.dat _ hm'
    have hrow1 := h1.row
    have hrow2 := h2.row
    rw [HN.out] at hrow1
    rw [HN2.out] at hrow2
    rcases hrow1.2 with ⟨e, _⟩ | ⟨g, cp', cur, e, hgb, hgh, _⟩
    · simp only [Value.slice.injEq] at e; omega
    simp only [Value.slice.injEq] at e
    obtain ⟨rfl, -, e9⟩ := e
    subst e9
    rcases hrow2.2 with ⟨e, _⟩ | ⟨g', cp'', cur', e, hgb', hgh', _⟩
    · simp only [Value.slice.injEq] at e; omega
    simp only [Value.slice.injEq] at e
    obtain ⟨rfl, -, e9⟩ := e
    subst e9
    have c0 : w.cell? ⟨g, k, none⟩ = some (G[k]).2 := by rw [hrow1.cellAt k (by omega), List.getElem?_map, List.getElem?_eq_getElem hk1]; rfl
    have t0 : w.cell? ⟨g', k, none⟩ = some (G'[k]).2 := by rw [hrow2.cellAt k (by omega), List.getElem?_map, List.getElem?_eq_getElem hk2]; rfl
    have heq : (G[k]).1 = (G'[k]).1 := by
      have e1 : (G.map (·.1))[k]? = some (G[k]).1 := by rw [List.getElem?_map, List.getElem?_eq_getElem hk1]; rfl
      have e2 : (G'.map (·.1))[k]? = some (G'[k]).1 := by rw [List.getElem?_map, List.getElem?_eq_getElem hk2]; rfl
      rw [HG.out, e2] at e1
      exact (Option.some.inj e1).symm
    rw [← heq] at hr2
    obtain ⟨⟨dat, dv⟩, he⟩ : ∃ p, G[k] = p := ⟨_, rfl⟩
    obtain ⟨dv', he'⟩ : ∃ p, (G'[k]).2 = p := ⟨_, rfl⟩
    rw [he] at c0 hdk hr1 hr2
    rw [he'] at t0 hr2
    simp only at c0 t0 hdk hr1 hr2
    obtain ⟨da, dc, rfl⟩ := own_shape hr1
    obtain ⟨da', dc', rfl⟩ := own_shape hr2
    have hi1 := (Ints.ofRow hr1).moved hb
    have hi2 := (Ints.ofRow hr2).moved hb
    have r0 := (hb.cell (World.block_lt_of_cell? _ _ c0)).trans c0
    have s0 := (hb.cell (World.block_lt_of_cell? _ _ t0)).trans t0
    have hcl := fun (W : World) (hW : Below wr.heap.size wr W) => eqByteS_same da da' dat dc dc' W (hi1.moved hW) (hi2.moved hW) hdk
    have hclA := hcl wr (Below.refl _ _)
    have hclB := hcl wr.drew (Below.refl _ _).drew
    obtain ⟨dl, hdl⟩ : ∃ dl, Hid (dat.length = dl) := ⟨_, rfl⟩
    rw [hdl.out] at r0 s0 hdk hclA hclB
    clear hcl c0 t0 hm hm' heq he he' hi1 hi2 hr1 hr2 h1 h2 hd hrow1 hrow2 hgh hgh'
    go_wp2_with fail
    go_region_with (go_at_call 48; with_reducible (first | refine Calls.mono hclB ?_ | refine Calls.mono hclA ?_); rintro e w2 ⟨rfl, hb2⟩)
    all_goals
      have hb3 := hb.drew.trans (hb2.mono hb.size)
      clear hb hb2
      go_wp2_with fail
      go_roundw
      case rel => exact ⟨k + 1, by omega, by go_num, by first | exact hb3 | exact hb3.drew⟩
      case measure => simp [intOf]; omega
  · have hkk : ¬ (k : Int) < (n : Int) := by omega
    go_wp2_with fail
    go_ret
    exact ⟨rfl, hb⟩
end Go.Proofs.Ytkamdaadgndmbaa
