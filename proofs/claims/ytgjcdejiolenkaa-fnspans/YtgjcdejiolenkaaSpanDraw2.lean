import Derived.Test.YtgjcdejiolenkaaSpanDraw1
import Derived.Deep.RegionHeld3
import Derived.Lib.SmallJoins
namespace Go.Proofs.Ytgjcdejiolenkaa
open Go.ChangeShapes Go.WideShapes Go.ChangeAt Go.RowKit
set_option linter.unusedVariables false

def bigS (n : Nat) : Sp := (List.range n).map fun (i : Nat) => (4 * (i : Int) + 2, 4 * (i : Int) + 4)
theorem bigS_length (n : Nat) : (bigS n).length = n := by simp [bigS]
theorem bigS_succ (n : Nat) : bigS (n + 1) = bigS n ++ [(4 * (n : Int) + 2, 4 * (n : Int) + 4)] := by simp [bigS, List.range_succ]
theorem bigS_fits (n : Nat) (h : n ≤ 1001) : Fits (bigS n) := by
  intro p hp
  simp only [bigS, List.mem_map, List.mem_range] at hp
  obtain ⟨i, hi, rfl⟩ := hp
  exact ⟨by omega, by omega, by omega, by omega⟩
/-- Where the drawn span begins. -/
def baseF (zs : List Int) (S : Sp) (σ : Src) : Int × Src :=
  let x := nextF zs σ 90
  if 0 < S.length then
    let y := nextF zs x.2 3
    if 0 < y.1 then
      let z := nextF zs y.2 S.length
      let t := nextF zs z.2 2
      let u := nextF zs t.2 3
      (IntKind.u64.wrap (IntKind.u64.wrap ((if t.1 = 0 then (S.getD z.1.toNat (0, 0)).2 else (S.getD z.1.toNat (0, 0)).1) + u.1) - 1), u.2)
    else (x.1, y.2)
  else x
/-- The last turn: the set and the span. -/
def lastF (zs : List Int) (S : Sp) (p q k : Int) (σ : Src) : Sp × Int × Int :=
  if k = 0 then (S, p, IntKind.u64.wrap (p - 1))
  else if k = 1 then (S, p, 18446744073709551615)
  else if k = 2 then (S, 0, 18446744073709551615)
  else if k = 3 ∧ 1 < S.length then
    let i := nextF zs σ ((S.length : Int) - 1)
    let z := nextF zs i.2 2
    (S.set (i.1.toNat + 1) (IntKind.u64.wrap ((S.getD i.1.toNat (0, 0)).2 - z.1), (S.getD (i.1.toNat + 1) (0, 0)).2), p, q)
  else if k = 4 ∧ 0 < S.length then (S.set 0 ((S.getD 0 (0, 0)).1, (S.getD 0 (0, 0)).1), p, q)
  else (S, p, q)
def argsF (zs : List Int) : Sp × Int × Int :=
  let r := setF zs (0, seedTo zs zs.length)
  let y := nextF zs r.2 20
  if y.1 = 0 then
    let n := nextF zs y.2 3
    let x := nextF zs n.2 4100
    let c := nextF zs x.2 3
    let d := nextF zs c.2 2
    (bigS (999 + n.1.toNat), x.1, IntKind.u64.wrap (IntKind.u64.wrap (x.1 + c.1) + d.1 * 5000))
  else
    let b := baseF zs r.1 y.2
    let c := nextF zs b.2 25
    let k := nextF zs c.2 20
    lastF zs r.1 b.1 (IntKind.u64.wrap (b.1 + c.1)) k.1 k.2

/-- What is carried along: the source, the answer's box, the set's row. -/
structure CarS (w wi : World) (b : Nat) (a : Option Addr) (n cap : Nat) (σ : Src) (av : Option Addr) (cp m : Nat) (S : Sp) : Prop where
  d : DrawAt w wi b a n cap σ
  r : wi.heap[w.heap.size]? = some (.cells #[.int .u64 0, .int .u64 0] 31 (0, 0))
  s : wi.ownsRow (b + 1) 31 2 (.slice av m cp) m (flat S)
  lt : w.heap.size < b
section
variable {w wi wj : World} {b : Nat} {a : Option Addr} {n cap : Nat} {σ τ : Src} {av : Option Addr} {cp m : Nat} {S : Sp}
theorem CarS.call (h : CarS w wi b a n cap σ av cp m S) (hd : DrawAt w wj b a n cap τ) (hg : wi.grownBy wj (some b)) : CarS w wj b a n cap τ av cp m S :=
  ⟨hd, (hg.block _ (Array.getElem?_eq_some_iff.1 h.r).1 (by have := h.lt; simp; omega)).trans h.r, kept_new h.s hg (by omega), h.lt⟩
theorem CarS.alloc (h : CarS w wi b a n cap σ av cp m S) (o : Obj) : CarS w (wi.alloc o) b a n cap σ av cp m S :=
  ⟨h.d.grown (World.grownBy_alloc wi o none) (by simp), (Below.heap_alloc _ _ _ (Array.getElem?_eq_some_iff.1 h.r).1).trans h.r, h.s.alloc o, h.lt⟩
theorem CarS.drew (h : CarS w wi b a n cap σ av cp m S) : CarS w wi.drew b a n cap σ av cp m S := ⟨h.d.drew, h.r, h.s, h.lt⟩
/-- A store into another box behind the source. -/
theorem CarS.put (h : CarS w wi b a n cap σ av cp m S) {k i : Nat} (hk : b < k) (hr : (Value.slice av m cp).ownBlock ≠ some k) (v : Value) : CarS w (wi.setCell ⟨k, i, none⟩ v) b a n cap σ av cp m S := by
  have h1 := h.lt
  refine ⟨h.d.grown (grown_set wi k i v) (fun k' hk' => by have := Option.some.inj hk'; omega), ?_, ?_, h.lt⟩
  · rw [heap_setCell_other _ _ _ _ (by simp; omega)]
    exact h.r
  · refine h.s.kept (grown_set wi k i v) ?_
    cases hv : (Value.slice av m cp).ownBlock with
    | none => exact .inl rfl
    | some j => exact .inr fun e => hr (by rw [hv, e])
theorem CarS.grow (h : CarS w wi b a n cap σ av cp m S) (o : Obj) (hg : (wi.alloc o).grownBy wj (Value.slice av m cp).ownBlock) {av' : Option Addr} {cp' m' : Nat} {S' : Sp} (ho : wj.ownsRow (b + 1) 31 2 (.slice av' m' cp') m' (flat S')) : CarS w wj b a n cap σ av' cp' m' S' := by
  have h1 := h.alloc o
  have hlt := h.lt
  have hr : ∀ k, (Value.slice av m cp).ownBlock = some k → b + 1 ≤ k := fun k hk => (h.s.lt k hk).1
  exact ⟨h1.d.grown hg (fun k hk => by have := hr k hk; omega), (hg.block _ (Array.getElem?_eq_some_iff.1 h1.r).1 (fun e => by have := hr _ e.symm; omega)).trans h1.r, ho, h.lt⟩
/-- The answer's box is filled. -/
theorem CarS.fill (h : CarS w wi b a n cap σ av cp m S) (p q : Int) :
    ((wi.setCell ⟨w.heap.size, 0, none⟩ (.int .u64 p)).setCell ⟨w.heap.size, 1, none⟩ (.int .u64 q)).cell? ⟨w.heap.size, 0, none⟩ = some (.int .u64 p) ∧
    ((wi.setCell ⟨w.heap.size, 0, none⟩ (.int .u64 p)).setCell ⟨w.heap.size, 1, none⟩ (.int .u64 q)).cell? ⟨w.heap.size, 1, none⟩ = some (.int .u64 q) ∧
    ((wi.setCell ⟨w.heap.size, 0, none⟩ (.int .u64 p)).setCell ⟨w.heap.size, 1, none⟩ (.int .u64 q)).ownsRow w.heap.size 31 2 (.slice av m cp) m (flat S) ∧
    Below w.heap.size w ((wi.setCell ⟨w.heap.size, 0, none⟩ (.int .u64 p)).setCell ⟨w.heap.size, 1, none⟩ (.int .u64 q)) := by
  have h0 := heap_setCell_same wi w.heap.size 0 _ _ (.int .u64 p) h.r
  have h1 := heap_setCell_same _ w.heap.size 1 _ _ (.int .u64 q) h0
  have hlt := h.lt
  refine ⟨Go.Joins.cell_of_block h1 0, Go.Joins.cell_of_block h1 1, ?_, (h.d.bel.setCell (Nat.le_refl _) _).setCell (Nat.le_refl _) _⟩
  exact owned_base (kept_new (kept_new h.s (grown_set wi w.heap.size 0 _) (by omega)) (grown_set _ w.heap.size 1 _) (by omega)) (by omega)
theorem CarS.box (h : CarS w wi b a n cap σ av cp m S) : (wi.cell? ⟨w.heap.size, 0, none⟩ = some (.int .u64 0) ∧ wi.cell? ⟨w.heap.size, 1, none⟩ = some (.int .u64 0)) ∧ wi.frozen? ⟨w.heap.size, 0, none⟩ = false ∧ wi.frozen? ⟨w.heap.size, 1, none⟩ = false :=
  ⟨⟨Go.Joins.cell_of_block h.r 0, Go.Joins.cell_of_block h.r 1⟩, Go.Joins.unfrozen_of_block h.r _, Go.Joins.unfrozen_of_block h.r _⟩
end
theorem flat_lo (S : Sp) (j : Nat) (hj : j < S.length) (y : Int) : (flat S).set (j * 2) (.int .u64 y) = flat (S.set j (y, (S[j]).2)) := by
  rw [← flat_set S j _ hj]
  have h := (flat_at hj).2
  have hs : ∀ (l : List Value) (j : Nat) (x : Value), l[j]? = some x → l.set j x = l := fun l j x hj => by
    obtain ⟨hl, he⟩ := List.getElem?_eq_some_iff.1 hj
    rw [← he, List.set_getElem_self]
  exact (hs ((flat S).set (j * 2) (.int .u64 y)) (j * 2 + 1) (.int .u64 (S[j]).2) (by rw [List.getElem?_set_ne (by omega)]; exact h)).symm
theorem flat_hi (S : Sp) (j : Nat) (hj : j < S.length) (y : Int) : (flat S).set (j * 2 + 1) (.int .u64 y) = flat (S.set j ((S[j]).1, y)) := by
  rw [← flat_set S j _ hj]
  have h := (flat_at hj).1
  have hs : ∀ (l : List Value) (j : Nat) (x : Value), l[j]? = some x → l.set j x = l := fun l j x hj => by
    obtain ⟨hl, he⟩ := List.getElem?_eq_some_iff.1 hj
    rw [← he, List.set_getElem_self]
  rw [hs _ _ _ h]
theorem row_at {w : World} {base : Nat} {e : TypeId} {g n cap : Nat} {S : Sp} (hn : S.length = n) (h : w.ownsRow base e 2 (.slice (some ⟨g, 0, none⟩) n cap) n (flat S)) {j : Nat} (hj : j < n) :
    w.cell? ⟨g, j * 2, none⟩ = some (.int .u64 (S.getD j (0, 0)).1) ∧ w.cell? ⟨g, j * 2 + 1, none⟩ = some (.int .u64 (S.getD j (0, 0)).2) := by
  subst hn
  obtain ⟨h1, h2⟩ := flat_at hj
  have e : S.getD j (0, 0) = S[j] := by simp [hj]
  rw [e]
  exact ⟨by rw [h.cellAt _ (by omega)]; exact h1, by rw [h.cellAt _ (by omega)]; exact h2⟩
theorem getD_fits {S : Sp} (hf : Fits S) (j : Nat) : 0 ≤ (S.getD j (0, 0)).1 ∧ (S.getD j (0, 0)).1 ≤ 18446744073709551615 ∧ 0 ≤ (S.getD j (0, 0)).2 ∧ (S.getD j (0, 0)).2 ≤ 18446744073709551615 := by
  by_cases h : j < S.length
  · have e : S.getD j (0, 0) = S[j] := by simp [h]
    rw [e]
    exact hf _ (List.getElem_mem h)
  · have e : S.getD j (0, 0) = (0, 0) := by simp [h]
    rw [e]
    simp
theorem row_some {w : World} {base : Nat} {e : TypeId} {size : Nat} {av : Option Addr} {n cap : Nat} {xs : List Value} (h : w.ownsRow base e size (.slice av n cap) n xs) (hn : 0 < n) : ∃ g, av = some ⟨g, 0, none⟩ := by
  rcases h.2 with ⟨h', h0⟩ | ⟨g, cap', cur, h', _⟩
  · omega
  · simp only [Value.slice.injEq] at h'
    exact ⟨g, h'.1⟩

set_option maxHeartbeats 1000000 in
set_option maxRecDepth 100000 in
theorem drawArgs_at (a : Option Addr) (zs : List Int) (cap : Nat) (w : World) (hz : Ints .u8 w a zs) (hv : ∀ x ∈ zs, 0 ≤ x ∧ x ≤ 255) (hl : zs.length ≤ 2000000) :
    Calls Try.prog 38 #[.slice a zs.length cap] w fun e w' => ∃ (av : Option Addr) (cp n : Nat) (S : Sp) (p q : Int), e = .returned (.tuple #[.slice av n cp, .agg #[.int .u64 p, .int .u64 q]]) ∧ Hid (argsF zs = (S, p, q)) ∧ S.length = n ∧ (n ≤ 12 ∨ (999 ≤ n ∧ n ≤ 1001)) ∧ Fits S ∧
      (0 ≤ p ∧ p ≤ 18446744073709551615) ∧ (0 ≤ q ∧ q ≤ 18446744073709551615) ∧ w'.ownsRow w.heap.size 31 2 (.slice av n cp) n (flat S) ∧ Below w.heap.size w w' := by
  have hb0 : Below w.heap.size w (w.alloc (.cells #[.int .u64 0, .int .u64 0] 31)) := (Below.refl _ _).alloc (Nat.le_refl _) _
  have hR0 := heap_alloc_new w (.cells #[.int .u64 0, .int .u64 0] 31)
  have hs0 : (w.alloc (.cells #[.int .u64 0, .int .u64 0] 31)).heap.size = w.heap.size + 1 := by simp
  obtain ⟨V, hV⟩ : ∃ V, V = w.alloc (.cells #[.int .u64 0, .int .u64 0] 31) := ⟨_, rfl⟩
  rw [← hV] at hb0 hR0 hs0
  have hzV := hz.moved hb0
  have hbeg := begin_at V a zs cap hzV hv hl
  go_enter Try.func38, Try.ntmps38
  go_wp2_with fail
  rw [← hV]
  clear hV
  refine hbeg.mono ?_
  rintro e w1 ⟨rfl, hb1⟩
  have hbw1 := hb0.trans (hb1.mono hb0.size)
  have hd1 := drawAt_start hbw1 a zs zs.length cap
  have hs1 := hb1.size
  have hR1 := (Below.heap_alloc w1 (.cells #[.slice a zs.length cap, .int .i64 0, .int .u64 (seedTo zs zs.length)] 59) _ (by omega)).trans ((hb1.block _ (by omega)).trans hR0)
  have hsz : w1.heap.size + 1 = (w1.alloc (.cells #[.slice a zs.length cap, .int .i64 0, .int .u64 (seedTo zs zs.length)] 59)).heap.size := by simp
  have hds := drawSet_at w _ w1.heap.size a zs cap _ hd1 hz hv hl
  clear hbeg hb0 hR0 hb1 hzV
  go_wp2_with fail
  refine hds.mono ?_
  rintro e w2 ⟨av, cp, n, S, σ2, rfl, HS, hSn, hn12, hfS, hrow, hd2, hg2⟩
  have hC2 : CarS w w2 w1.heap.size a zs.length cap σ2 av cp n S := ⟨hd2, (hg2.block _ (by omega) (by simp; omega)).trans hR1, owned_base hrow (by omega), by omega⟩
  clear hds hd1 hR1 hrow hd2 hg2
  have HSN : Hid (S.length = n) := hSn
  clear hSn
  obtain ⟨b, hb⟩ : ∃ b, b = w1.heap.size := ⟨_, rfl⟩
  rw [← hb] at hC2 ⊢
  have hwb : w.heap.size < b := hC2.lt
  clear hb hsz hs0 hs1 hbw1
  go_wp2_with fail
  refine (next_at w _ b a zs cap σ2 20 hC2.d hz hv hl (by omega) (by omega)).mono ?_
  rintro e w3 ⟨r3, σ3, rfl, N3, l3, u3, hd3, g3⟩
  have hC3 := hC2.call hd3 g3
  clear hC2 hd3 g3
  by_cases h3 : r3 = 0
  case pos =>
    subst h3
    go_wp2_with fail
    refine (next_at w _ b a zs cap σ3 3 hC3.d hz hv hl (by omega) (by omega)).mono ?_
    rintro e w4 ⟨r4, σ4, rfl, N4, l4, u4, hd4, g4⟩
    have hC4 := hC3.call hd4 g4
    obtain ⟨m, rfl⟩ : ∃ m : Nat, r4 = (m : Int) := ⟨r4.toNat, by omega⟩
    have hC5 : CarS w w4 b a zs.length cap σ4 none 0 0 (bigS 0) := ⟨hd4, hC4.r, World.ownsRow_nil w4 (b + 1) 31 2, hwb⟩
    clear hC3 hC4 hd4 g4
    go_wp2_with fail
    go_loopw [5, 7] (fun ov iv wr => ∃ (k : Nat) (av' : Option Addr) (cp' : Nat), k ≤ 999 + m ∧ iv = .int .i64 (k : Int) ∧ ov = .slice av' k cp' ∧ CarS w wr b a zs.length cap σ4 av' cp' k (bigS k)) (fun _ iv _ => 999 + m - (intOf iv).toNat)
    case atStart => exact ⟨0, none, 0, Nat.zero_le _, rfl, rfl, hC5⟩
    case round =>
    clear hC5
    obtain ⟨k, av', cp', hk, rfl, rfl, hC⟩ := hrel
    by_cases hlt : k < 999 + m
    case pos =>
      have hki : (k : Int) < 999 + (m : Int) := by omega
      have hsz := hC.d.lt
      go_wp2_with (at_builtin; refine wpList_appS _ rfl _ _ (by rfl) (b + 1) av' k cp' (bigS k) (bigS_length k) (4 * (k : Int) + 2) (4 * (k : Int) + 4) (by rfl) (hC.s.alloc _) wr.heap.size (by rfl) (cell_alloc2 _ _ _ _ _ rfl).1 (cell_alloc2 _ _ _ _ _ rfl).2 (by omega) (by simp; omega) ?_; intro g6 cap6 w6 ho6 hg6)
      have hC6 := hC.grow _ hg6 ho6
      rw [← bigS_succ] at hC6
      go_roundw
      case rel => exact ⟨k + 1, _, _, by omega, by go_num, rfl, hC6⟩
      case measure => simp [intOf]; omega
    case neg =>
    obtain rfl : k = 999 + m := by omega
    have hkk : ¬ ((999 + m : Nat) : Int) < 999 + (m : Int) := by omega
    go_wp2_with fail
    refine (next_at w _ b a zs cap σ4 4100 hC.d hz hv hl (by omega) (by omega)).mono ?_
    rintro e w5 ⟨r5, σ5, rfl, N5, l5, u5, hd5, g5⟩
    have hC5 := hC.call hd5 g5
    go_wp2_with fail
    refine (next_at w _ b a zs cap σ5 3 hC5.d hz hv hl (by omega) (by omega)).mono ?_
    rintro e w6 ⟨r6, σ6, rfl, N6, l6, u6, hd6, g6⟩
    have hC6 := hC5.call hd6 g6
    go_wp2_with fail
    refine (next_at w _ b a zs cap σ6 2 hC6.d hz hv hl (by omega) (by omega)).mono ?_
    rintro e w7 ⟨r7, σ7, rfl, N7, l7, u7, hd7, g7⟩
    have hC7 := hC6.call hd7 g7
    have hq : IntKind.u64.wrap (IntKind.u64.wrap (r5 + r6) + r7 * 5000) = r5 + r6 + r7 * 5000 := by rw [IntKind.wrap_u64, IntKind.wrap_u64]; omega
    have HE : Hid (argsF zs = (bigS (999 + m), r5, r5 + r6 + r7 * 5000)) := by
      unfold Hid argsF
      simp only [HS.out, N3.out, N4.out, N5.out, N6.out, N7.out, if_pos, Int.toNat_natCast, hq]
    obtain ⟨⟨x0, x1⟩, y0, y1⟩ := hC7.box
    obtain ⟨z0, z1, hown, hbel⟩ := hC7.fill r5 (r5 + r6 + r7 * 5000)
    clear hq hC hC5 hC6 hC7 N3 N4 N5 N6 N7
    go_wp2_with fail
    exact bodyPost_ret (v := .tuple #[.slice av' (999 + m) cp', .agg #[.int .u64 r5, .int .u64 (r5 + r6 + r7 * 5000)]]) (by simp [results, Try.results38, go_sem, z0, z1]) rfl ⟨_, _, _, _, _, _, rfl, HE, bigS_length _, by omega, bigS_fits _ (by omega), ⟨l5, by omega⟩, ⟨by omega, by omega⟩, hown, hbel⟩
  case neg =>
  have b3 : (r3 == 0) = false := by simpa using h3
  go_wp2_with fail
  refine (next_at w _ b a zs cap σ3 90 hC3.d hz hv hl (by omega) (by omega)).mono ?_
  rintro e w4 ⟨r4, σ4, rfl, N4, l4, u4, hd4, g4⟩
  have hC4 := hC3.call hd4 g4
  clear hC3 hd4 g4
  go_upto_region 13 with fail
  go_cut [59] from 53 to 58 (fun v wx => ∃ (bb : Bool) (τ : Src), v = .bool bb ∧ (bb = true → 0 < n ∧ ∃ r5 : Int, 0 < r5 ∧ Hid (nextF zs σ4 3 = (r5, τ))) ∧ (bb = false → Hid (baseF zs S σ3 = (r4, τ))) ∧ CarS w wx b a zs.length cap τ av cp n S)
  case first =>
    by_cases hn0 : 0 < n
    case neg =>
      have d0 : decide ((0 : Int) < (n : Int)) = false := by rw [decide_eq_false_iff_not]; omega
      have HB : Hid (baseF zs S σ3 = (r4, σ4)) := by
        unfold Hid baseF
        rw [if_neg (by rw [HSN.out]; omega)]
        exact N4.out
      go_wp2_with fail
      go_meet
      case rel => exact ⟨_, σ4, rfl, by simp, fun _ => HB, hC4⟩
    case pos =>
    have d0 : decide ((0 : Int) < (n : Int)) = true := by rw [decide_eq_true_iff]; omega
    go_wp2_with fail
    refine (next_at w _ b a zs cap σ4 3 hC4.d hz hv hl (by omega) (by omega)).mono ?_
    rintro e w5 ⟨r5, σ5, rfl, N5, l5, u5, hd5, g5⟩
    have hC5 := hC4.call hd5 g5
    by_cases h5 : 0 < r5
    case neg =>
      have d5 : decide ((0 : Int) < r5) = false := by rw [decide_eq_false_iff_not]; exact h5
      have HB : Hid (baseF zs S σ3 = (r4, σ5)) := by
        unfold Hid baseF
        simp only [N4.out, N5.out]
        rw [if_pos (by rw [HSN.out]; omega), if_neg h5]
      go_wp2_with fail
      go_meet
      case rel => exact ⟨_, σ5, rfl, by simp, fun _ => HB, hC5⟩
    case pos =>
      have d5 : decide ((0 : Int) < r5) = true := by rw [decide_eq_true_iff]; exact h5
      go_wp2_with fail
      go_meet
      case rel => exact ⟨_, σ5, rfl, fun _ => ⟨hn0, r5, h5, N5⟩, by simp, hC5⟩
  case rest =>
  obtain ⟨bb, σ5, rfl, hbt, hbf, hC5⟩ := hcut
  clear hC4
  go_upto_if 59 with fail
  go_cut [9, 10] from 60 to 76 (fun v _ wx => ∃ (x : Int) (τ : Src), v = .int .u64 x ∧ Hid (baseF zs S σ3 = (x, τ)) ∧ (0 ≤ x ∧ x ≤ 18446744073709551615) ∧ CarS w wx b a zs.length cap τ av cp n S)
  case first =>
    cases bb
    case false =>
      have HB := hbf rfl
      clear hbt hbf
      go_wp2_with fail
      go_meet
      case rel => exact ⟨_, _, rfl, HB, ⟨l4, by omega⟩, hC5⟩
    case true =>
    obtain ⟨hn0, r5, h5, N5⟩ := hbt rfl
    clear hbt hbf
    obtain ⟨g, rfl⟩ := row_some hC5.s hn0
    go_wp2_with fail
    refine (next_at w _ b a zs cap σ5 n hC5.d hz hv hl (by omega) (by omega)).mono ?_
    rintro e w6 ⟨r6, σ6, rfl, N6, l6, u6, hd6, g6⟩
    have hC6 := hC5.call hd6 g6
    obtain ⟨I, rfl⟩ : ∃ I : Nat, r6 = (I : Int) := ⟨r6.toNat, by omega⟩
    have hI : I < n := by omega
    obtain ⟨x0, x1⟩ := row_at HSN.out hC6.s hI
    obtain ⟨f0, f1, f2, f3⟩ := getD_fits hfS I
    have HD : Hid (S.getD I (0, 0) = S.getD I (0, 0)) := rfl
    obtain ⟨e1, he1⟩ : ∃ y, y = (S.getD I (0, 0)).1 := ⟨_, rfl⟩
    obtain ⟨e2, he2⟩ : ∃ y, y = (S.getD I (0, 0)).2 := ⟨_, rfl⟩
    rw [← he1] at x0 f0 f1
    rw [← he2] at x1 f2 f3
    have HE1 : Hid (e1 = (S.getD I (0, 0)).1) := he1
    have HE2 : Hid (e2 = (S.getD I (0, 0)).2) := he2
    clear he1 he2 HD hC5
    have hC6a := hC6.alloc (.cells #[.int .u64 e1, .int .u64 e2] 31)
    have hbox := heap_alloc_new w6 (.cells #[.int .u64 e1, .int .u64 e2] 31)
    have hsz6 : (w6.alloc (.cells #[.int .u64 e1, .int .u64 e2] 31)).heap.size = w6.heap.size + 1 := by simp
    have hb6 := hC6.d.lt
    go_wp2_with fail
    refine (next_at w _ b a zs cap σ6 2 hC6a.d hz hv hl (by omega) (by omega)).mono ?_
    rintro e w7 ⟨r7, σ7, rfl, N7, l7, u7, hd7, g7⟩
    have hC7 := hC6a.call hd7 g7
    have hbox7 := (g7.block _ (by omega) (by simp; omega)).trans hbox
    have y0 := Go.Joins.cell_of_block hbox7 0
    have y1 := Go.Joins.cell_of_block hbox7 1
    by_cases h7 : r7 = 0
    · have b7 : (r7 == 0) = true := by simpa using h7
      go_wp2_with fail
      refine (next_at w _ b a zs cap σ7 3 hC7.d hz hv hl (by omega) (by omega)).mono ?_
      rintro e w8 ⟨r8, σ8, rfl, N8, l8, u8, hd8, g8⟩
      have HB : Hid (baseF zs S σ3 = (IntKind.u64.wrap (IntKind.u64.wrap (e2 + r8) - 1), σ8)) := by
        unfold Hid baseF
        rw [if_pos (by rw [HSN.out]; omega)]
        simp only [N4.out, N5.out, HSN.out, N6.out, N7.out, N8.out, Int.toNat_natCast]
        rw [if_pos h5, if_pos h7, HE2.out]
      go_wp2_with fail
      go_meet
      case rel => exact ⟨_, _, rfl, HB, wrap64_fits _, hC7.call hd8 g8⟩
    · have b7 : (r7 == 0) = false := by simpa using h7
      go_wp2_with fail
      refine (next_at w _ b a zs cap σ7 3 hC7.d hz hv hl (by omega) (by omega)).mono ?_
      rintro e w8 ⟨r8, σ8, rfl, N8, l8, u8, hd8, g8⟩
      have HB : Hid (baseF zs S σ3 = (IntKind.u64.wrap (IntKind.u64.wrap (e1 + r8) - 1), σ8)) := by
        unfold Hid baseF
        rw [if_pos (by rw [HSN.out]; omega)]
        simp only [N4.out, N5.out, HSN.out, N6.out, N7.out, N8.out, Int.toNat_natCast]
        rw [if_pos h5, if_neg h7, HE1.out]
      go_wp2_with fail
      go_meet
      case rel => exact ⟨_, _, rfl, HB, wrap64_fits _, hC7.call hd8 g8⟩
  case rest =>
  clear hC5 hbt hbf N4
  obtain ⟨x, σ6, rfl, HB, hxf, hC5⟩ := hcut
  go_wp2_with fail
  refine (next_at w _ b a zs cap σ6 25 hC5.d hz hv hl (by omega) (by omega)).mono ?_
  rintro e w6 ⟨r6, σ7, rfl, N6, l6, u6, hd6, g6⟩
  have hC6 := hC5.call hd6 g6
  obtain ⟨q, hq⟩ : ∃ q, IntKind.u64.wrap (x + r6) = q := ⟨_, rfl⟩
  have hqf := wrap64_fits (x + r6)
  rw [hq] at hqf
  have hC6a := hC6.alloc (.cells #[.int .u64 x, .int .u64 q] 31)
  have hbox := heap_alloc_new w6 (.cells #[.int .u64 x, .int .u64 q] 31)
  have hsz6 : (w6.alloc (.cells #[.int .u64 x, .int .u64 q] 31)).heap.size = w6.heap.size + 1 := by simp
  have hb6 := hC6.d.lt
  have hrO : (Value.slice av n cp).ownBlock ≠ some w6.heap.size := fun e => by have := (hC6.s.lt _ e).2; omega
  go_wp2_with fail
  refine (next_at w _ b a zs cap σ7 20 hC6a.d hz hv hl (by omega) (by omega)).mono ?_
  rintro e w7 ⟨r7, σ8, rfl, N7, l7, u7, hd7, g7⟩
  have hC7 := hC6a.call hd7 g7
  have hbox7 := (g7.block w6.heap.size (by omega) (by simp; omega)).trans hbox
  have HA : Hid (argsF zs = lastF zs S x q r7 σ8) := by
    unfold Hid argsF
    simp only [HS.out, N3.out]
    rw [if_neg h3]
    simp only [HB.out, N6.out, hq, N7.out]
  have hOl : w6.heap.size < w7.heap.size := (Array.getElem?_eq_some_iff.1 hbox7).1
  obtain ⟨O, hO⟩ : ∃ O, O = w6.heap.size := ⟨_, rfl⟩
  rw [← hO] at hbox7 hrO hb6 hOl ⊢
  have y0 := Go.Joins.cell_of_block hbox7 0
  have y1 := Go.Joins.cell_of_block hbox7 1
  have z0 := Go.Joins.unfrozen_of_block hbox7 0
  have z1 := Go.Joins.unfrozen_of_block hbox7 1
  clear hO hsz6 hbox hC6a hC6 hd6 g6 hd7 g7 hC5 N6 N7 HB HS N3 hq
  go_upto_if 85 with fail
  go_cut [13] from 85 to 134 (fun _ wx => ∃ (S' : Sp) (p' q' : Int) (τ : Src), Hid (argsF zs = (S', p', q')) ∧ S'.length = n ∧ Fits S' ∧ (0 ≤ p' ∧ p' ≤ 18446744073709551615) ∧ (0 ≤ q' ∧ q' ≤ 18446744073709551615) ∧ wx.heap[O]? = some (.cells #[.int .u64 p', .int .u64 q'] 31 (0, 0)) ∧ CarS w wx b a zs.length cap τ av cp n S')
  case first =>
    by_cases h0 : r7 = 0
    case pos =>
      have b0 : (r7 == 0) = true := by simpa using h0
      have HE : Hid (argsF zs = (S, x, IntKind.u64.wrap (x - 1))) := by unfold Hid; rw [HA.out, lastF, if_pos h0]
      go_wp2_with fail
      go_meet
      case rel => exact ⟨S, _, _, σ8, HE, HSN.out, hfS, hxf, wrap64_fits _, by rw [Go.Joins.block_setCell hbox7]; rfl, hC7.put hb6 hrO _⟩
    case neg =>
    have b0 : (r7 == 0) = false := by simpa using h0
    by_cases h1 : r7 = 1
    case pos =>
      have b1 : (r7 == 1) = true := by simpa using h1
      have HE : Hid (argsF zs = (S, x, 18446744073709551615)) := by unfold Hid; rw [HA.out, lastF, if_neg h0, if_pos h1]
      go_wp2_with fail
      go_meet
      case rel => exact ⟨S, _, _, σ8, HE, HSN.out, hfS, hxf, ⟨by omega, by omega⟩, by rw [Go.Joins.block_setCell hbox7]; rfl, hC7.put hb6 hrO _⟩
    case neg =>
    have b1 : (r7 == 1) = false := by simpa using h1
    by_cases h2 : r7 = 2
    case pos =>
      have b2 : (r7 == 2) = true := by simpa using h2
      have HE : Hid (argsF zs = (S, 0, 18446744073709551615)) := by unfold Hid; rw [HA.out, lastF, if_neg h0, if_neg h1, if_pos h2]
      have hx0 : (w7.setCell ⟨O, 0, none⟩ (.int .u64 0)).heap[O]? = some (.cells #[.int .u64 0, .int .u64 q] 31 (0, 0)) := by rw [Go.Joins.block_setCell hbox7]; rfl
      go_wp2_with fail
      go_meet
      case rel => exact ⟨S, _, _, σ8, HE, HSN.out, hfS, ⟨by omega, by omega⟩, ⟨by omega, by omega⟩, by rw [Go.Joins.block_setCell hx0]; rfl, (hC7.put hb6 hrO _).put hb6 hrO _⟩
    case neg =>
    have b2 : (r7 == 2) = false := by simpa using h2
    by_cases h34 : r7 = 3 ∧ 1 < n
    case pos =>
      obtain ⟨h4, h5⟩ := h34
      have b4 : (r7 == 3) = true := by simpa using h4
      have H4 : Hid (r7 = 3) := h4
      clear h4
      have b5 : decide ((1 : Int) < (n : Int)) = true := by rw [decide_eq_true_iff]; omega
      obtain ⟨g, rfl⟩ := row_some hC7.s (by omega)
      go_wp2_with fail
      refine (next_at w _ b a zs cap σ8 ((n : Int) - 1) hC7.d hz hv hl (by omega) (by omega)).mono ?_
      rintro e w8 ⟨r8, σ9, rfl, N8, l8, u8, hd8, g8⟩
      have hC8 := hC7.call hd8 g8
      have hbox8 := (g8.block O hOl (by simp; omega)).trans hbox7
      obtain ⟨I, rfl⟩ : ∃ I : Nat, r8 = (I : Int) := ⟨r8.toNat, by omega⟩
      have hI : I + 1 < n := by omega
      obtain ⟨x0, x1⟩ := row_at HSN.out hC8.s (j := I) (by omega)
      obtain ⟨x2, x3⟩ := row_at HSN.out hC8.s hI
      obtain ⟨f0, f1, f2, f3⟩ := getD_fits hfS I
      obtain ⟨e2, he2⟩ : ∃ y, y = (S.getD I (0, 0)).2 := ⟨_, rfl⟩
      rw [← he2] at x1 f2 f3
      have HE2 : Hid (e2 = (S.getD I (0, 0)).2) := he2
      have hgb := (hC8.s.lt g rfl).1
      clear he2
      have hl7 : I + 1 < S.length := by rw [HSN.out]; exact hI
      obtain ⟨J, hJ⟩ : ∃ J, Hid (J = I + 1) := ⟨_, rfl⟩
      have hJn : J < n := by rw [hJ.out]; exact hI
      have hJa : (1 : Int) + (I : Int) = (J : Int) := by rw [hJ.out]; omega
      have hJb : (J : Int) - 1 = (I : Int) := by rw [hJ.out]; omega
      have hJw : IntKind.i64.wrap (I : Int) = (I : Int) := by rw [IntKind.wrap_i64]; omega
      have hJi : (J : Int) < (n : Int) := by omega
      have hIi : (I : Int) < (n : Int) := by omega
      have hIn : I < n := by omega
      have L3 := next_at w w8.drew b a zs cap σ9 2 hC8.d.drew hz hv hl (by omega) (by omega)
      have x1d : w8.drew.cell? ⟨g, I * 2 + 1, none⟩ = some (.int .u64 e2) := x1
      have HK : Hid (∀ w9 : World, ∀ σ10 : Src, DrawAt w w9 b a zs.length cap σ10 → w8.drew.grownBy w9 (some b) → CarS w w9 b a zs.length cap σ10 (some ⟨g, 0, none⟩) cp n S ∧ w9.heap[O]? = some (.cells #[.int .u64 x, .int .u64 q] 31 (0, 0)) ∧ w9.cell? ⟨g, I * 2 + 1, none⟩ = some (.int .u64 e2) ∧ w9.cell? ⟨g, J * 2, none⟩ = some (.int .u64 (S.getD J (0, 0)).1) ∧ w9.frozen? ⟨g, J * 2, none⟩ = false) := by
        unfold Hid
        intro w9 σ10 hd9 g9
        have hC9 := hC8.drew.call hd9 g9
        obtain ⟨t0, t1⟩ := row_at HSN.out hC9.s (j := I) (by omega)
        obtain ⟨t2, t3⟩ := row_at HSN.out hC9.s hJn
        have t1' : w9.cell? ⟨g, I * 2 + 1, none⟩ = some (.int .u64 e2) := by rw [HE2.out]; exact t1
        have hl8 : O < w8.heap.size := (Array.getElem?_eq_some_iff.1 hbox8).1
        exact ⟨hC9, (g9.block O hl8 (by simp; omega)).trans hbox8, t1', t2, hC9.s.frozenAt _⟩
      clear hI x2 x3
      go_wp2_with fail
      go_region_held3 (fun w' => w'.cell? ⟨g, I * 2 + 1, none⟩ = some (.int .u64 e2))
        (first | assumption | (go_keep; done) | (rw [World.cell?_setCell_other _ _ _ _ (by simp)]; assumption) | (rw [World.cell?_setCell_other _ _ _ _ (by simp; omega)]; assumption))
        (first
          | (go_at_call 46; with_reducible (refine Calls.mono L3 ?_); rintro e w9 ⟨r9, σ10, rfl, N9, l9, u9, hd9, g9⟩; obtain ⟨hC9, hbox9, t1, t2, t3⟩ := HK.out w9 σ10 hd9 g9))
      obtain ⟨e3, he3⟩ : ∃ y, IntKind.u64.wrap (e2 - IntKind.u64.wrap r9) = y := ⟨_, rfl⟩
      have he3f := wrap64_fits (e2 - IntKind.u64.wrap r9)
      rw [he3] at he3f
      have hr9 : IntKind.u64.wrap r9 = r9 := by rw [IntKind.wrap_u64]; omega
      have hJl : J < S.length := by rw [HSN.out]; exact hJn
      have hst := (hC9.s.stored (J * 2) (.int .u64 e3)).1
      rw [flat_lo S J hJl] at hst
      have hgd : S.getD J (0, 0) = S[J] := by simp [hJl]
      have HE : Hid (argsF zs = (S.set J (e3, (S[J]).2), x, q)) := by
        unfold Hid
        rw [HA.out, lastF, if_neg h0, if_neg h1, if_neg h2, if_pos ⟨H4.out, by rw [HSN.out]; exact h5⟩]
        simp only [HSN.out, N8.out, N9.out, Int.toNat_natCast]
        rw [← hJ.out, hgd, ← HE2.out, ← he3, hr9]
      have hgs := grown_set w9 g (J * 2) (.int .u64 e3)
      have hgl := hC9.s.lt g rfl
      have hOg : g ≠ O := fun e => hrO (by rw [e]; rfl)
      have hO9 : O < w9.heap.size := (Array.getElem?_eq_some_iff.1 hbox9).1
      have hR9 : w.heap.size < w9.heap.size := (Array.getElem?_eq_some_iff.1 hC9.r).1
      have hC10 : CarS w (w9.setCell ⟨g, J * 2, none⟩ (.int .u64 e3)) b a zs.length cap σ10 (some ⟨g, 0, none⟩) cp n (S.set J (e3, (S[J]).2)) :=
        ⟨hC9.d.grown hgs (fun k hk => by have := Option.some.inj hk; omega), (hgs.block _ hR9 (by simp; omega)).trans hC9.r, hst, hC9.lt⟩
      have hbox10 := (hgs.block O hO9 (by simp; omega)).trans hbox9
      have hfS' : Fits (S.set J (e3, (S[J]).2)) := by
        intro p hp
        rcases List.mem_or_eq_of_mem_set hp with h | h
        · exact hfS p h
        · subst h; exact ⟨he3f.1, he3f.2, (hfS _ (List.getElem_mem hJl)).2.2⟩
      rw [he3]
      clear he3 hr9 hgd hst hgs
      go_wp2_with fail
      go_meet
      case rel => exact ⟨_, _, _, σ10, HE, by rw [List.length_set]; exact HSN.out, hfS', hxf, hqf, hbox10, hC10⟩
    case neg =>
    by_cases h45 : r7 = 4 ∧ 0 < n
    case pos =>
      obtain ⟨h4, h5⟩ := h45
      have b3 : (r7 == 3) = false := by rw [h4]; rfl
      have b4 : (r7 == 4) = true := by simpa using h4
      have b5 : decide ((0 : Int) < (n : Int)) = true := by rw [decide_eq_true_iff]; omega
      obtain ⟨g, rfl⟩ := row_some hC7.s h5
      have hl7 : 0 < S.length := by rw [HSN.out]; exact h5
      have hgd : S.getD 0 (0, 0) = S[0] := by simp [hl7]
      obtain ⟨x0, x1⟩ := row_at HSN.out hC7.s h5
      obtain ⟨f0, f1, f2, f3⟩ := getD_fits hfS 0
      have fz := hC7.s.frozenAt (0 * 2 + 1)
      obtain ⟨e0, he0⟩ : ∃ y, y = (S.getD 0 (0, 0)).1 := ⟨_, rfl⟩
      rw [← he0] at x0 f0 f1
      have hst := (hC7.s.stored (0 * 2 + 1) (.int .u64 e0)).1
      rw [flat_hi S 0 hl7, ← hgd, ← he0] at hst
      have HE : Hid (argsF zs = (S.set 0 (e0, e0), x, q)) := by
        unfold Hid
        rw [HA.out, lastF, if_neg h0, if_neg h1, if_neg h2, if_neg (by omega), if_pos ⟨h4, hl7⟩, he0]
      have hgb := hC7.s.lt g rfl
      have hOg : g ≠ O := fun e => hrO (by rw [e]; rfl)
      have hgs := grown_set w7 g (0 * 2 + 1) (.int .u64 e0)
      have hC9 : CarS w (w7.setCell ⟨g, 0 * 2 + 1, none⟩ (.int .u64 e0)) b a zs.length cap σ8 (some ⟨g, 0, none⟩) cp n (S.set 0 (e0, e0)) :=
        ⟨hC7.d.grown hgs (fun k hk => by have := Option.some.inj hk; omega), (hgs.block _ (by omega) (by simp; omega)).trans hC7.r, hst, hC7.lt⟩
      have hbox9 := (hgs.block O hOl (by simp; omega)).trans hbox7
      have hfS' : Fits (S.set 0 (e0, e0)) := by
        intro p hp
        rcases List.mem_or_eq_of_mem_set hp with h | h
        · exact hfS p h
        · subst h; exact ⟨f0, f1, f0, f1⟩
      simp only [Nat.zero_mul, Nat.zero_add] at x0 x1 fz hC9 hbox9
      clear hgd hst hgs he0
      go_wp2_with fail
      go_meet
      case rel => exact ⟨_, _, _, σ8, HE, by rw [List.length_set]; exact HSN.out, hfS', hxf, hqf, hbox9, hC9⟩
    case neg =>
    have HE : Hid (argsF zs = (S, x, q)) := by
      unfold Hid
      rw [HA.out, lastF, if_neg h0, if_neg h1, if_neg h2, if_neg (by rw [HSN.out]; exact h34), if_neg (by rw [HSN.out]; exact h45)]
    have HR : ∀ r : Int, (r7 == r) = decide (r7 = r) := fun r => rfl
    by_cases h3 : r7 = 3
    · have b3 : (r7 == 3) = true := by simpa using h3
      have b4 : (r7 == 4) = false := by rw [h3]; rfl
      have b5 : decide ((1 : Int) < (n : Int)) = false := by rw [decide_eq_false_iff_not]; omega
      clear HR
      go_wp2_with fail
      go_meet
      case rel => exact ⟨S, _, _, σ8, HE, HSN.out, hfS, hxf, hqf, hbox7, hC7⟩
    · have b3 : (r7 == 3) = false := by simpa using h3
      clear HR
      by_cases h4 : r7 = 4
      · have b4 : (r7 == 4) = true := by simpa using h4
        have b5 : decide ((0 : Int) < (n : Int)) = false := by rw [decide_eq_false_iff_not]; omega
        go_wp2_with fail
        go_meet
        case rel => exact ⟨S, _, _, σ8, HE, HSN.out, hfS, hxf, hqf, hbox7, hC7⟩
      · have b4 : (r7 == 4) = false := by simpa using h4
        go_wp2_with fail
        go_meet
        case rel => exact ⟨S, _, _, σ8, HE, HSN.out, hfS, hxf, hqf, hbox7, hC7⟩
  case rest =>
  clear hC7 hbox7 y0 y1 z0 z1 HA
  obtain ⟨S', p', q', τ, HE, hS'n, hfS', hp', hq', hbox, hC⟩ := hcut
  have HSN' : Hid (S'.length = n) := hS'n
  clear hS'n
  obtain ⟨⟨x0, x1⟩, y0, y1⟩ := hC.box
  obtain ⟨z0, z1, hown, hbel⟩ := hC.fill p' q'
  have o0 := Go.Joins.cell_of_block hbox 0
  have o1 := Go.Joins.cell_of_block hbox 1
  go_wp2_with fail
  go_region
  go_wp2_with fail
  exact bodyPost_ret (v := .tuple #[.slice av n cp, .agg #[.int .u64 p', .int .u64 q']]) (by simp [results, Try.results38, go_sem, z0, z1]) rfl ⟨_, _, _, _, _, _, rfl, HE, HSN'.out, .inl hn12, hfS', hp', hq', hown, hbel.drew⟩
end Go.Proofs.Ytgjcdejiolenkaa
