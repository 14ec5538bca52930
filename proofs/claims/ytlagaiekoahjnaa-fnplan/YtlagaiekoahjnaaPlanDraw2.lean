import Derived.Test.YtlagaiekoahjnaaPlanDraw1
namespace Go.Proofs.Ytlagaiekoahjnaa
open Go.ChangeShapes Go.WideShapes Go.ChangeAt Go.RowKit
set_option linter.unusedVariables false

/-- Who carries it; whether it is queued; its length: as they are drawn. -/
def carF (zs : List Int) (c : Int) (σ : Src) : Int × Src :=
  if (nextF zs σ 5).1 = 0 then (1 + (nextF zs (nextF zs σ 5).2 255).1, (nextF zs (nextF zs σ 5).2 255).2) else (c, (nextF zs σ 5).2)
def queF (zs : List Int) (σ : Src) : Int × Src := (if (nextF zs σ 3).1 = 0 then 1 else 0, (nextF zs σ 3).2)
def lenF (zs : List Int) (l : Int) (σ : Src) : Int × Src := (if (nextF zs σ 12).1 = 0 then 32 else l, (nextF zs σ 12).2)
def finF (zs : List Int) (last : Bool) (σ : Src) : Bool × Src := if last then (decide ((nextF zs σ 3).1 = 0), (nextF zs σ 3).2) else (false, σ)
/-- A mapping that begins at at_. -/
def mapF (zs : List Int) (at_ : Int) (last : Bool) (σ : Src) : Mp × Src :=
  let x1 := nextF zs σ 9
  let x2 := nextF zs x1.2 7
  let c := carF zs (1 + x2.1) x2.2
  let q := queF zs c.2
  let l := lenF zs (1 + x1.1) q.2
  let f := finF zs last l.2
  (if f.1 then ⟨at_, 0, 1, c.1, q.1⟩ else ⟨at_, l.1, 0, c.1, q.1⟩, f.2)
def onF (zs : List Int) (x : Int) (σ : Src) : Int × Src :=
  if (nextF zs σ 6).1 = 0 then (IntKind.u64.wrap (x + (nextF zs (nextF zs σ 6).2 9).1), (nextF zs (nextF zs σ 6).2 9).2) else (x, (nextF zs σ 6).2)
def mapsRun (zs : List Int) : Nat → Src → Int → Mps → Mps × Src
  | 0, σ, _, out => (out, σ)
  | r + 1, σ, at_, out =>
    if at_ < 4611686018427387904 then
      mapsRun zs r (onF zs (IntKind.u64.wrap (at_ + (mapF zs at_ (decide (r = 0)) σ).1.len)) (mapF zs at_ (decide (r = 0)) σ).2).2 (onF zs (IntKind.u64.wrap (at_ + (mapF zs at_ (decide (r = 0)) σ).1.len)) (mapF zs at_ (decide (r = 0)) σ).2).1 (out ++ [(mapF zs at_ (decide (r = 0)) σ).1])
    else (out, σ)
def startAt (zs : List Int) (σ : Src) : Int × Src :=
  let x2 := nextF zs σ 50
  let x3 := nextF zs x2.2 12
  if x3.1 = 0 then (4611686018427387904 - (nextF zs x3.2 40).1, (nextF zs x3.2 40).2) else (x2.1, x3.2)
def mapsF (zs : List Int) (σ : Src) : Mps × Src :=
  let x1 := nextF zs σ 7
  mapsRun zs x1.1.toNat (startAt zs x1.2).2 (startAt zs x1.2).1 []

/-- A mapping's box, the row so far, the source. -/
structure CarM (w0 w wi : World) (b B : Nat) (a : Option Addr) (n cap : Nat) (σ : Src) (av : Option Addr) (cp k : Nat) (S : Mps) (y0 y1 y2 y3 y4 : Int) : Prop where
  bx : wi.heap[B]? = some (.cells #[.int .u64 y0, .int .i64 y1, .int .i64 y2, .int .i64 y3, .int .i64 y4] 55 (0, 0))
  row : wi.ownsRow w.heap.size 55 5 (.slice av k cp) k (flatM S)
  d : DrawAt w0 wi b a n cap σ
  g : w.grownBy wi (some b)
  bw : w.heap.size ≤ B
  br : (Value.slice av k cp).ownBlock ≠ some B
  lt : b < w.heap.size
  w0 : w0.heap.size ≤ w.heap.size
section
variable {w0 w wi wj : World} {b B : Nat} {a : Option Addr} {n cap : Nat} {σ τ : Src} {av : Option Addr} {cp k : Nat} {S : Mps} {y0 y1 y2 y3 y4 : Int}
theorem CarM.call (h : CarM w0 w wi b B a n cap σ av cp k S y0 y1 y2 y3 y4) (hd : DrawAt w0 wj b a n cap τ) (hg : wi.grownBy wj (some b)) : CarM w0 w wj b B a n cap τ av cp k S y0 y1 y2 y3 y4 :=
  ⟨(hg.block _ (Array.getElem?_eq_some_iff.1 h.bx).1 (by have := h.lt; have := h.bw; simp; omega)).trans h.bx, kept_new h.row hg h.lt, hd, grown_trans h.g hg, h.bw, h.br, h.lt, h.w0⟩
theorem CarM.cells (h : CarM w0 w wi b B a n cap σ av cp k S y0 y1 y2 y3 y4) : (wi.cell? ⟨B, 0, none⟩ = some (.int .u64 y0) ∧ wi.cell? ⟨B, 1, none⟩ = some (.int .i64 y1) ∧ wi.cell? ⟨B, 2, none⟩ = some (.int .i64 y2) ∧ wi.cell? ⟨B, 3, none⟩ = some (.int .i64 y3) ∧ wi.cell? ⟨B, 4, none⟩ = some (.int .i64 y4)) ∧ (∀ j, wi.frozen? ⟨B, j, none⟩ = false) :=
  ⟨⟨Go.Joins.cell_of_block h.bx 0, Go.Joins.cell_of_block h.bx 1, Go.Joins.cell_of_block h.bx 2, Go.Joins.cell_of_block h.bx 3, Go.Joins.cell_of_block h.bx 4⟩, fun j => Go.Joins.unfrozen_of_block h.bx j⟩
theorem CarM.put (h : CarM w0 w wi b B a n cap σ av cp k S y0 y1 y2 y3 y4) (i : Nat) (v : Value) {u0 u1 u2 u3 u4 : Int} (hb : (wi.setCell ⟨B, i, none⟩ v).heap[B]? = some (.cells #[.int .u64 u0, .int .i64 u1, .int .i64 u2, .int .i64 u3, .int .i64 u4] 55 (0, 0))) :
    CarM w0 w (wi.setCell ⟨B, i, none⟩ v) b B a n cap σ av cp k S u0 u1 u2 u3 u4 := by
  have h1 := h.bw
  have h2 := h.lt
  have h3 := h.w0
  have hgs := grown_set wi B i v
  refine ⟨hb, h.row.kept hgs ?_, h.d.grown hgs (fun k' hk' => by have := Option.some.inj hk'; omega), grown_past h.g hgs (fun k' hk' => by have := Option.some.inj hk'; omega), h.bw, h.br, h.lt, h.w0⟩
  cases hv : (Value.slice av k cp).ownBlock with
  | none => exact .inl rfl
  | some j => exact .inr fun e => h.br (by rw [hv, e])
theorem CarM.put1 (h : CarM w0 w wi b B a n cap σ av cp k S y0 y1 y2 y3 y4) (x : Int) : CarM w0 w (wi.setCell ⟨B, 1, none⟩ (.int .i64 x)) b B a n cap σ av cp k S y0 x y2 y3 y4 := h.put 1 _ (by rw [Go.Joins.block_setCell h.bx]; rfl)
theorem CarM.put2 (h : CarM w0 w wi b B a n cap σ av cp k S y0 y1 y2 y3 y4) (x : Int) : CarM w0 w (wi.setCell ⟨B, 2, none⟩ (.int .i64 x)) b B a n cap σ av cp k S y0 y1 x y3 y4 := h.put 2 _ (by rw [Go.Joins.block_setCell h.bx]; rfl)
theorem CarM.put3 (h : CarM w0 w wi b B a n cap σ av cp k S y0 y1 y2 y3 y4) (x : Int) : CarM w0 w (wi.setCell ⟨B, 3, none⟩ (.int .i64 x)) b B a n cap σ av cp k S y0 y1 y2 x y4 := h.put 3 _ (by rw [Go.Joins.block_setCell h.bx]; rfl)
theorem CarM.put4 (h : CarM w0 w wi b B a n cap σ av cp k S y0 y1 y2 y3 y4) (x : Int) : CarM w0 w (wi.setCell ⟨B, 4, none⟩ (.int .i64 x)) b B a n cap σ av cp k S y0 y1 y2 y3 x := h.put 4 _ (by rw [Go.Joins.block_setCell h.bx]; rfl)
end
theorem cellsM5 {w : World} {B : Nat} {t : TypeId} {x0 x1 x2 x3 x4 : Value} (h : w.heap[B]? = some (.cells #[x0, x1, x2, x3, x4] t (0, 0))) :
    w.cell? ⟨B, 0, none⟩ = some x0 ∧ w.cell? ⟨B, 1, none⟩ = some x1 ∧ w.cell? ⟨B, 2, none⟩ = some x2 ∧ w.cell? ⟨B, 3, none⟩ = some x3 ∧ w.cell? ⟨B, 4, none⟩ = some x4 :=
  ⟨Go.Joins.cell_of_block h 0, Go.Joins.cell_of_block h 1, Go.Joins.cell_of_block h 2, Go.Joins.cell_of_block h 3, Go.Joins.cell_of_block h 4⟩

set_option maxHeartbeats 2000000 in
set_option maxRecDepth 100000 in
theorem drawMaps_at (w0 w : World) (b : Nat) (a : Option Addr) (zs : List Int) (cap : Nat) (σ : Src) (hd : DrawAt w0 w b a zs.length cap σ) (hz : Ints .u8 w0 a zs) (hv : ∀ x ∈ zs, 0 ≤ x ∧ x ≤ 255) (hl : zs.length ≤ 2000000) :
    Calls Try.prog 56 #[.pointer (some ⟨b, 0, none⟩), .int .i64 6] w fun e w' => ∃ (av : Option Addr) (cp n : Nat) (S : Mps) (τ : Src), e = .returned (.slice av n cp) ∧ Hid (mapsF zs σ = (S, τ)) ∧ S.length = n ∧ n ≤ 6 ∧ FitsM S ∧
      w'.ownsRow w.heap.size 55 5 (.slice av n cp) n (flatM S) ∧ DrawAt w0 w' b a zs.length cap τ ∧ w.grownBy w' (some b) := by
  have hbl := hd.lt
  have hs0 := hd.bel.size
  have hmade : (w.alloc (.cells #[] 55)).ownsRow w.heap.size 55 5 (.slice (some ⟨w.heap.size, 0, none⟩) 0 0) 0 (flatM []) := World.ownsRow_made w #[] 0 (Nat.le_refl _) (by unfold maxLen; omega) rfl
  have hd0 := hd.grown (World.grownBy_alloc w (.cells #[] 55) none) (by simp)
  have hg0 : w.grownBy (w.alloc (.cells #[] 55)) (some b) := World.grownBy_alloc w _ _
  go_enter Try.func56, Try.ntmps56
  go_wp2_with fail
  refine (next_at w0 _ b a zs cap σ 7 hd0 hz hv hl (by omega) (by omega)).mono ?_
  rintro e w1 ⟨r1, σ1, rfl, N1, l1, u1, hd1, g1⟩
  obtain ⟨N, rfl⟩ : ∃ N : Nat, r1 = (N : Int) := ⟨r1.toNat, by omega⟩
  have hN6 : N ≤ 6 := by omega
  go_wp2_with fail
  refine (next_at w0 _ b a zs cap σ1 50 hd1 hz hv hl (by omega) (by omega)).mono ?_
  rintro e w2 ⟨r2, σ2, rfl, N2, l2, u2, hd2, g2⟩
  go_wp2_with fail
  refine (next_at w0 _ b a zs cap σ2 12 hd2 hz hv hl (by omega) (by omega)).mono ?_
  rintro e w3 ⟨r3, σ3, rfl, N3, l3, u3, hd3, g3⟩
  have ho3 := kept_new (kept_new (kept_new hmade g1 hbl) g2 hbl) g3 hbl
  have gr3 := grown_trans (grown_trans (grown_trans hg0 g1) g2) g3
  clear hmade hd0 hg0 g1 g2 g3 hd1 hd2 hd
  go_upto_if 20 with fail
  go_cut [7] from 20 to 24 (fun v wx => ∃ (x : Int) (τ : Src), v = .int .u64 x ∧ Hid (startAt zs σ1 = (x, τ)) ∧ (0 ≤ x ∧ x ≤ 18446744073709551615) ∧ wx.ownsRow w.heap.size 55 5 (.slice (some ⟨w.heap.size, 0, none⟩) 0 0) 0 (flatM []) ∧ DrawAt w0 wx b a zs.length cap τ ∧ w.grownBy wx (some b))
  case first =>
    by_cases h3 : r3 = 0
    · have b3 : (r3 == 0) = true := by simpa using h3
      have H3 : Hid (r3 = 0) := h3
      clear h3
      go_wp2_with fail
      refine (next_at w0 _ b a zs cap σ3 40 hd3 hz hv hl (by omega) (by omega)).mono ?_
      rintro e w4 ⟨r4, σ4, rfl, N4, l4, u4, hd4, g4⟩
      have HA : Hid (startAt zs σ1 = (4611686018427387904 - r4, σ4)) := by unfold Hid startAt; simp only [N2.out, N3.out, N4.out, if_pos H3.out]
      go_wp2_with fail
      go_meet
      case rel => exact ⟨_, _, rfl, HA, ⟨by omega, by omega⟩, kept_new ho3 g4 hbl, hd4, grown_trans gr3 g4⟩
    · have b3 : (r3 == 0) = false := by simpa using h3
      have HA : Hid (startAt zs σ1 = (r2, σ3)) := by unfold Hid startAt; simp only [N2.out, N3.out, if_neg h3]
      go_wp2_with fail
      go_meet
      case rel => exact ⟨_, _, rfl, HA, ⟨l2, by omega⟩, ho3, hd3, gr3⟩
  case rest =>
  clear ho3 hd3 gr3 N2 N3
  obtain ⟨x0, σ4, rfl, HA, hx0, ho4, hd4, gr4⟩ := hcut
  have HM : Hid (mapsF zs σ = mapsRun zs N σ4 x0 []) := by unfold Hid mapsF; simp only [N1.out, HA.out, Int.toNat_natCast]
  clear HA N1
  go_wp2_with fail
  go_loopw [5, 7, 8] (fun ov tv iv wr => ∃ (k : Nat) (av : Option Addr) (cp : Nat) (S : Mps) (x : Int) (τ : Src), k ≤ N ∧ iv = .int .i64 (k : Int) ∧ ov = .slice av k cp ∧ tv = .int .u64 x ∧ (0 ≤ x ∧ x ≤ 18446744073709551615) ∧ S.length = k ∧ FitsM S ∧ Hid (mapsRun zs N σ4 x0 [] = mapsRun zs (N - k) τ x S) ∧ wr.ownsRow w.heap.size 55 5 (.slice av k cp) k (flatM S) ∧ DrawAt w0 wr b a zs.length cap τ ∧ w.grownBy wr (some b)) (fun _ _ iv _ => N - (intOf iv).toNat)
  case atStart => exact ⟨0, _, _, [], x0, σ4, Nat.zero_le _, rfl, rfl, rfl, hx0, rfl, by simp [FitsM], rfl, ho4, hd4, gr4⟩
  case round =>
  clear ho4 hd4 gr4 hx0
  obtain ⟨k, av, cp, S, x, τ, hk, rfl, rfl, rfl, hx, hSk, hfS, HRk, hown, hdr, hgr⟩ := hrel
  have HSK : Hid (S.length = k) := hSk
  clear hSk
  by_cases hlt : k < N
  case neg =>
    obtain rfl : k = N := by omega
    have hkk : decide ((k : Int) < (k : Int)) = false := by simp
    have HE : Hid (mapsF zs σ = (S, τ)) := by unfold Hid; rw [HM.out, HRk.out, Nat.sub_self, mapsRun]
    go_wp2_with fail
    go_ret
    exact ⟨_, _, _, S, τ, rfl, HE, HSK.out, by omega, hfS, hown, hdr, hgr⟩
  case pos =>
  have hki : decide ((k : Int) < (N : Int)) = true := by rw [decide_eq_true_iff]; omega
  obtain ⟨R, hR⟩ : ∃ R, Hid (N - k = R + 1) := ⟨N - k - 1, by unfold Hid; omega⟩
  by_cases hx62 : x < 4611686018427387904
  case neg =>
    have hxd : decide (x < 4611686018427387904) = false := by rw [decide_eq_false_iff_not]; exact hx62
    have HE : Hid (mapsF zs σ = (S, τ)) := by unfold Hid; rw [HM.out, HRk.out, hR.out, mapsRun, if_neg hx62]
    go_wp2_with fail
    go_ret
    exact ⟨_, _, _, rfl, S, τ.1, τ.2, HE, HSK.out, by omega, hfS, hown, hdr, hgr⟩
  case pos =>
  have hxd : decide (x < 4611686018427387904) = true := by rw [decide_eq_true_iff]; exact hx62
  go_wp2_with fail
  refine (next_at w0 _ b a zs cap τ 9 hdr hz hv hl (by omega) (by omega)).mono ?_
  rintro e v1 ⟨a1, τ1, rfl, M1, m1, n1, d1, gg1⟩
  go_wp2_with fail
  refine (next_at w0 _ b a zs cap τ1 7 d1 hz hv hl (by omega) (by omega)).mono ?_
  rintro e v2 ⟨a2, τ2, rfl, M2, m2, n2, d2, gg2⟩
  have ho2 := kept_new (kept_new hown gg1 hbl) gg2 hbl
  have gr2 := grown_trans (grown_trans hgr gg1) gg2
  have hsz2 := gr2.size
  obtain ⟨V, hV⟩ : ∃ V, V = v2.alloc (.cells #[.int .u64 x, .int .i64 (1 + a1), .int .i64 0, .int .i64 (1 + a2), .int .i64 0] 55) := ⟨_, rfl⟩
  have hC0 : CarM w0 w V b v2.heap.size a zs.length cap τ2 av cp k S x (1 + a1) 0 (1 + a2) 0 := by
    rw [hV]
    exact ⟨heap_alloc_new v2 _, ho2.alloc _, d2.grown (World.grownBy_alloc v2 _ none) (by simp), grown_past gr2 (World.grownBy_alloc v2 _ none) (by simp), hsz2, fun e => by have := (ho2.lt _ e).2; omega, hbl, hs0⟩
  obtain ⟨B, hB⟩ : ∃ B, B = v2.heap.size := ⟨_, rfl⟩
  rw [← hB] at hC0
  clear hown hgr gg1 gg2 hdr d1 ho2 gr2 d2
  go_wp2_with fail
  rw [← hV, ← hB]
  clear hV hB hsz2
  refine (next_at w0 _ b a zs cap τ2 5 hC0.d hz hv hl (by omega) (by omega)).mono ?_
  rintro e v3 ⟨a3, τ3, rfl, M3, m3, n3, d3, gg3⟩
  have hC3 := hC0.call d3 gg3
  clear hC0 d3 gg3
  go_upto_if 44 with fail
  go_cut [] from 44 to 48 (fun wx => ∃ (c : Int) (τ' : Src), Hid (carF zs (1 + a2) τ2 = (c, τ')) ∧ (1 ≤ c ∧ c ≤ 255) ∧ CarM w0 w wx b B a zs.length cap τ' av cp k S x (1 + a1) 0 c 0)
  case first =>
    by_cases h3 : a3 = 0
    · have b3 : (a3 == 0) = true := by simpa using h3
      have H3 : Hid (a3 = 0) := h3
      clear h3
      go_wp2_with fail
      refine (next_at w0 _ b a zs cap τ3 255 hC3.d hz hv hl (by omega) (by omega)).mono ?_
      rintro e v4 ⟨a4, τ4, rfl, M4, m4, n4, d4, gg4⟩
      have hC4 := hC3.call d4 gg4
      obtain ⟨⟨c0, c1, c2, c3, c4⟩, cf⟩ := hC4.cells
      have f3 := cf 3
      have HC : Hid (carF zs (1 + a2) τ2 = (1 + a4, τ4)) := by unfold Hid carF; simp only [M3.out, M4.out, if_pos H3.out]
      go_wp2_with fail
      go_meet
      case rel => exact ⟨_, _, HC, ⟨by omega, by omega⟩, hC4.put3 _⟩
    · have b3 : (a3 == 0) = false := by simpa using h3
      have HC : Hid (carF zs (1 + a2) τ2 = (1 + a2, τ3)) := by unfold Hid carF; simp only [M3.out, if_neg h3]
      go_wp2_with fail
      go_meet
      case rel => exact ⟨_, _, HC, ⟨by omega, by omega⟩, hC3⟩
  case rest =>
  clear hC3 M3 m3 n3
  obtain ⟨c, τ4, HC, hcb, hC4⟩ := hcut
  go_wp2_with fail
  refine (next_at w0 _ b a zs cap τ4 3 hC4.d hz hv hl (by omega) (by omega)).mono ?_
  rintro e v5 ⟨a5, τ5, rfl, M5, m5, n5, d5, gg5⟩
  have hC5 := hC4.call d5 gg5
  clear hC4 d5 gg5
  obtain ⟨⟨c0, c1, c2, c3, c4⟩, cf⟩ := hC5.cells
  have f4 := cf 4
  go_upto_if 51 with fail
  go_cut [] from 51 to 52 (fun wx => ∃ q : Int, Hid (queF zs τ4 = (q, τ5)) ∧ (q = 0 ∨ q = 1) ∧ CarM w0 w wx b B a zs.length cap τ5 av cp k S x (1 + a1) 0 c q)
  case first =>
    by_cases h5 : a5 = 0
    · have b5 : (a5 == 0) = true := by simpa using h5
      have H5 : Hid (a5 = 0) := h5
      clear h5
      have HQ : Hid (queF zs τ4 = (1, τ5)) := by unfold Hid queF; simp only [M5.out, if_pos H5.out]
      go_wp2_with fail
      go_meet
      case rel => exact ⟨1, HQ, .inr rfl, hC5.put4 _⟩
    · have b5 : (a5 == 0) = false := by simpa using h5
      have HQ : Hid (queF zs τ4 = (0, τ5)) := by unfold Hid queF; simp only [M5.out, if_neg h5]
      go_wp2_with fail
      go_meet
      case rel => exact ⟨0, HQ, .inl rfl, hC5⟩
  case rest =>
  clear hC5 M5 m5 n5 c0 c1 c2 c3 c4 cf f4
  obtain ⟨q, HQ, hqb, hC6⟩ := hcut
  go_wp2_with fail
  refine (next_at w0 _ b a zs cap τ5 12 hC6.d hz hv hl (by omega) (by omega)).mono ?_
  rintro e v7 ⟨a7, τ7, rfl, M7, m7, n7, d7, gg7⟩
  have hC7 := hC6.call d7 gg7
  clear hC6 d7 gg7
  obtain ⟨⟨c0, c1, c2, c3, c4⟩, cf⟩ := hC7.cells
  have f1 := cf 1
  go_upto_if 55 with fail
  go_cut [] from 55 to 56 (fun wx => ∃ l : Int, Hid (lenF zs (1 + a1) τ5 = (l, τ7)) ∧ (1 ≤ l ∧ l ≤ 32) ∧ CarM w0 w wx b B a zs.length cap τ7 av cp k S x l 0 c q)
  case first =>
    by_cases h7 : a7 = 0
    · have b7 : (a7 == 0) = true := by simpa using h7
      have H7 : Hid (a7 = 0) := h7
      clear h7
      have HL : Hid (lenF zs (1 + a1) τ5 = (32, τ7)) := by unfold Hid lenF; simp only [M7.out, if_pos H7.out]
      go_wp2_with fail
      go_meet
      case rel => exact ⟨32, HL, ⟨by omega, by omega⟩, hC7.put1 _⟩
    · have b7 : (a7 == 0) = false := by simpa using h7
      have HL : Hid (lenF zs (1 + a1) τ5 = (1 + a1, τ7)) := by unfold Hid lenF; simp only [M7.out, if_neg h7]
      go_wp2_with fail
      go_meet
      case rel => exact ⟨_, HL, ⟨by omega, by omega⟩, hC7⟩
  case rest =>
  clear hC7 M7 m7 n7 c0 c1 c2 c3 c4 cf f1
  obtain ⟨l, HL, hlb, hC8⟩ := hcut
  go_upto_region 16 with fail
  go_cut [65] from 57 to 64 (fun v wx => ∃ (ff : Bool) (τ' : Src), v = .bool ff ∧ Hid (finF zs (decide (R = 0)) τ7 = (ff, τ')) ∧ CarM w0 w wx b B a zs.length cap τ' av cp k S x l 0 c q)
  case first =>
    by_cases hR0 : R = 0
    · have hkl : ((k : Int) == (N : Int) - 1) = true := by have := hR.out; simp; omega
      go_wp2_with fail
      refine (next_at w0 _ b a zs cap τ7 3 hC8.d hz hv hl (by omega) (by omega)).mono ?_
      rintro e v9 ⟨a9, τ9, rfl, M9, m9, n9, d9, gg9⟩
      have HF : Hid (finF zs (decide (R = 0)) τ7 = (a9 == 0, τ9)) := by unfold Hid finF; simp only [hR0, decide_true, if_true, M9.out]; rfl
      go_wp2_with fail
      go_meet
      case rel => exact ⟨_, _, rfl, HF, hC8.call d9 gg9⟩
    · have hkl : ((k : Int) == (N : Int) - 1) = false := by have := hR.out; simp; omega
      have HF : Hid (finF zs (decide (R = 0)) τ7 = (false, τ7)) := by unfold Hid finF; simp [hR0]
      go_wp2_with fail
      go_meet
      case rel => exact ⟨_, _, rfl, HF, hC8⟩
  case rest =>
  clear hC8
  obtain ⟨ff, τ8, rfl, HF, hC8⟩ := hcut
  obtain ⟨⟨c0, c1, c2, c3, c4⟩, cf⟩ := hC8.cells
  have f1 := cf 1
  have f2 := cf 2
  go_upto_if 65 with fail
  go_cut [] from 66 to 67 (fun wx => ∃ l' f' : Int, Hid (mapF zs x (decide (R = 0)) τ = (⟨x, l', f', c, q⟩, τ8)) ∧ (0 ≤ l' ∧ l' ≤ 32) ∧ (f' = 0 ∨ f' = 1) ∧ CarM w0 w wx b B a zs.length cap τ8 av cp k S x l' f' c q)
  case first =>
    cases ff
    case true =>
      have HMF : Hid (mapF zs x (decide (R = 0)) τ = (⟨x, 0, 1, c, q⟩, τ8)) := by unfold Hid mapF; simp only [M1.out, M2.out, HC.out, HQ.out, HL.out, HF.out, if_true]
      go_wp2_with fail
      go_meet
      case rel => exact ⟨0, 1, HMF, ⟨by omega, by omega⟩, .inr rfl, (hC8.put2 _).put1 _⟩
    case false =>
      have HMF : Hid (mapF zs x (decide (R = 0)) τ = (⟨x, l, 0, c, q⟩, τ8)) := by unfold Hid mapF; simp only [M1.out, M2.out, HC.out, HQ.out, HL.out, HF.out]; simp
      go_wp2_with fail
      go_meet
      case rel => exact ⟨l, 0, HMF, ⟨by omega, by omega⟩, .inl rfl, hC8⟩
  case rest =>
  clear hC8 M1 M2 HC HQ HL HF c0 c1 c2 c3 c4 cf f1 f2
  obtain ⟨l', f', HMF, hl', hf', hC9⟩ := hcut
  obtain ⟨⟨c0, c1, c2, c3, c4⟩, cf⟩ := hC9.cells
  have hcsz := hC9.g.size
  have hn1 : (wc.alloc (.cells #[.int .u64 x, .int .i64 l', .int .i64 f', .int .i64 c, .int .i64 q] 55)).heap[wc.heap.size]? = some (.cells #[.int .u64 x, .int .i64 l', .int .i64 f', .int .i64 c, .int .i64 q] 55 (0, 0)) := heap_alloc_new wc _
  obtain ⟨e0, e1, e2, e3, e4⟩ := cellsM5 hn1
  have hBc : B < wc.heap.size := (Array.getElem?_eq_some_iff.1 hC9.bx).1
  have HKB : Hid (∀ w9 : World, (wc.alloc (.cells #[.int .u64 x, .int .i64 l', .int .i64 f', .int .i64 c, .int .i64 q] 55)).grownBy w9 (Value.slice av k cp).ownBlock → w9.cell? ⟨B, 1, none⟩ = some (.int .i64 l') ∧ DrawAt w0 w9 b a zs.length cap τ8 ∧ w.grownBy w9 (some b)) := by
    unfold Hid
    intro w9 hg9
    have hne : ∀ k', (Value.slice av k cp).ownBlock = some k' → w.heap.size ≤ k' := fun k' hk' => (hC9.row.lt k' hk').1
    have hb9 := (hg9.block B (by simp; omega) (fun e => hC9.br e.symm)).trans ((Below.heap_alloc wc _ B hBc).trans hC9.bx)
    have h1 := hC9.lt
    have h2 := hC9.w0
    exact ⟨Go.Joins.cell_of_block hb9 1, (hC9.d.grown (World.grownBy_alloc wc _ none) (by simp)).grown hg9 (fun k' hk' => by have := hne k' hk'; omega), grown_past (grown_past hC9.g (World.grownBy_alloc wc _ none) (by simp)) hg9 hne⟩
  have hrow9 := hC9.row.alloc (.cells #[.int .u64 x, .int .i64 l', .int .i64 f', .int .i64 c, .int .i64 q] 55)
  obtain ⟨X, hX⟩ : ∃ X, IntKind.u64.wrap (x + l') = X := ⟨_, rfl⟩
  have hXf := wrap64_fits (x + l')
  rw [hX] at hXf
  clear hC9 cf
  go_wp2_with (first
    | (at_builtin; refine wpList_oneM _ rfl _ _ (by rfl) w.heap.size av k cp S HSK.out x l' f' c q (by rfl) hrow9 wc.heap.size (by rfl) e0 e1 e2 e3 e4 (by omega) (by simp; omega) ?_; intro g9 cap9 w9 ho9 hg9; obtain ⟨kB, hd9, gr9⟩ := HKB.out w9 hg9)
    | fail)
  refine (next_at w0 _ b a zs cap τ8 6 hd9 hz hv hl (by omega) (by omega)).mono ?_
  rintro e v10 ⟨a10, τ10, rfl, M10, m10, n10, d10, gg10⟩
  have ho10 := kept_new ho9 gg10 hbl
  have gr10 := grown_trans gr9 gg10
  clear ho9 hg9 hd9 gr9 HKB gg10 kB
  have hfN : FitsM (S ++ [⟨x, l', f', c, q⟩]) := by
    intro p hp
    rcases List.mem_append.1 hp with h | h
    · exact hfS p h
    · simp at h; subst h; exact ⟨by simp only; omega, by simp only; omega, by simp only; omega, by simp only; omega, by simp only; omega⟩
  by_cases h10 : a10 = 0
  · have b10 : (a10 == 0) = true := by simpa using h10
    have H10 : Hid (a10 = 0) := h10
    clear h10
    go_wp2_with fail
    refine (next_at w0 _ b a zs cap τ10 9 d10 hz hv hl (by omega) (by omega)).mono ?_
    rintro e v11 ⟨a11, τ11, rfl, M11, m11, n11, d11, gg11⟩
    have HO : Hid (onF zs X τ8 = (IntKind.u64.wrap (X + a11), τ11)) := by unfold Hid onF; simp only [M10.out, M11.out, if_pos H10.out]
    have HE : Hid (mapsRun zs N σ4 x0 [] = mapsRun zs (N - (k + 1)) τ11 (IntKind.u64.wrap (X + a11)) (S ++ [⟨x, l', f', c, q⟩])) := by
      unfold Hid
      rw [HRk.out, hR.out, mapsRun, if_pos hx62, HMF.out]
      simp only [hX, HO.out]
      have : N - (k + 1) = R := by have := hR.out; omega
      rw [this]
    go_wp2_with fail
    go_roundw
    case rel => exact ⟨k + 1, _, _, S ++ [⟨x, l', f', c, q⟩], _, τ11, by omega, by go_num, rfl, rfl, wrap64_fits _, by rw [List.length_append, HSK.out]; rfl, hfN, HE, (kept_new ho10 gg11 hbl), d11, (grown_trans gr10 gg11)⟩
    case measure => simp [intOf]; omega
  · have b10 : (a10 == 0) = false := by simpa using h10
    have HO : Hid (onF zs X τ8 = (X, τ10)) := by unfold Hid onF; simp only [M10.out, if_neg h10]
    have HE : Hid (mapsRun zs N σ4 x0 [] = mapsRun zs (N - (k + 1)) τ10 X (S ++ [⟨x, l', f', c, q⟩])) := by
      unfold Hid
      rw [HRk.out, hR.out, mapsRun, if_pos hx62, HMF.out]
      simp only [hX, HO.out]
      have : N - (k + 1) = R := by have := hR.out; omega
      rw [this]
    go_wp2_with fail
    go_roundw
    case rel => exact ⟨k + 1, _, _, S ++ [⟨x, l', f', c, q⟩], _, τ10, by omega, by go_num, rfl, rfl, hXf, by rw [List.length_append, HSK.out]; rfl, hfN, HE, ho10, d10, gr10⟩
    case measure => simp [intOf]; omega
end Go.Proofs.Ytlagaiekoahjnaa
