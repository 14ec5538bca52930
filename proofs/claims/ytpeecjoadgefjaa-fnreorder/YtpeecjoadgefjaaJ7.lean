import Derived.Test.YtpeecjoadgefjaaJ6
import Derived.Deep.RegionHeld3
import Derived.Test.YtpeecjoadgefjaaJ2
import Derived.Test.YtpeecjoadgefjaaJ4
namespace Go.Proofs.Ytpeecjoadgefjaa
open Go.ChangeShapes Go.WideShapes Go.ChangeAt Go.RowKit
set_option linter.unusedVariables false

theorem info_re : (Try.prog.info? 48).map (fun i => (i.zero, i.size, i.bytes)) = some (some (.agg #[.int .i64 0, .int .u64 0, .slice none 0 0, .int .i64 0]), 4, 48) := by kernel_rfl
theorem filterMap_set {α β : Type} {f : α → Option β} (G : List α) (i : Nat) (p : α) (hi : i < G.length) (h : f p = f G[i]) : (G.set i p).filterMap f = G.filterMap f := by
  induction G generalizing i with
  | nil => simp at hi
  | cons q r ih =>
    cases i with
    | zero => simp only [List.set_cons_zero, List.filterMap_cons]; simp only [List.getElem_cons_zero] at h; rw [h]
    | succ i =>
      simp only [List.set_cons_succ, List.filterMap_cons]
      rw [ih i (by simpa using hi) (by simpa using h)]
theorem mem_set_iff {α : Type} {G : List α} {i : Nat} {p q : α} (h : q ∈ G.set i p) : q = p ∨ q ∈ G := by
  rcases List.mem_or_eq_of_mem_set h with h | h
  · exact .inr h
  · exact .inl h
/-- One event stored at a place that was empty: its bytes lie in a row that is new. -/
theorem EvsR.put {w : World} {base lim g cp n k : Nat} {G r : Evs} {p : REv × Option Addr × Nat} (hn : (G ++ zeroEv :: r).length = n) (hk : G.length = k) (h : EvsR w base (.slice (some ⟨g, 0, none⟩) n cp) (G ++ zeroEv :: r)) (hl : base ≤ lim) (hd : w.ownsRow lim 5 1 (evP p) p.1.dat.length (p.1.dat.map (.int .u8))) (hlt : ∀ q ∈ G ++ zeroEv :: r, ∀ k, (evP q).ownBlock = some k → k < lim) :
    EvsR ((((w.setCell ⟨g, k * 4, none⟩ (.int .i64 p.1.kd)).setCell ⟨g, k * 4 + 1, none⟩ (.int .u64 p.1.off)).setCell ⟨g, k * 4 + 2, none⟩ (evP p)).setCell ⟨g, k * 4 + 3, none⟩ (.int .i64 p.1.n)) base (.slice (some ⟨g, 0, none⟩) n cp) (G ++ p :: r) := by
  subst hn hk
  have hset : (G ++ zeroEv :: r).set G.length p = G ++ p :: r := by simp
  have hi : G.length < (G ++ zeroEv :: r).length := by simp
  have hother : ∀ {j : Nat}, j ≠ g → ((((w.setCell ⟨g, G.length * 4, none⟩ (.int .i64 p.1.kd)).setCell ⟨g, G.length * 4 + 1, none⟩ (.int .u64 p.1.off)).setCell ⟨g, G.length * 4 + 2, none⟩ (evP p)).setCell ⟨g, G.length * 4 + 3, none⟩ (.int .i64 p.1.n)).heap[j]? = w.heap[j]? := fun {j} hj => by
    rw [heap_setCell_other _ _ _ _ hj, heap_setCell_other _ _ _ _ hj, heap_setCell_other _ _ _ _ hj, heap_setCell_other _ _ _ _ hj]
  obtain ⟨cs, hcs⟩ := row_block h.row (k := g) rfl
  have hty : ∀ {b : Nat} {u : Value} {m : Nat} {ys : List Value}, w.ownsRow b 5 1 u m ys → ∀ j, u.ownBlock = some j → j ≠ g := fun {b u m ys} ho j hj => by
    obtain ⟨c2, hc2⟩ := row_block ho hj
    exact type_ne hc2 hcs (by decide)
  refine ⟨?_, fun q hq => ?_, ?_⟩
  · have h1 := (h.row.stored (G.length * 4) (.int .i64 p.1.kd)).1
    have h2 := (h1.stored (G.length * 4 + 1) (.int .u64 p.1.off)).1
    have h3 := (h2.stored (G.length * 4 + 2) (evP p)).1
    have h4 := (h3.stored (G.length * 4 + 3) (.int .i64 p.1.n)).1
    rw [flatE_set _ _ p hi, hset] at h4
    have e : (G ++ p :: r).length = (G ++ zeroEv :: r).length := by simp
    rw [e]
    exact h4
  · have hq2 : q = p ∨ q ∈ G ++ zeroEv :: r := by
      simp at hq
      rcases hq with hq | hq | hq
      · right; simp [hq]
      · left; exact hq
      · right; simp [hq]
    rcases hq2 with rfl | hq2
    · exact owned_base (row_stays hd fun j hj => hother (hty hd j hj)) hl
    · exact row_stays (h.dat q hq2) fun j hj => hother (hty (h.dat q hq2) j hj)
  · have h1 := h.apart
    rw [List.filterMap_append, List.filterMap_cons] at h1 ⊢
    have hz : (evP zeroEv).ownBlock = none := rfl
    rw [hz] at h1
    simp only at h1
    cases hp : (evP p).ownBlock with
    | none => simp only; exact h1
    | some j =>
      simp only
      have hj := (hd.lt j hp).1
      have hno : ∀ x, x ∈ (G.filterMap fun p => (evP p).ownBlock) ++ (r.filterMap fun p => (evP p).ownBlock) → x ≠ j := fun x hx e => by
        rw [← List.filterMap_append] at hx
        obtain ⟨q, hq, hqx⟩ := List.mem_filterMap.1 hx
        have := hlt q (by simp at hq ⊢; rcases hq with hq | hq <;> simp [hq]) x hqx
        omega
      rw [List.nodup_append] at h1 ⊢
      refine ⟨h1.1, List.nodup_cons.2 ⟨fun hm => hno j (List.mem_append_right _ hm) rfl, h1.2.1⟩, fun x hx y hy => ?_⟩
      rcases List.mem_cons.1 hy with rfl | hy
      · exact hno x (List.mem_append_left _ hx)
      · exact h1.2.2 x hx y hy

set_option maxHeartbeats 1000000 in
set_option maxRecDepth 100000 in
theorem toReorderEventS_any (a : Option Addr) (es : Evs) (n cap : Nat) (w : World) (hn : es.length = n) (hz : EvIn w a es) (hl : n ≤ 1048576) (hd : ∀ p ∈ es, p.1.dat.length ≤ 1048576) :
    Calls Try.prog 29 #[.slice a n cap] w fun e w' => ∃ G : Evs, e = .returned (.slice (some ⟨w.heap.size, 0, none⟩) n n) ∧ EvsR w' w.heap.size (.slice (some ⟨w.heap.size, 0, none⟩) n n) G ∧ G.map (·.1) = es.map (·.1) ∧ Below w.heap.size w w' := by
  obtain ⟨i0, hi, hz0, hz1, hz2⟩ := info_parts info_re
  have HN : Hid _ := hn
  clear hn
  go_enter Try.func29, Try.ntmps29
  go_wp2_with (at_make; refine wpList_make_full _ rfl _ _ 37 rfl w.heap.size 48 i0 (.agg #[.int .i64 0, .int .u64 0, .slice none 0 0, .int .i64 0]) 4 Try.underlying37 hi hz0 hz1 .i64 .i64 _ _ n rfl rfl rfl rfl (by rw [hz2]; omega) (by unfold maxLen; omega) (Nat.le_refl _) ?_; intro w1 hown hgrow)
  have hbel : Below w.heap.size w w1 := (Below.refl _ _).grown hgrow (Nat.le_refl _) (by simp)
  have HST : Hid (EvsR w1 w.heap.size (.slice (some ⟨w.heap.size, 0, none⟩) n n) ([] ++ List.replicate (n - 0) zeroEv)) := by
    refine ⟨?_, fun p hp => ?_, ?_⟩
    · rw [List.nil_append, Nat.sub_zero, List.length_replicate, flatE_replicate]
      exact hown
    · simp at hp
      rw [hp.2]
      exact ⟨rfl, .inl ⟨rfl, rfl⟩⟩
    · have e : (([] : Evs) ++ List.replicate (n - 0) zeroEv).filterMap (fun p => (evP p).ownBlock) = [] := by
        rw [List.nil_append, List.filterMap_eq_nil_iff]
        intro p hp
        rw [List.eq_of_mem_replicate hp]
        rfl
      rw [e]
      exact List.nodup_nil
  clear hown hgrow
  go_loopw [4] (fun iv wr => ∃ (k : Nat) (G : Evs), k ≤ n ∧ iv = .int .i64 (k : Int) ∧ Hid (G.length = k) ∧ Hid (G.map (·.1) = (es.map (·.1)).take k) ∧ Hid (EvsR wr w.heap.size (.slice (some ⟨w.heap.size, 0, none⟩) n n) (G ++ List.replicate (n - k) zeroEv)) ∧ Below w.heap.size w wr) (fun iv _ => n - (intOf iv).toNat)
  case atStart => exact ⟨0, [], Nat.zero_le _, rfl, rfl, rfl, HST, hbel⟩
  case round =>
  clear HST hbel
  obtain ⟨k, G, hk, rfl, HGK, HGM, HE, hb⟩ := hrel
  by_cases hlt : k < n
  · have hkl : k < es.length := by have := HN.out; omega
    rcases hz.at_ with h | ⟨b, off, rfl, hc⟩
    · have := HN.out; simp [h] at this; omega
    obtain ⟨c1, c2, c3, c4⟩ := hc k hkl
    have hmem := List.getElem_mem hkl
    have hdk := hd _ hmem
    have hik := hz.dat _ hmem
    have hmk : (es.map (·.1))[k]? = some (es[k]).1 := by rw [List.getElem?_map, List.getElem?_eq_getElem hkl]; rfl
    obtain ⟨⟨⟨kd, o, dat, nn⟩, da, dc⟩, he⟩ : ∃ p, es[k] = p := ⟨_, rfl⟩
    rw [he] at c1 c2 c3 c4 hdk hik hmk
    simp only at c1 c2 c3 c4 hdk hik hmk
    obtain ⟨dl, hdl⟩ : ∃ dl, Hid (dl = dat.length) := ⟨_, rfl⟩
    rw [← hdl.out] at c3 hdk
    have HMK : Hid _ := hmk
    have hlb := World.block_lt_of_cell? w _ c1
    have r1 := (hb.cell (p := ⟨b, off + k * 4, none⟩) hlb).trans c1
    have r2 := (hb.cell (p := ⟨b, off + k * 4 + 1, none⟩) hlb).trans c2
    have r3 := (hb.cell (p := ⟨b, off + k * 4 + 2, none⟩) hlb).trans c3
    have r4 := (hb.cell (p := ⟨b, off + k * 4 + 3, none⟩) hlb).trans c4
    have hcall := toReorderEvent_any kd o nn da dat dl dc wr (hik.moved hb) hdl.out.symm hdk
    have hszr := hb.size
    clear c1 c2 c3 c4 hc he hmk hmem
    have hrep : List.replicate (n - k) zeroEv = zeroEv :: List.replicate (n - (k + 1)) zeroEv := by
      rw [show n - k = (n - (k + 1)) + 1 by omega]
      rfl
    have hE := HE.out
    rw [hrep] at hE
    have HEE : Hid _ := hE
    have HLEN : Hid ((G ++ zeroEv :: List.replicate (n - (k + 1)) zeroEv).length = n) := by unfold Hid; have := HGK.out; simp; omega
    have HPL : Hid (∀ w2, Below wr.heap.size wr w2 → (∃ u0 u1 u2 u3, w2.cell? ⟨w.heap.size, k * 4, none⟩ = some u0 ∧ w2.cell? ⟨w.heap.size, k * 4 + 1, none⟩ = some u1 ∧ w2.cell? ⟨w.heap.size, k * 4 + 2, none⟩ = some u2 ∧ w2.cell? ⟨w.heap.size, k * 4 + 3, none⟩ = some u3) ∧ (∀ j, w2.frozen? ⟨w.heap.size, j, none⟩ = false)) := by
      intro w2 hb2
      have hE2 := HEE.out.below hb2
      have hrow := hE2.row
      rw [HLEN.out] at hrow
      have hki : k < (G ++ zeroEv :: List.replicate (n - (k + 1)) zeroEv).length := by rw [HLEN.out]; exact hlt
      obtain ⟨f0, f1, f2, f3⟩ := flatE_at hki
      exact ⟨⟨_, _, _, _, by rw [hrow.cellAt _ (by omega)]; exact f0, by rw [hrow.cellAt _ (by omega)]; exact f1, by rw [hrow.cellAt _ (by omega)]; exact f2, by rw [hrow.cellAt _ (by omega)]; exact f3⟩, fun j => hrow.frozenAt j⟩
    clear hE hrep
    go_wp2_with fail
    refine hcall.mono ?_
    rintro e w2 ⟨nb, rfl, ho2, hb2⟩
    obtain ⟨⟨u0, u1, u2, u3, p0, p1, p2, p3⟩, pf⟩ := HPL.out w2 hb2
    have pf0 := pf (k * 4)
    have pf1 := pf (k * 4 + 1)
    have pf2 := pf (k * 4 + 2)
    have pf3 := pf (k * 4 + 3)
    have hput := (HEE.out.below hb2).put (p := (⟨kd, o, dat, nn⟩, some ⟨nb, 0, none⟩, dl)) (lim := wr.heap.size) HLEN.out HGK.out hszr (by simp only [evP]; rw [← hdl.out]; exact ho2) (fun q hq j hj => ((HEE.out.dat q hq).lt j hj).2)
    simp only [evP] at hput
    rw [← hdl.out] at hput
    have hb3 := (((((hb.trans (hb2.mono hb.size)).setCell (p := ⟨w.heap.size, k * 4, none⟩) (Nat.le_refl _) (.int .i64 kd)).setCell (p := ⟨w.heap.size, k * 4 + 1, none⟩) (Nat.le_refl _) (.int .u64 o)).setCell (p := ⟨w.heap.size, k * 4 + 2, none⟩) (Nat.le_refl _) (.slice (some ⟨nb, 0, none⟩) dl dl)).setCell (p := ⟨w.heap.size, k * 4 + 3, none⟩) (Nat.le_refl _) (.int .i64 nn))
    have HPUT : Hid _ := hput
    clear hput pf hcall
    go_wp2_with fail
    go_roundw
    case rel =>
      refine ⟨k + 1, G ++ [(⟨kd, o, dat, nn⟩, some ⟨nb, 0, none⟩, dl)], by omega, by go_num, ?_, ?_, ?_, hb3⟩
      · unfold Hid; rw [List.length_append, HGK.out]; rfl
      · unfold Hid
        rw [List.map_append, HGM.out, List.take_add_one, HMK.out]
        rfl
      · unfold Hid
        rw [List.append_assoc]
        exact HPUT.out
    case measure => simp [intOf]; omega
  · obtain rfl : k = n := by omega
    have hkk : ¬ (k : Int) < (k : Int) := by omega
    go_wp2_with fail
    go_ret
    have hE := HE.out
    rw [Nat.sub_self, List.replicate_zero, List.append_nil] at hE
    exact ⟨rfl, G, hE, by rw [HGM.out, List.take_of_length_le (by have := HN.out; simp; omega)], hb⟩
end Go.Proofs.Ytpeecjoadgefjaa

namespace Go.Proofs.Ytpeecjoadgefjaa
open Go.ChangeShapes Go.WideShapes Go.ChangeAt Go.RowKit
set_option linter.unusedVariables false

/-! ### One drawn event -/
def dataF (en p m : Int) : List Int := (List.range (min (p + m) en - p).toNat).map fun (j : Nat) => byteF (p + j)
theorem dataF_length (en p m : Int) : (dataF en p m).length = (min (p + m) en - p).toNat := by simp [dataF]
theorem dataF_at {en p m : Int} {j : Nat} (h : j < (dataF en p m).length) : (dataF en p m).getD j 0 = byteF (p + j) := by
  rw [dataF_length] at h
  simp [dataF, h]
/-- Where the piece begins, by its distance. -/
def placeF (zs : List Int) (x : Int) (z : Nat) (s : RB) (σ : Src) : Int × Src :=
  if (nextF zs (nextF zs (nextF zs σ (z + 2)).2 6).2 2).1 = 0 then
    (s.read - x + (runLen s.f z s.read : Nat) - (nextF zs (nextF zs (nextF zs (nextF zs σ (z + 2)).2 6).2 2).2 3).1, (nextF zs (nextF zs (nextF zs (nextF zs σ (z + 2)).2 6).2 2).2 3).2)
  else (s.read - x + (nextF zs σ (z + 2)).1 - (nextF zs (nextF zs σ (z + 2)).2 6).1, (nextF zs (nextF zs (nextF zs σ (z + 2)).2 6).2 2).2)
def posF (p : Int) : Int := if p < 0 then 0 else p
def evFn (zs : List Int) (x : Int) (z : Nat) (en : Int) (s : RB) (σ : Src) : REv × Src :=
  if (nextF zs σ 100).1 < 60 then
    (⟨1, x + posF (placeF zs x z s (nextF zs σ 100).2).1, dataF en (posF (placeF zs x z s (nextF zs σ 100).2).1) (1 + (nextF zs (placeF zs x z s (nextF zs σ 100).2).2 12).1), 0⟩, (nextF zs (placeF zs x z s (nextF zs σ 100).2).2 12).2)
  else if (nextF zs σ 100).1 < 90 then (⟨2, 0, [], (nextF zs (nextF zs σ 100).2 20).1 - 1⟩, (nextF zs (nextF zs σ 100).2 20).2)
  else if ((nextF zs σ 100).1 < 96 ∧ en ≤ s.read - x + z) ∨ (nextF zs σ 100).1 = 96 then (⟨3, x + en, [], 0⟩, (nextF zs σ 100).2)
  else (⟨1, 0, [], 0⟩, (nextF zs σ 100).2)
def evsFn (zs : List Int) (x : Int) (z : Nat) (en : Int) (σ : Src) : Nat → List REv × Src
  | 0 => ([], σ)
  | k + 1 => ((evsFn zs x z en σ k).1 ++ [(evFn zs x z en (stateR z x (evsFn zs x z en σ k).1) (evsFn zs x z en σ k).2).1], (evFn zs x z en (stateR z x (evsFn zs x z en σ k).1) (evsFn zs x z en σ k).2).2)
theorem stateR_snoc (z : Nat) (x : Int) (es : List REv) (e : REv) : stateR z x (es ++ [e]) = (stepR z (stateR z x es) e).2 := by
  unfold stateR
  rw [List.foldl_append]
  rfl
/-- What is known of a drawn event. -/
structure DrawnE (x : Int) (e : REv) : Prop where
  ok : EvOk e
  hon : HonE x e
  kd : e.kd = 1 ∨ e.kd = 2 ∨ e.kd = 3
theorem drawn_piece {x en p m : Int} (x0 : 0 ≤ x) (x1 : x ≤ 4611686018427387904) (p0 : 0 ≤ p) (p1 : p ≤ 100000000) (m0 : 0 ≤ m) (m1 : m ≤ 100) : DrawnE x ⟨1, x + p, dataF en p m, 0⟩ := by
  refine ⟨⟨by simp only; omega, by simp only; omega, by simp, by simp, fun v hv => ?_, by rw [dataF_length]; omega⟩, fun _ _ => ⟨by simp only; omega, fun j hj => ?_⟩, .inl rfl⟩
  · simp only [dataF, List.mem_map] at hv
    obtain ⟨j, _, rfl⟩ := hv
    exact byteF_fits _
  · simp only at hj ⊢
    rw [dataF_at hj, show x + p + (j : Int) - x = p + j by omega]
theorem drawn_plain {x : Int} {kd off n : Int} (hk : kd = 1 ∨ kd = 2 ∨ kd = 3) (o0 : 0 ≤ off) (o1 : off ≤ 18446744073709551615) (n0 : -9223372036854775808 ≤ n) (n1 : n ≤ 9223372036854775807) : DrawnE x ⟨kd, off, [], n⟩ :=
  ⟨⟨o0, o1, n0, n1, fun v hv => by simp at hv, by simp⟩, fun _ h => absurd rfl h, hk⟩

/-! ### What lies in memory while events are drawn -/
structure DrawB (w0 w : World) (b : Nat) (a : Option Addr) (n cap : Nat) (x : Int) (z : Nat) (B : Nat) (s : RB) (v : Value) (got : List Int) (ev : Value) (G : Evs) (σ : Src) (wr : World) : Prop where
  dr : DrawAt w0 wr b a n cap σ
  bf : SpB wr B w.heap.size x z s v got
  ev : EvsR wr w.heap.size ev G
  gr : w.grownBy wr (some b)
  hb : b < w.heap.size
  hB : w.heap.size ≤ B
section
variable {w0 w : World} {b : Nat} {a : Option Addr} {n cap : Nat} {x : Int} {z : Nat} {B : Nat} {s : RB} {v : Value} {got : List Int} {ev : Value} {G : Evs} {σ : Src} {wr : World}
/-- Whatever leaves all these blocks as they were. -/
theorem DrawB.keeps (h : DrawB w0 w b a n cap x z B s v got ev G σ wr) {w' : World} {σ' : Src} (hd : DrawAt w0 w' b a n cap σ') (hg : w.grownBy w' (some b)) (hk : ∀ k, w.heap.size ≤ k → k < wr.heap.size → (k = B ∨ v.ownBlock = some k ∨ ev.ownBlock = some k ∨ ∃ p ∈ G, (evP p).ownBlock = some k) → w'.heap[k]? = wr.heap[k]?) : DrawB w0 w b a n cap x z B s v got ev G σ' w' := by
  refine ⟨hd, h.bf.kept (hk B h.hB h.bf.lt (.inl rfl)) fun k hk' => hk k (h.bf.row.lt k hk').1 (h.bf.row.lt k hk').2 (.inr (.inl hk')), ⟨row_stays h.ev.row fun k hk' => hk k (h.ev.row.lt k hk').1 (h.ev.row.lt k hk').2 (.inr (.inr (.inl hk'))), fun p hp => row_stays (h.ev.dat p hp) fun k hk' => hk k ((h.ev.dat p hp).lt k hk').1 ((h.ev.dat p hp).lt k hk').2 (.inr (.inr (.inr ⟨p, hp, hk'⟩))), h.ev.apart⟩, hg, h.hb, h.hB⟩
theorem DrawB.next (h : DrawB w0 w b a n cap x z B s v got ev G σ wr) {w' : World} {σ' : Src} (hd : DrawAt w0 w' b a n cap σ') (hg : wr.grownBy w' (some b)) : DrawB w0 w b a n cap x z B s v got ev G σ' w' := by
  refine h.keeps hd (grown_trans h.gr hg) fun k h1 h2 _ => hg.block k h2 (fun e => ?_)
  have := Option.some.inj e
  have := h.hb
  omega
theorem DrawB.size (h : DrawB w0 w b a n cap x z B s v got ev G σ wr) : w.heap.size ≤ wr.heap.size := h.gr.size
theorem DrawB.grown (h : DrawB w0 w b a n cap x z B s v got ev G σ wr) {w' : World} {r : Option Nat} (hg : wr.grownBy w' r) (hr : ∀ k, r = some k → w.heap.size ≤ k ∧ k ≠ B ∧ v.ownBlock ≠ some k ∧ ev.ownBlock ≠ some k ∧ ∀ p ∈ G, (evP p).ownBlock ≠ some k) : DrawB w0 w b a n cap x z B s v got ev G σ w' := by
  refine h.keeps (h.dr.grown hg fun k hk => ⟨Nat.le_trans (Nat.le_trans h.dr.new (Nat.le_of_lt h.hb)) (hr k hk).1, by have := (hr k hk).1; have := h.hb; omega⟩) (grown_past h.gr hg fun k hk => (hr k hk).1) fun k h1 h2 hk => hg.block k h2 (fun e => ?_)
  obtain ⟨_, r1, r2, r3, r4⟩ := hr k e.symm
  rcases hk with rfl | hk | hk | ⟨p, hp, hk⟩
  · exact r1 rfl
  · exact r2 hk
  · exact r3 hk
  · exact r4 p hp hk
theorem DrawB.alloc (h : DrawB w0 w b a n cap x z B s v got ev G σ wr) (o : Obj) : DrawB w0 w b a n cap x z B s v got ev G σ (wr.alloc o) := h.grown (World.grownBy_alloc wr o none) (by simp)
theorem DrawB.drew (h : DrawB w0 w b a n cap x z B s v got ev G σ wr) : DrawB w0 w b a n cap x z B s v got ev G σ wr.drew := ⟨h.dr.drew, ⟨h.bf.blk, h.bf.row, h.bf.got⟩, ⟨h.ev.row, h.ev.dat, h.ev.apart⟩, ⟨h.gr.os, h.gr.tape, h.gr.output, h.gr.size, h.gr.block⟩, h.hb, h.hB⟩
/-- A store into a block that is new. -/
theorem DrawB.set (h : DrawB w0 w b a n cap x z B s v got ev G σ wr) {lim E : Nat} (hE : lim ≤ E) (hl : w.heap.size ≤ lim) (hb : B < lim) (hv : ∀ k, v.ownBlock = some k → k < lim) (he : ∀ k, ev.ownBlock = some k → k < lim) (hp : ∀ p ∈ G, ∀ k, (evP p).ownBlock = some k → k < lim) (j : Nat) (u : Value) : DrawB w0 w b a n cap x z B s v got ev G σ (wr.setCell ⟨E, j, none⟩ u) := by
  refine h.grown (grown_set1 wr E j u) fun k hk => ?_
  have e := Option.some.inj hk
  subst e
  exact ⟨by omega, by omega, fun e => by have := hv _ e; omega, fun e => by have := he _ e; omega, fun p hp' e => by have := hp p hp' _ e; omega⟩
end
theorem info_re2 : (Try.prog.info? 48).map (fun i => (i.zero, i.size, i.bytes)) = some (some (.agg #[.int .i64 0, .int .u64 0, .slice none 0 0, .int .i64 0]), 4, 48) := by kernel_rfl
/-- One append of one event that lies in block b, in a walk. -/
theorem wpList_appE (w : World) {ops : Array Oper} {rest : List Oper} {o : Oper} {a : Act} {Q : Exit → Act → World → Prop} (hgd : o.guard = none) (s x : Operand)
    (ho : o.op = .call { callee := .builtin .append, args := #[s, x], argTypes := #[37, 37] })
    (base : Nat) (av : Option Addr) (n cap : Nat) (xs : List Value) (hs : a.eval s = .slice av n cap) (hown : w.ownsRow base 48 4 (.slice av n cap) n xs)
    (b : Nat) (u0 u1 u2 u3 : Value) (hx : a.eval x = .slice (some ⟨b, 0, none⟩) 1 1) (hb : w.heap[b]? = some (.cells #[u0, u1, u2, u3] 48)) (h1 : ∀ u ∈ [u0, u1, u2, u3], u.oneCell' = true) (hl : n ≤ 1048576) (hbase : base ≤ w.heap.size)
    (h : ∀ g cap' w', w'.ownsRow base 48 4 (.slice (some ⟨g, 0, none⟩) (n + 1) cap') (n + 1) (xs ++ [u0, u1, u2, u3]) → w.grownBy w' (Value.slice av n cap).ownBlock →
      wpList Try.prog ops Q rest (a.put o.dst (.slice (some ⟨g, 0, none⟩) (n + 1) cap')) w') : wpList Try.prog ops Q (o :: rest) a w := by
  obtain ⟨i0, hi, hz0, hz1, hz2⟩ := info_parts info_re2
  obtain ⟨⟨f0, f1, f2, f3⟩, _⟩ := cells4r hb
  refine wpList_append_own w hgd s x 37 ho base 48 i0 (.agg #[.int .i64 0, .int .u64 0, .slice none 0 0, .int .i64 0]) 4 48 Try.underlying37 hi hz0 hz1 hz2 rfl (by decide) (.slice av n cap) n xs hs hown ⟨b, 0, none⟩ 1 1 [u0, u1, u2, u3] hx rfl ?_ h1 ?_ ?_ hbase ?_
  · intro j u hj
    match j, hj with
    | 0, hj => simp at hj; subst hj; rw [← f0]; congr 1
    | 1, hj => simp at hj; subst hj; rw [← f1]; congr 1
    | 2, hj => simp at hj; subst hj; rw [← f2]; congr 1
    | 3, hj => simp at hj; subst hj; rw [← f3]; congr 1
  · unfold maxLen; omega
  · omega
  · intro v' w' h2 h3 h4
    rcases h2.2 with ⟨rfl, h0⟩ | ⟨g, cap', cur, rfl, rest⟩
    · omega
    · exact h g cap' w' h2 h3
theorem flatE_snoc (G : Evs) (p : REv × Option Addr × Nat) : flatE (G ++ [p]) = flatE G ++ [.int .i64 p.1.kd, .int .u64 p.1.off, .slice p.2.1 p.1.dat.length p.2.2, .int .i64 p.1.n] := by simp [flatE]
theorem EvsR.push {w w' : World} {base lim : Nat} {ov : Value} {G : Evs} {p : REv × Option Addr × Nat} {g cap : Nat} (h : EvsR w base ov G) (hl : base ≤ lim) (hd : w.ownsRow lim 5 1 (evP p) p.1.dat.length (p.1.dat.map (.int .u8))) (hlt : ∀ q ∈ G, ∀ k, (evP q).ownBlock = some k → k < lim)
    (hg : w.grownBy w' ov.ownBlock) (hnew : w'.ownsRow base 48 4 (.slice (some ⟨g, 0, none⟩) (G.length + 1) cap) (G.length + 1) (flatE G ++ [.int .i64 p.1.kd, .int .u64 p.1.off, evP p, .int .i64 p.1.n])) :
    EvsR w' base (.slice (some ⟨g, 0, none⟩) (G.length + 1) cap) (G ++ [p]) := by
  have hn : ∀ {u : Value} {m : Nat} {ys : List Value} {b : Nat}, w.ownsRow b 5 1 u m ys → u.ownBlock = none ∨ u.ownBlock ≠ ov.ownBlock := fun {u m ys b} ho => by
    cases hu : u.ownBlock with
    | none => exact .inl rfl
    | some k =>
      refine .inr fun e2 => ?_
      obtain ⟨cs, hc⟩ := row_block ho hu
      obtain ⟨ct, hct⟩ := row_block h.row e2.symm
      exact type_ne hc hct (by decide) rfl
  refine ⟨by rw [flatE_snoc, List.length_append]; exact hnew, fun q hq => ?_, ?_⟩
  · rcases List.mem_append.1 hq with hq | hq
    · exact (h.dat q hq).kept hg (hn (h.dat q hq))
    · simp at hq; subst hq
      exact owned_base (hd.kept hg (hn hd)) hl
  · rw [List.filterMap_append, List.nodup_append]
    refine ⟨h.apart, by simp only [List.filterMap_cons, List.filterMap_nil]; split <;> simp, ?_⟩
    intro x hx y hy e
    subst e
    obtain ⟨q, hq, hqx⟩ := List.mem_filterMap.1 hx
    have h1 := hlt q hq x hqx
    have h2 : (evP p).ownBlock = some x := by
      simp only [List.filterMap_cons, List.filterMap_nil] at hy
      cases hpp : (evP p).ownBlock with
      | none => rw [hpp] at hy; simp at hy
      | some j => rw [hpp] at hy; simp at hy; rw [hy]
    have h3 := (hd.lt x h2).1
    omega
/-- A call of l5Byte, in a region that draws. -/
theorem step_byte (w : World) {ops : Array Oper} {o : Oper} {a : Act} {K : Act → World → Prop} {Q : Exit → Act → World → Prop} {E : Prop} (hgd : o.guard = none) (s : Operand)
    (ho : o.op = .call { callee := .value (.func 55), args := #[s], argTypes := #[2] }) (i : Int) (hs : a.eval s = .int .i64 i) (i0 : 0 ≤ i) (i1 : i ≤ 1000000000) (h : K (a.put o.dst (.int .u8 (byteF i))) w) :
    if Region.wanted o (yielded ops a.tmps) = true then Oper.wp Try.prog o a w K Q else E := by
  have hw : Region.wanted o (yielded ops a.tmps) = true := by simp [Region.wanted, hgd]
  rw [if_pos hw]
  unfold Oper.wp
  simp [execOp, ho, resolve, invoke, go_sem]
  simp [go_sem] at hs
  rw [hs]
  refine (l5Byte_any i w i0 i1).mono ?_
  rintro e9 w1 ⟨rfl, rfl⟩
  simpa [go_sem] using h
end Go.Proofs.Ytpeecjoadgefjaa
