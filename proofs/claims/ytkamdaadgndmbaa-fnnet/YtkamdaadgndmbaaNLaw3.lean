import Derived.Test.YtkamdaadgndmbaaNLaw2
import Derived.Deep.RegionHeld3
namespace Go.Proofs.Ytkamdaadgndmbaa
open Go.ChangeShapes Go.WideShapes Go.ChangeAt Go.RowKit
set_option linter.unusedVariables false

theorem info_ne : (Try.prog.info? 35).map (fun i => (i.zero, i.size, i.bytes)) = some (some (.agg #[.int .i64 0, .int .i64 0, .int .i64 0, .int .i64 0, .slice none 0 0]), 5, 56) := by kernel_rfl
theorem filterMap_set {α β : Type} {f : α → Option β} (G : List α) (i : Nat) (p : α) (hi : i < G.length) (h : f p = f G[i]) : (G.set i p).filterMap f = G.filterMap f := by
  induction G generalizing i with
  | nil => simp at hi
  | cons q r ih =>
    cases i with
    | zero => simp only [List.set_cons_zero, List.filterMap_cons]; simp only [List.getElem_cons_zero] at h; rw [h]
    | succ i =>
      simp only [List.set_cons_succ, List.filterMap_cons]
      rw [ih i (by simpa using hi) (by simpa using h)]
theorem mem_set_iff {α : Type} {G : List α} {i : Nat} {p q : α} (h : q ∈ G.set i p) : q = p ∨ q ∈ G := by
  rcases List.mem_or_eq_of_mem_set h with h | h
  · exact .inr h
  · exact .inl h
/-- One event stored at a place that was empty: its bytes lie in a row that is new. -/
theorem EvsN.put {w : World} {base lim g cp n k : Nat} {G r : Evs} {p : NEv × Option Addr × Nat} (hn : (G ++ zeroEv :: r).length = n) (hk : G.length = k) (h : EvsN w base (.slice (some ⟨g, 0, none⟩) n cp) (G ++ zeroEv :: r)) (hl : base ≤ lim) (hd : w.ownsRow lim 5 1 (evP p) p.1.dat.length (p.1.dat.map (.int .u8))) (hlt : ∀ q ∈ G ++ zeroEv :: r, ∀ k, (evP q).ownBlock = some k → k < lim) :
    EvsN (((((w.setCell ⟨g, k * 5, none⟩ (.int .i64 p.1.kd)).setCell ⟨g, k * 5 + 1, none⟩ (.int .i64 p.1.pa)).setCell ⟨g, k * 5 + 2, none⟩ (.int .i64 p.1.di)).setCell ⟨g, k * 5 + 3, none⟩ (.int .i64 p.1.ix)).setCell ⟨g, k * 5 + 4, none⟩ (evP p)) base (.slice (some ⟨g, 0, none⟩) n cp) (G ++ p :: r) := by
  subst hn hk
  have hset : (G ++ zeroEv :: r).set G.length p = G ++ p :: r := by simp
  have hi : G.length < (G ++ zeroEv :: r).length := by simp
  have hother : ∀ {j : Nat}, j ≠ g → (((((w.setCell ⟨g, G.length * 5, none⟩ (.int .i64 p.1.kd)).setCell ⟨g, G.length * 5 + 1, none⟩ (.int .i64 p.1.pa)).setCell ⟨g, G.length * 5 + 2, none⟩ (.int .i64 p.1.di)).setCell ⟨g, G.length * 5 + 3, none⟩ (.int .i64 p.1.ix)).setCell ⟨g, G.length * 5 + 4, none⟩ (evP p)).heap[j]? = w.heap[j]? := fun {j} hj => by
    rw [heap_setCell_other _ _ _ _ hj, heap_setCell_other _ _ _ _ hj, heap_setCell_other _ _ _ _ hj, heap_setCell_other _ _ _ _ hj, heap_setCell_other _ _ _ _ hj]
  obtain ⟨cs, hcs⟩ := row_block h.row (k := g) rfl
  have hty : ∀ {b : Nat} {u : Value} {m : Nat} {ys : List Value}, w.ownsRow b 5 1 u m ys → ∀ j, u.ownBlock = some j → j ≠ g := fun {b u m ys} ho j hj => by
    obtain ⟨c2, hc2⟩ := row_block ho hj
    exact type_ne hc2 hcs (by decide)
  refine ⟨?_, fun q hq => ?_, ?_⟩
  · have h1 := (h.row.stored (G.length * 5) (.int .i64 p.1.kd)).1
    have h2 := (h1.stored (G.length * 5 + 1) (.int .i64 p.1.pa)).1
    have h3 := (h2.stored (G.length * 5 + 2) (.int .i64 p.1.di)).1
    have h4 := (h3.stored (G.length * 5 + 3) (.int .i64 p.1.ix)).1
    have h5 := (h4.stored (G.length * 5 + 4) (evP p)).1
    rw [flatE_set _ _ p hi, hset] at h5
    have e : (G ++ p :: r).length = (G ++ zeroEv :: r).length := by simp
    rw [e]
    exact h5
  · have hq2 : q = p ∨ q ∈ G ++ zeroEv :: r := by
      simp at hq
      rcases hq with hq | hq | hq
      · right; simp [hq]
      · left; exact hq
      · right; simp [hq]
    rcases hq2 with rfl | hq2
    · exact owned_base (row_stays hd fun j hj => hother (hty hd j hj)) hl
    · exact row_stays (h.dat q hq2) fun j hj => hother (hty (h.dat q hq2) j hj)
  · have h1 := h.apart
    rw [List.filterMap_append, List.filterMap_cons] at h1 ⊢
    have hz : (evP zeroEv).ownBlock = none := rfl
    rw [hz] at h1
    simp only at h1
    cases hp : (evP p).ownBlock with
    | none => simp only; exact h1
    | some j =>
      simp only
      have hj := (hd.lt j hp).1
      have hno : ∀ x, x ∈ (G.filterMap fun p => (evP p).ownBlock) ++ (r.filterMap fun p => (evP p).ownBlock) → x ≠ j := fun x hx e => by
        rw [← List.filterMap_append] at hx
        obtain ⟨q, hq, hqx⟩ := List.mem_filterMap.1 hx
        have := hlt q (by simp at hq ⊢; rcases hq with hq | hq <;> simp [hq]) x hqx
        omega
      rw [List.nodup_append] at h1 ⊢
      refine ⟨h1.1, List.nodup_cons.2 ⟨fun hm => hno j (List.mem_append_right _ hm) rfl, h1.2.1⟩, fun x hx y hy => ?_⟩
      rcases List.mem_cons.1 hy with rfl | hy
      · exact hno x (List.mem_append_left _ hx)
      · exact h1.2.2 x hx y hy

set_option maxHeartbeats 1000000 in
set_option maxRecDepth 100000 in
theorem toNetEventS_any (a : Option Addr) (es : Evs) (n cap : Nat) (w : World) (hn : es.length = n) (hz : EvIn w a es) (hl : n ≤ 1048576) (hd : ∀ p ∈ es, p.1.dat.length ≤ 1048576) :
    Calls Try.prog 12 #[.slice a n cap] w fun e w' => ∃ G : Evs, e = .returned (.slice (some ⟨w.heap.size, 0, none⟩) n n) ∧ EvsN w' w.heap.size (.slice (some ⟨w.heap.size, 0, none⟩) n n) G ∧ G.map (·.1) = es.map (·.1) ∧ Below w.heap.size w w' := by
  obtain ⟨i0, hi, hz0, hz1, hz2⟩ := info_parts info_ne
  have HN : Hid _ := hn
  clear hn
  go_enter Try.func12, Try.ntmps12
  go_wp2_with (at_make; refine wpList_make_full _ rfl _ _ 23 rfl w.heap.size 35 i0 (.agg #[.int .i64 0, .int .i64 0, .int .i64 0, .int .i64 0, .slice none 0 0]) 5 Try.underlying23 hi hz0 hz1 .i64 .i64 _ _ n rfl rfl rfl rfl (by rw [hz2]; omega) (by unfold maxLen; omega) (Nat.le_refl _) ?_; intro w1 hown hgrow)
  have hbel : Below w.heap.size w w1 := (Below.refl _ _).grown hgrow (Nat.le_refl _) (by simp)
  have HST : Hid (EvsN w1 w.heap.size (.slice (some ⟨w.heap.size, 0, none⟩) n n) ([] ++ List.replicate (n - 0) zeroEv)) := by
    refine ⟨?_, fun p hp => ?_, ?_⟩
    · rw [List.nil_append, Nat.sub_zero, List.length_replicate, flatE_replicate]
      exact hown
    · simp at hp
      rw [hp.2]
      exact ⟨rfl, .inl ⟨rfl, rfl⟩⟩
    · have e : (([] : Evs) ++ List.replicate (n - 0) zeroEv).filterMap (fun p => (evP p).ownBlock) = [] := by
        rw [List.nil_append, List.filterMap_eq_nil_iff]
        intro p hp
        rw [List.eq_of_mem_replicate hp]
        rfl
      rw [e]
      exact List.nodup_nil
  clear hown hgrow
  go_loopw [4] (fun iv wr => ∃ (k : Nat) (G : Evs), k ≤ n ∧ iv = .int .i64 (k : Int) ∧ Hid (G.length = k) ∧ Hid (G.map (·.1) = (es.map (·.1)).take k) ∧ Hid (EvsN wr w.heap.size (.slice (some ⟨w.heap.size, 0, none⟩) n n) (G ++ List.replicate (n - k) zeroEv)) ∧ Below w.heap.size w wr) (fun iv _ => n - (intOf iv).toNat)
  case atStart => exact ⟨0, [], Nat.zero_le _, rfl, rfl, rfl, HST, hbel⟩
  case round =>
  clear HST hbel
  obtain ⟨k, G, hk, rfl, HGK, HGM, HE, hb⟩ := hrel
  by_cases hlt : k < n
  · have hkl : k < es.length := by have := HN.out; omega
    rcases hz.at_ with h | ⟨b, off, rfl, hc⟩
    · have := HN.out; simp [h] at this; omega
    obtain ⟨c1, c2, c3, c4, c5⟩ := hc k hkl
    have hmem := List.getElem_mem hkl
    have hdk := hd _ hmem
    have hik := hz.dat _ hmem
    have hmk : (es.map (·.1))[k]? = some (es[k]).1 := by rw [List.getElem?_map, List.getElem?_eq_getElem hkl]; rfl
    obtain ⟨⟨⟨kd, pa, di, ix, dat⟩, da, dc⟩, he⟩ : ∃ p, es[k] = p := ⟨_, rfl⟩
    rw [he] at c1 c2 c3 c4 c5 hdk hik hmk
    simp only at c1 c2 c3 c4 c5 hdk hik hmk
    obtain ⟨dl, hdl⟩ : ∃ dl, Hid (dl = dat.length) := ⟨_, rfl⟩
    rw [← hdl.out] at c5 hdk
    have HMK : Hid _ := hmk
    have hlb := World.block_lt_of_cell? w _ c1
    have r1 := (hb.cell (p := ⟨b, off + k * 5, none⟩) hlb).trans c1
    have r2 := (hb.cell (p := ⟨b, off + k * 5 + 1, none⟩) hlb).trans c2
    have r3 := (hb.cell (p := ⟨b, off + k * 5 + 2, none⟩) hlb).trans c3
    have r4 := (hb.cell (p := ⟨b, off + k * 5 + 3, none⟩) hlb).trans c4
    have r5 := (hb.cell (p := ⟨b, off + k * 5 + 4, none⟩) hlb).trans c5
    have hcall := toNetEvent_any kd pa di ix da dat dl dc wr (hik.moved hb) hdl.out.symm hdk
    have hszr := hb.size
    clear c1 c2 c3 c4 c5 hc he hmk hmem
    have hrep : List.replicate (n - k) zeroEv = zeroEv :: List.replicate (n - (k + 1)) zeroEv := by
      rw [show n - k = (n - (k + 1)) + 1 by omega]
      rfl
    have hE := HE.out
    rw [hrep] at hE
    have HEE : Hid _ := hE
    have HLEN : Hid ((G ++ zeroEv :: List.replicate (n - (k + 1)) zeroEv).length = n) := by unfold Hid; have := HGK.out; simp; omega
    have HPL : Hid (∀ w2, Below wr.heap.size wr w2 → (∃ u0 u1 u2 u3 u4, w2.cell? ⟨w.heap.size, k * 5, none⟩ = some u0 ∧ w2.cell? ⟨w.heap.size, k * 5 + 1, none⟩ = some u1 ∧ w2.cell? ⟨w.heap.size, k * 5 + 2, none⟩ = some u2 ∧ w2.cell? ⟨w.heap.size, k * 5 + 3, none⟩ = some u3 ∧ w2.cell? ⟨w.heap.size, k * 5 + 4, none⟩ = some u4) ∧ (∀ j, w2.frozen? ⟨w.heap.size, j, none⟩ = false)) := by
      intro w2 hb2
      have hE2 := HEE.out.below hb2
      have hrow := hE2.row
      rw [HLEN.out] at hrow
      have hki : k < (G ++ zeroEv :: List.replicate (n - (k + 1)) zeroEv).length := by rw [HLEN.out]; exact hlt
      obtain ⟨f0, f1, f2, f3, f4⟩ := flatE_at hki
      exact ⟨⟨_, _, _, _, _, by rw [hrow.cellAt _ (by omega)]; exact f0, by rw [hrow.cellAt _ (by omega)]; exact f1, by rw [hrow.cellAt _ (by omega)]; exact f2, by rw [hrow.cellAt _ (by omega)]; exact f3, by rw [hrow.cellAt _ (by omega)]; exact f4⟩, fun j => hrow.frozenAt j⟩
    clear hE hrep
    go_wp2_with fail
    refine hcall.mono ?_
    rintro e w2 ⟨nb, rfl, ho2, hb2⟩
    obtain ⟨⟨u0, u1, u2, u3, u4, p0, p1, p2, p3, p4⟩, pf⟩ := HPL.out w2 hb2
    have pf0 := pf (k * 5)
    have pf1 := pf (k * 5 + 1)
    have pf2 := pf (k * 5 + 2)
    have pf3 := pf (k * 5 + 3)
    have pf4 := pf (k * 5 + 4)
    have hput := (HEE.out.below hb2).put (p := (⟨kd, pa, di, ix, dat⟩, some ⟨nb, 0, none⟩, dl)) (lim := wr.heap.size) HLEN.out HGK.out hszr (by simp only [evP]; rw [← hdl.out]; exact ho2) (fun q hq j hj => ((HEE.out.dat q hq).lt j hj).2)
    simp only [evP] at hput
    rw [← hdl.out] at hput
    have hb3 := ((((((hb.trans (hb2.mono hb.size)).setCell (p := ⟨w.heap.size, k * 5, none⟩) (Nat.le_refl _) (.int .i64 kd)).setCell (p := ⟨w.heap.size, k * 5 + 1, none⟩) (Nat.le_refl _) (.int .i64 pa)).setCell (p := ⟨w.heap.size, k * 5 + 2, none⟩) (Nat.le_refl _) (.int .i64 di)).setCell (p := ⟨w.heap.size, k * 5 + 3, none⟩) (Nat.le_refl _) (.int .i64 ix)).setCell (p := ⟨w.heap.size, k * 5 + 4, none⟩) (Nat.le_refl _) (.slice (some ⟨nb, 0, none⟩) dl dl))
    have HPUT : Hid _ := hput
    clear hput pf hcall
    go_wp2_with fail
    go_roundw
    case rel =>
      refine ⟨k + 1, G ++ [(⟨kd, pa, di, ix, dat⟩, some ⟨nb, 0, none⟩, dl)], by omega, by go_num, ?_, ?_, ?_, hb3⟩
      · unfold Hid; rw [List.length_append, HGK.out]; rfl
      · unfold Hid
        rw [List.map_append, HGM.out, List.take_add_one, HMK.out]
        rfl
      · unfold Hid
        rw [List.append_assoc]
        exact HPUT.out
    case measure => simp [intOf]; omega
  · obtain rfl : k = n := by omega
    have hkk : ¬ (k : Int) < (k : Int) := by omega
    go_wp2_with fail
    go_ret
    have hE := HE.out
    rw [Nat.sub_self, List.replicate_zero, List.append_nil] at hE
    exact ⟨rfl, G, hE, by rw [HGM.out, List.take_of_length_le (by have := HN.out; simp; omega)], hb⟩
end Go.Proofs.Ytkamdaadgndmbaa
