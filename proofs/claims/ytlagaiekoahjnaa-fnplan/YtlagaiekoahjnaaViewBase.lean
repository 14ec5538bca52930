import Derived.Test.YtlagaiekoahjnaaRows1
import Derived.Deep.RegionHeld3
import Derived.Laws.AppendOwnNone
namespace Go.Proofs.Ytlagaiekoahjnaa
open Go.ChangeShapes Go.WideShapes Go.ChangeAt Go.RowKit
set_option linter.unusedVariables false

structure Vw where
  ali : Int
  bck : Int
  rom : Int

abbrev Vw.vals (m : Vw) : List Value := [.int .i64 m.ali, .int .i64 m.bck, .int .i64 m.rom]
abbrev Vws := List Vw
def Vw.ok (m : Vw) : Prop := (-9223372036854775808 ≤ m.ali ∧ m.ali ≤ 9223372036854775807) ∧ (-9223372036854775808 ≤ m.bck ∧ m.bck ≤ 9223372036854775807) ∧ (-9223372036854775808 ≤ m.rom ∧ m.rom ≤ 9223372036854775807)
def FitsV (S : Vws) : Prop := ∀ m ∈ S, m.ok

/-- The structs S lie at a. -/
def LieV (w : World) (a : Option Addr) (S : Vws) : Prop :=
  S = [] ∨ ∃ b off, a = some ⟨b, off, none⟩ ∧ ∀ i, ∀ h : i < S.length, w.cell? ⟨b, off + i * 3, none⟩ = some (.int .i64 (S[i]).ali) ∧ w.cell? ⟨b, off + i * 3 + 1, none⟩ = some (.int .i64 (S[i]).bck) ∧ w.cell? ⟨b, off + i * 3 + 2, none⟩ = some (.int .i64 (S[i]).rom)

theorem LieV.moved {w w' : World} {a : Option Addr} {S : Vws} (h : LieV w a S) (hb : Below w.heap.size w w') : LieV w' a S := by
  rcases h with h | ⟨b, off, ha, hc⟩
  · exact .inl h
  · refine .inr ⟨b, off, ha, fun i hi => ?_⟩
    obtain ⟨h0, h1, h2⟩ := hc i hi
    rw [hb.cell (World.block_lt_of_cell? w _ h0), hb.cell (World.block_lt_of_cell? w _ h1), hb.cell (World.block_lt_of_cell? w _ h2)]
    exact ⟨h0, h1, h2⟩

/-- One of them, its fields under names of their own. -/
theorem LieV.at {w : World} {b off : Nat} {S : Vws} {k : Nat} (hf : FitsV S) (hc : ∀ i, ∀ h : i < S.length, w.cell? ⟨b, off + i * 3, none⟩ = some (.int .i64 (S[i]).ali) ∧ w.cell? ⟨b, off + i * 3 + 1, none⟩ = some (.int .i64 (S[i]).bck) ∧ w.cell? ⟨b, off + i * 3 + 2, none⟩ = some (.int .i64 (S[i]).rom)) (h : k < S.length) :
    ∃ c0 c1 c2 : Int, Hid (S[k] = ⟨c0, c1, c2⟩) ∧ (Vw.mk c0 c1 c2).ok ∧ w.cell? ⟨b, off + k * 3, none⟩ = some (.int .i64 c0) ∧ w.cell? ⟨b, off + k * 3 + 1, none⟩ = some (.int .i64 c1) ∧ w.cell? ⟨b, off + k * 3 + 2, none⟩ = some (.int .i64 c2) := by
  exact ⟨(S[k]).ali, (S[k]).bck, (S[k]).rom, rfl, hf _ (List.getElem_mem h), hc k h⟩

def flatV (S : Vws) : List Value := S.flatMap Vw.vals
theorem flatV_length (S : Vws) : (flatV S).length = S.length * 3 := by
  induction S with
  | nil => rfl
  | cons p r ih => simp [flatV] at ih ⊢; omega
theorem flatV_append (A B : Vws) : flatV (A ++ B) = flatV A ++ flatV B := by simp [flatV]
theorem flatV_one (p : Vw) : flatV [p] = p.vals := rfl
theorem flatV_cons (p : Vw) (r : Vws) : flatV (p :: r) = .int .i64 p.ali :: .int .i64 p.bck :: .int .i64 p.rom :: flatV r := rfl
theorem flatV_at {S : Vws} {i : Nat} (h : i < S.length) : (flatV S)[i * 3]? = some (.int .i64 (S[i]).ali) ∧ (flatV S)[i * 3 + 1]? = some (.int .i64 (S[i]).bck) ∧ (flatV S)[i * 3 + 2]? = some (.int .i64 (S[i]).rom) := by
  induction S generalizing i with
  | nil => simp at h
  | cons p r ih =>
    cases i with
    | zero => exact ⟨rfl, rfl, rfl⟩
    | succ i =>
      have := ih (i := i) (by simpa using h)
      have e1 : (i + 1) * 3 = i * 3 + 3 := by omega
      rw [e1, flatV_cons]
      simpa using this

theorem LieV.owned {w : World} {base : Nat} {e : TypeId} {g cap : Nat} {S : Vws} (h : w.ownsRow base e 3 (.slice (some ⟨g, 0, none⟩) S.length cap) S.length (flatV S)) : LieV w (some ⟨g, 0, none⟩) S := by
  refine .inr ⟨g, 0, rfl, fun i hi => ?_⟩
  rw [Nat.zero_add, h.cellAt (i * 3) (by omega), h.cellAt (i * 3 + 1) (by omega), h.cellAt (i * 3 + 2) (by omega)]
  exact flatV_at hi

theorem LieV.ofRow {w : World} {base : Nat} {e : TypeId} {av : Option Addr} {n cap : Nat} {S : Vws} (hn : S.length = n) (h : w.ownsRow base e 3 (.slice av n cap) n (flatV S)) : LieV w av S := by
  subst hn
  rcases h.2 with ⟨h', h0⟩ | ⟨g, cap', cur, h', rest⟩
  · exact .inl (List.eq_nil_of_length_eq_zero (by omega))
  · simp only [Value.slice.injEq] at h'
    obtain ⟨rfl, _, rfl⟩ := h'
    exact LieV.owned h

theorem infoV : (Try.prog.info? 57).map (fun i => (i.zero, i.size, i.bytes)) = some (some (.agg #[.int .i64 0, .int .i64 0, .int .i64 0]), 3, 24) := by kernel_rfl

theorem toV_any (c0 c1 c2 : Int) (w : World) : Calls Try.prog 49 #[.agg #[.int .i64 c0, .int .i64 c1, .int .i64 c2]] w fun e w' => e = .returned (.agg #[.int .i64 c0, .int .i64 c1, .int .i64 c2]) ∧ Below w.heap.size w w' := by
  go_enter Try.func49, Try.ntmps49
  go_wp2
  exact bodyPost_ret (v := .agg #[.int .i64 c0, .int .i64 c1, .int .i64 c2]) (by simp [results, Try.results49, go_sem]) rfl ⟨rfl, (((Below.refl _ _).alloc (Nat.le_refl _) _).alloc (by simp) _).alloc (by simp; omega) _⟩

theorem eqV_same (c0 c1 c2 : Int) (w : World) : Calls Try.prog 52 #[.agg #[.int .i64 c0, .int .i64 c1, .int .i64 c2], .agg #[.int .i64 c0, .int .i64 c1, .int .i64 c2]] w fun e w' => e = .returned (.bool true) ∧ Below w.heap.size w w' := by
  go_enter Try.func52, Try.ntmps52
  go_wp2
  go_ret
  exact ⟨rfl, ((Below.refl _ _).alloc (Nat.le_refl _) _).alloc (by simp) _⟩

def zeroV : Vw := ⟨0, 0, 0⟩
/-- What a copying loop has made of a zero row behind j rounds. -/
def partV (S : Vws) (j : Nat) : Vws := S.take j ++ List.replicate (S.length - j) zeroV
theorem partV_zero (S : Vws) : partV S 0 = List.replicate S.length zeroV := by simp [partV]
theorem partV_all (S : Vws) : partV S S.length = S := by simp [partV]
theorem partV_length (S : Vws) {j : Nat} (h : j ≤ S.length) : (partV S j).length = S.length := by simp [partV]; omega
theorem partV_succ (S : Vws) (j : Nat) (h : j < S.length) : (partV S j).set j S[j] = partV S (j + 1) := by
  unfold partV
  rw [List.set_append]
  simp only [List.length_take]
  rw [if_neg (by omega)]
  have e : S.length - j = (S.length - (j + 1)) + 1 := by omega
  have e2 : j - min j S.length = 0 := by omega
  rw [e2, e, List.replicate_succ, List.set_cons_zero, List.take_succ_eq_append_getElem h]
  simp only [List.append_assoc, List.singleton_append]

theorem flatV_set (S : Vws) (j : Nat) (p : Vw) (h : j < S.length) : (((flatV S).set (j * 3) (.int .i64 p.ali)).set (j * 3 + 1) (.int .i64 p.bck)).set (j * 3 + 2) (.int .i64 p.rom) = flatV (S.set j p) := by
  induction S generalizing j with
  | nil => simp at h
  | cons q r ih =>
    cases j with
    | zero => rfl
    | succ j =>
      have key : ∀ (i : Nat) (v : Value) (l : List Value), (q.vals ++ l).set (i + 3) v = q.vals ++ l.set i v := fun _ _ _ => rfl
      have e1 : (j + 1) * 3 = j * 3 + 3 := by omega
      rw [e1, show flatV (q :: r) = q.vals ++ flatV r from rfl, show (q :: r).set (j + 1) p = q :: r.set j p from rfl, show flatV (q :: r.set j p) = q.vals ++ flatV (r.set j p) from rfl, ← ih j (by simpa using h)]
      rw [show j * 3 + 3 + 1 = j * 3 + 1 + 3 by omega, show j * 3 + 3 + 2 = j * 3 + 2 + 3 by omega]
      rw [key, key, key]
theorem flatV_replicate (n : Nat) : flatV (List.replicate n zeroV) = (madeCells #[.int .i64 0, .int .i64 0, .int .i64 0] (n * 3)).toList := by
  refine List.ext_getElem? fun i => ?_
  by_cases hi : i < n * 3
  · have hq : i / 3 < (List.replicate n zeroV).length := by simp; omega
    obtain ⟨h0, h1, h2⟩ := flatV_at (S := List.replicate n zeroV) hq
    have hr : (madeCells #[.int .i64 0, .int .i64 0, .int .i64 0] (n * 3)).toList[i]? = #[.int .i64 0, .int .i64 0, .int .i64 0][i % 3]? := by
      simp only [madeCells, Array.toList_map, List.getElem?_map]
      rcases (show i % 3 = 0 ∨ i % 3 = 1 ∨ i % 3 = 2 by omega) with h | h | h <;> simp [h, hi]
    rw [hr]
    rcases (show i = i / 3 * 3 ∧ i % 3 = 0 ∨ i = i / 3 * 3 + 1 ∧ i % 3 = 1 ∨ i = i / 3 * 3 + 2 ∧ i % 3 = 2 by omega) with h | h | h
    · rw [← h.1] at h0; rw [h0, h.2]; simp [zeroV]
    · rw [← h.1] at h1; rw [h1, h.2]; simp [zeroV]
    · rw [← h.1] at h2; rw [h2, h.2]; simp [zeroV]
  · rw [List.getElem?_eq_none (by rw [flatV_length]; simp; omega), List.getElem?_eq_none (by simp [madeCells]; omega)]

/-- What the walk wants of a place that it stores into. -/
theorem placeV {w : World} {base : Nat} {e : TypeId} {g n cap : Nat} {xs : List Value} (h : w.ownsRow base e 3 (.slice (some ⟨g, 0, none⟩) n cap) n xs) {j : Nat} (hj : j < n) :
    w.frozen? ⟨g, j * 3, none⟩ = false ∧ w.frozen? ⟨g, j * 3 + 1, none⟩ = false ∧ w.frozen? ⟨g, j * 3 + 2, none⟩ = false ∧ (∃ u, w.cell? ⟨g, j * 3, none⟩ = some u) ∧ (∃ u, w.cell? ⟨g, j * 3 + 1, none⟩ = some u) ∧ (∃ u, w.cell? ⟨g, j * 3 + 2, none⟩ = some u) := by
  have hl := h.1
  refine ⟨h.frozenAt _, h.frozenAt _, h.frozenAt _, ?_, ?_, ?_⟩
  · rw [h.cellAt (j * 3) (by omega)]; exact ⟨_, List.getElem?_eq_getElem (by omega)⟩
  · rw [h.cellAt (j * 3 + 1) (by omega)]; exact ⟨_, List.getElem?_eq_getElem (by omega)⟩
  · rw [h.cellAt (j * 3 + 2) (by omega)]; exact ⟨_, List.getElem?_eq_getElem (by omega)⟩

/-- All fields of one struct of an owned row are stored. -/
theorem storedV {w : World} {base : Nat} {e : TypeId} {g cap : Nat} {S : Vws} (h : w.ownsRow base e 3 (.slice (some ⟨g, 0, none⟩) S.length cap) S.length (flatV S)) (j : Nat) (hj : j < S.length) (c0 c1 c2 : Int) :
    (((w.setCell ⟨g, j * 3, none⟩ (.int .i64 c0)).setCell ⟨g, j * 3 + 1, none⟩ (.int .i64 c1)).setCell ⟨g, j * 3 + 2, none⟩ (.int .i64 c2)).ownsRow base e 3 (.slice (some ⟨g, 0, none⟩) S.length cap) S.length (flatV (S.set j ⟨c0, c1, c2⟩)) := by
  have h1 := (h.stored (j * 3) (.int .i64 c0)).1
  have h2 := (h1.stored (j * 3 + 1) (.int .i64 c1)).1
  have h3 := (h2.stored (j * 3 + 2) (.int .i64 c2)).1
  rwa [flatV_set S j ⟨c0, c1, c2⟩ hj] at h3

theorem grownV (w : World) (g j : Nat) (c0 c1 c2 : Int) : w.grownBy (((w.setCell ⟨g, j * 3, none⟩ (.int .i64 c0)).setCell ⟨g, j * 3 + 1, none⟩ (.int .i64 c1)).setCell ⟨g, j * 3 + 2, none⟩ (.int .i64 c2)) (some g) := grown_trans (grown_trans (grown_set w g (j * 3) _) (grown_set _ g (j * 3 + 1) _)) (grown_set _ g (j * 3 + 2) _)
theorem belowV {B : Nat} {v w : World} (h : Below B v w) (g j : Nat) (hg : B ≤ g) (c0 c1 c2 : Int) : Below B v (((w.setCell ⟨g, j * 3, none⟩ (.int .i64 c0)).setCell ⟨g, j * 3 + 1, none⟩ (.int .i64 c1)).setCell ⟨g, j * 3 + 2, none⟩ (.int .i64 c2)) := (((h).setCell (p := ⟨g, j * 3, none⟩) hg _).setCell (p := ⟨g, j * 3 + 1, none⟩) hg _).setCell (p := ⟨g, j * 3 + 2, none⟩) hg _

set_option maxHeartbeats 1000000 in
theorem toVS_any (a : Option Addr) (S : Vws) (cap : Nat) (w : World) (hS : LieV w a S) (hf : FitsV S) (hl : S.length ≤ 1048576) :
    Calls Try.prog 19 #[.slice a S.length cap] w fun e w' => e = .returned (.slice (some ⟨w.heap.size, 0, none⟩) S.length S.length) ∧
      w'.ownsRow w.heap.size 57 3 (.slice (some ⟨w.heap.size, 0, none⟩) S.length S.length) S.length (flatV S) ∧ Below w.heap.size w w' := by
  obtain ⟨i0, hi, hz0, hz1, hz2⟩ := info_parts infoV
  go_enter Try.func19, Try.ntmps19
  go_wp2_with (at_make; refine wpList_make_full _ rfl _ _ 39 rfl w.heap.size 57 i0 (.agg #[.int .i64 0, .int .i64 0, .int .i64 0]) 3 Try.underlying39 hi hz0 hz1 .i64 .i64 _ _ S.length rfl rfl rfl rfl (by rw [hz2]; omega) (by unfold maxLen; omega) (Nat.le_refl _) ?_; intro w1 hown hgrow)
  have hstart : w1.ownsRow w.heap.size 57 3 (.slice (some ⟨w.heap.size, 0, none⟩) S.length S.length) S.length (flatV (partV S 0)) := by
    rw [partV_zero, flatV_replicate]
    exact hown
  have hbel : Below w.heap.size w w1 := (Below.refl _ _).grown hgrow (Nat.le_refl _) (by simp)
  clear hown hgrow
  go_loopw [4] (fun i wr => ∃ k : Nat, k ≤ S.length ∧ i = .int .i64 k ∧ wr.ownsRow w.heap.size 57 3 (.slice (some ⟨w.heap.size, 0, none⟩) S.length S.length) S.length (flatV (partV S k)) ∧ Below w.heap.size w wr)
    (fun i _ => S.length - (intOf i).toNat)
  case atStart => exact ⟨0, Nat.zero_le _, rfl, hstart, hbel⟩
  case round =>
    clear hstart hbel
    obtain ⟨k, hk, rfl, hown, hb⟩ := hrel
    by_cases hlt : k < S.length
    · rcases hS with h | ⟨b, off, rfl, hc⟩
      · simp [h] at hlt
      · obtain ⟨c0, c1, c2, hn, _, q0, q1, q2⟩ := LieV.at hf hc hlt
        have r0 : wr.cell? ⟨b, off + k * 3, none⟩ = some (.int .i64 c0) := by rw [hb.cell (World.block_lt_of_cell? w _ q0)]; exact q0
        have r1 : wr.cell? ⟨b, off + k * 3 + 1, none⟩ = some (.int .i64 c1) := by rw [hb.cell (World.block_lt_of_cell? w _ q1)]; exact q1
        have r2 : wr.cell? ⟨b, off + k * 3 + 2, none⟩ = some (.int .i64 c2) := by rw [hb.cell (World.block_lt_of_cell? w _ q2)]; exact q2
        have hsz := hb.size
        clear hc hf q0 q1 q2
        go_wp2_with (go_at_call 49; refine (toV_any _ _ _ _).mono ?_; rintro e w2 ⟨rfl, hb2⟩; have ho2 := owned_kept hown hb2; obtain ⟨f0, f1, f2, ⟨u0, g0⟩, ⟨u1, g1⟩, ⟨u2, g2⟩⟩ := placeV ho2 hlt)
        have hl2 := partV_length S hk
        rw [← hl2] at ho2
        have hn2 := storedV ho2 k (by omega) c0 c1 c2
        rw [show (Vw.mk c0 c1 c2) = S[k] from hn.out.symm, partV_succ S k hlt, hl2] at hn2
        have hb3 := belowV (hb.trans (hb2.mono hb.size)) w.heap.size k (Nat.le_refl _) c0 c1 c2
        clear ho2 hown hb hb2 hn
        go_wp2
        go_roundw
        case rel => exact ⟨k + 1, by omega, by go_num, hn2, hb3⟩
        case measure => simp [intOf]; omega
    · go_wp2
      go_ret
      have : k = S.length := by omega
      subst this
      rw [partV_all] at hown
      exact ⟨rfl, hown, hb⟩

theorem szVS_any (a : Option Addr) (n cap : Nat) (w : World) (hm : n ≤ 9223372036854775807) :
    Calls Try.prog 17 #[.slice a n cap, .int .i64 1048576] w fun e w' => e = .returned (.int .i64 (if n ≤ 1048576 then 1048576 - (n : Int) else -1)) ∧ w' = w := by
  by_cases h : n ≤ 1048576
  · rw [if_pos h]
    go_enter Try.func17, Try.ntmps17
    go_wp2
    go_ret
    exact ⟨rfl, rfl⟩
  · rw [if_neg h]
    go_enter Try.func17, Try.ntmps17
    go_wp2
    go_ret
    exact ⟨rfl, rfl⟩

set_option maxHeartbeats 1000000 in
theorem eqVS_same (a a' : Option Addr) (S : Vws) (cap cap' : Nat) (w : World) (hS : LieV w a S) (hS' : LieV w a' S) (hf : FitsV S) (hl : S.length ≤ 1048576) :
    Calls Try.prog 22 #[.slice a S.length cap, .slice a' S.length cap'] w fun e w' => e = .returned (.bool true) ∧ Below w.heap.size w w' := by
  go_enter Try.func22, Try.ntmps22
  go_wp2
  go_loopw [5] (fun i wr => ∃ k : Nat, k ≤ S.length ∧ i = .int .i64 k ∧ Below w.heap.size w wr) (fun i _ => S.length - (intOf i).toNat)
  case atStart => exact ⟨0, Nat.zero_le _, rfl, Below.refl _ _⟩
  case round =>
    obtain ⟨k, hk, rfl, hb⟩ := hrel
    by_cases hlt : k < S.length
    · rcases hS with h | ⟨b, off, rfl, hc⟩
      · simp [h] at hlt
      rcases hS' with h | ⟨b', off', rfl, hc'⟩
      · simp [h] at hlt
      obtain ⟨c0, c1, c2, hn, _, q0, q1, q2⟩ := LieV.at hf hc hlt
      obtain ⟨t0, t1, t2⟩ := hc' k hlt
      rw [hn.out] at t0 t1 t2
      have r0 : wr.cell? ⟨b, off + k * 3, none⟩ = some (.int .i64 c0) := by rw [hb.cell (World.block_lt_of_cell? w _ q0)]; exact q0
      have r1 : wr.cell? ⟨b, off + k * 3 + 1, none⟩ = some (.int .i64 c1) := by rw [hb.cell (World.block_lt_of_cell? w _ q1)]; exact q1
      have r2 : wr.cell? ⟨b, off + k * 3 + 2, none⟩ = some (.int .i64 c2) := by rw [hb.cell (World.block_lt_of_cell? w _ q2)]; exact q2
      have r0' : wr.cell? ⟨b', off' + k * 3, none⟩ = some (.int .i64 c0) := by rw [hb.cell (World.block_lt_of_cell? w _ t0)]; exact t0
      have r1' : wr.cell? ⟨b', off' + k * 3 + 1, none⟩ = some (.int .i64 c1) := by rw [hb.cell (World.block_lt_of_cell? w _ t1)]; exact t1
      have r2' : wr.cell? ⟨b', off' + k * 3 + 2, none⟩ = some (.int .i64 c2) := by rw [hb.cell (World.block_lt_of_cell? w _ t2)]; exact t2
      clear hc hc' q0 q1 q2 t0 t1 t2 hf hn
      go_wp2
      go_region_with (go_at_call 52; refine (eqV_same _ _ _ _).mono ?_; rintro e w2 ⟨rfl, hb2⟩)
      all_goals
        have hb3 := hb.drew.trans (hb2.mono hb.size)
        clear hb hb2
        go_wp2
        go_roundw
        case rel => exact ⟨k + 1, by omega, by go_num, by first | exact hb3 | exact hb3.drew⟩
        case measure => simp [intOf]; omega
    · go_wp2
      go_ret
      exact ⟨rfl, hb⟩

/-- What marking leaves: 1, 2, 3 .. -/
def markV (i : Nat) : Vw := ⟨(1 + 3 * (i : Int)), (1 + 3 * (i : Int) + 1), (1 + 3 * (i : Int) + 2)⟩
def markedV (n : Nat) : Vws := (List.range n).map markV
theorem markedV_length (n : Nat) : (markedV n).length = n := by simp [markedV]
theorem markedV_at {n i : Nat} (h : i < (markedV n).length) : (markedV n)[i] = markV i := by simp [markedV]
def partMV (S : Vws) (k : Nat) : Vws := markedV k ++ S.drop k
theorem partMV_zero (S : Vws) : partMV S 0 = S := by simp [partMV, markedV]
theorem partMV_all (S : Vws) : partMV S S.length = markedV S.length := by simp [partMV]
theorem partMV_length (S : Vws) {k : Nat} (h : k ≤ S.length) : (partMV S k).length = S.length := by simp [partMV, markedV_length]; omega
theorem partMV_succ (S : Vws) {k : Nat} (h : k < S.length) : (partMV S k).set k ⟨(1 + 3 * (k : Int)), (1 + 3 * (k : Int) + 1), (1 + 3 * (k : Int) + 2)⟩ = partMV S (k + 1) := by
  unfold partMV
  rw [List.set_append, markedV_length, if_neg (by omega), Nat.sub_self, List.drop_eq_getElem_cons h, List.set_cons_zero]
  have e : markedV (k + 1) = markedV k ++ [markV k] := by simp [markedV, List.range_succ]
  rw [e, List.append_assoc]
  rfl
theorem markedV_fits {n : Nat} (h : n ≤ 1048576) : FitsV (markedV n) := by
  intro p hp
  simp only [markedV, List.mem_map, List.mem_range] at hp
  obtain ⟨i, hi, rfl⟩ := hp
  simp only [Vw.ok, markV]
  omega

set_option maxHeartbeats 1000000 in
theorem markVS_any (v : Value) (S : Vws) (w : World) (base : Nat) (ho : w.ownsRow base 57 3 v S.length (flatV S)) (hl : S.length ≤ 1048576) :
    Calls Try.prog 23 #[v, .int .i64 1] w fun e w' => e = .returned (.int .i64 (1 + 3 * (S.length : Int))) ∧ w'.ownsRow base 57 3 v S.length (flatV (markedV S.length)) ∧ w.grownBy w' v.ownBlock := by
  rcases ho.2 with ⟨rfl, h0⟩ | ⟨g, cap, cur, rfl, _⟩
  · go_enter Try.func23, Try.ntmps23
    go_wp2
    refine wp_loop_rounds 1 ?_
    rw [rounds_succ]
    go_wp2
    go_ret
    have hn : S = [] := List.eq_nil_of_length_eq_zero h0
    subst hn
    exact ⟨rfl, ho, World.grownBy.refl _ _⟩
  · go_enter Try.func23, Try.ntmps23
    go_wp2
    go_loopw [1, 5] (fun m i wr => ∃ k : Nat, k ≤ S.length ∧ i = .int .i64 k ∧ m = .int .i64 (1 + 3 * (k : Int)) ∧ wr.ownsRow base 57 3 (.slice (some ⟨g, 0, none⟩) S.length cap) S.length (flatV (partMV S k)) ∧ w.grownBy wr (some g))
      (fun _ i _ => S.length - (intOf i).toNat)
    case atStart => exact ⟨0, Nat.zero_le _, rfl, by simp, by rw [partMV_zero]; exact ho, World.grownBy.refl _ _⟩
    case round =>
      obtain ⟨k, hk, rfl, rfl, hown, hg⟩ := hrel
      by_cases hlt : k < S.length
      · obtain ⟨f0, f1, f2, ⟨u0, g0⟩, ⟨u1, g1⟩, ⟨u2, g2⟩⟩ := placeV hown hlt
        have hl2 := partMV_length S hk
        have ho2 := hown
        rw [← hl2] at ho2
        have hn2 := storedV ho2 k (by omega) (1 + 3 * (k : Int)) (1 + 3 * (k : Int) + 1) (1 + 3 * (k : Int) + 2)
        rw [partMV_succ S hlt, hl2] at hn2
        have hg2 := grown_trans hg (grownV wr g k (1 + 3 * (k : Int)) (1 + 3 * (k : Int) + 1) (1 + 3 * (k : Int) + 2))
        clear ho2 hown hg ho
        go_wp2
        go_roundw
        case rel => exact ⟨k + 1, by omega, by go_num, by go_num, hn2, hg2⟩
        case measure => simp [intOf]; omega
      · go_wp2
        go_ret
        have : k = S.length := by omega
        subst this
        rw [partMV_all] at hown
        exact ⟨rfl, hown, hg⟩
end Go.Proofs.Ytlagaiekoahjnaa
