import Derived.Test.YtkamdaadgndmbaaNStep2
namespace Go.Proofs.Ytkamdaadgndmbaa
open Go.ChangeShapes Go.WideShapes Go.ChangeAt Go.RowKit
set_option linter.unusedVariables false

theorem info_lk : (Try.prog.info? 92).map (fun i => (i.zero, i.size, i.bytes)) = some (some (.agg #[.int .i64 0, .slice none 0 0, .slice none 0 0]), 3, 56) := by kernel_rfl
def newLk : Lk := ⟨0, (.slice none 0 0, []), (.slice none 0 0, [])⟩
theorem flatL_new (n : Nat) : flatL (List.replicate n newLk) = (madeCells #[.int .i64 0, .slice none 0 0, .slice none 0 0] (n * 3)).toList := by
  refine List.ext_getElem? fun i => ?_
  by_cases hi : i < n * 3
  · have hq : i / 3 < (List.replicate n newLk).length := by simp; omega
    obtain ⟨h0, h1, h2⟩ := flatL_at (L := List.replicate n newLk) hq
    have hr : (madeCells #[.int .i64 0, .slice none 0 0, .slice none 0 0] (n * 3)).toList[i]? = #[Value.int .i64 0, .slice none 0 0, .slice none 0 0][i % 3]? := by
      simp only [madeCells, Array.toList_map, List.getElem?_map]
      rcases (show i % 3 = 0 ∨ i % 3 = 1 ∨ i % 3 = 2 by omega) with h | h | h <;> simp [h, hi]
    rw [hr]
    rcases (show i = i / 3 * 3 ∧ i % 3 = 0 ∨ i = i / 3 * 3 + 1 ∧ i % 3 = 1 ∨ i = i / 3 * 3 + 2 ∧ i % 3 = 2 by omega) with h | h | h
    · rw [← h.1] at h0; rw [h0, h.2]; simp [newLk]
    · rw [← h.1] at h1; rw [h1, h.2]; simp [newLk]
    · rw [← h.1] at h2; rw [h2, h.2]; simp [newLk]
  · rw [List.getElem?_eq_none (by rw [flatL_length]; simp; omega), List.getElem?_eq_none (by simp [madeCells]; omega)]
theorem bags_new (w : World) (base n : Nat) : Bags w base (bagsL (List.replicate n newLk)) := by
  have hp : ∀ p ∈ bagsL (List.replicate n newLk), p = (.slice none 0 0, []) := by
    intro p hp
    obtain ⟨l, hl, hpl⟩ := List.mem_flatMap.1 hp
    rw [List.eq_of_mem_replicate hl] at hpl
    simpa [newLk] using hpl
  have e1 : (bagsL (List.replicate n newLk)).filterMap (fun p => p.1.ownBlock) = [] := by
    rw [List.filterMap_eq_nil_iff]
    intro p h
    rw [hp p h]
    rfl
  have e2 : ((bagsL (List.replicate n newLk)).flatMap (·.2)) = [] := by
    rw [List.flatMap_eq_nil_iff]
    intro p h
    rw [hp p h]
  refine ⟨fun p h => ?_, fun p h q hq => ?_, by rw [e1]; exact List.nodup_nil, by rw [e2]; exact List.nodup_nil⟩
  · rw [hp p h]; exact World.ownsRow_nil _ _ _ _
  · rw [hp p h] at hq; cases hq
/-- A fresh network, where its links' row has just been made. -/
theorem net_new {w : World} {X base b n : Nat} (h : w.ownsRow b 92 3 (.slice (some ⟨X, 0, none⟩) n n) n (flatL (List.replicate n newLk))) : NetAt w X base startN (List.replicate n newLk) := by
  rcases h.2 with ⟨e, _⟩ | ⟨g, cap, cur, e, _, hg, _, _, h3, h4⟩
  · cases e
  · simp only [Value.slice.injEq, Option.some.injEq, Addr.mk.injEq, and_true] at e
    obtain ⟨rfl, _, rfl⟩ := e
    refine ⟨?_, bags_new _ _ _, fun i hi => by simp [newLk, startN], fun i hi d hd => by simp [newLk, startN, Lk.bag]⟩
    rw [hg, ← h4, List.take_of_length_le (by simp [h3])]
set_option maxRecDepth 100000 in
set_option maxHeartbeats 400000 in
theorem newNet_any (n : Nat) (w : World) (h1 : 1 ≤ n) (h8 : n ≤ 8) :
    Calls Try.prog 40 #[.int .i64 (n : Int)] w fun e w' => ∃ X, e = .returned (.agg #[.slice (some ⟨X, 0, none⟩) n n]) ∧ w.heap.size ≤ X ∧ NetAt w' X w.heap.size startN (List.replicate n newLk) ∧ Below w.heap.size w w' := by
  obtain ⟨i0, hi, hz0, hz1, hz2⟩ := info_parts info_lk
  go_enter Try.func40, Try.ntmps40
  go_wp2_with (at_make; refine wpList_make_full _ rfl _ _ 60 rfl w.heap.size 92 i0 (.agg #[.int .i64 0, .slice none 0 0, .slice none 0 0]) 3 Try.underlying60 hi hz0 hz1 .i64 .i64 _ _ n rfl rfl rfl rfl (by rw [hz2]; omega) (by unfold maxLen; omega) (by simp) ?_; intro w1 hown hgrow; have hR1 : w1.heap[w.heap.size]? = some (.cells #[.slice none 0 0] 62 (0, 0)) := (hgrow.block _ (by simp) (by simp)).trans (heap_alloc_new _ _); have c0 : w1.cell? ⟨w.heap.size, 0, none⟩ = some (.slice none 0 0) := Go.Joins.cell_of_block hR1 0; have f0 := Go.Joins.unfrozen_of_block hR1 0)
  have hs1 : (w.alloc (.cells #[.slice none 0 0] 62)).heap.size = w.heap.size + 1 := by simp
  rw [hs1] at hown
  have hne : w.heap.size + 1 ≠ w.heap.size := by omega
  have ho2 := row_stays (w' := w1.setCell ⟨w.heap.size, 0, none⟩ (.slice (some ⟨w.heap.size + 1, 0, none⟩) n n)) hown fun k hk => heap_setCell_other _ _ _ _ (by
    obtain rfl : w.heap.size + 1 = k := by simpa [Value.ownBlock] using hk
    exact hne)
  have e : (madeCells (Value.agg #[.int .i64 0, .slice none 0 0, .slice none 0 0]).cells (n * 3)).toList = flatL (List.replicate n newLk) := (flatL_new n).symm
  rw [e] at ho2
  have z0 : (w1.setCell ⟨w.heap.size, 0, none⟩ (.slice (some ⟨w.heap.size + 1, 0, none⟩) n n)).cell? ⟨w.heap.size, 0, none⟩ = some (.slice (some ⟨w.heap.size + 1, 0, none⟩) n n) := Go.Joins.cell_of_block (heap_setCell_same _ _ _ _ _ _ hR1) 0
  refine bodyPost_ret (v := .agg #[.slice (some ⟨w.heap.size + 1, 0, none⟩) n n]) (by simp [results, Try.results40, go_sem, z0]) rfl ⟨w.heap.size + 1, rfl, by omega, net_new ho2, ?_⟩
  exact (((Below.refl _ _).alloc (Nat.le_refl _) _).grown hgrow (by simp) (by simp)).setCell (p := ⟨w.heap.size, 0, none⟩) (Nat.le_refl _) _
end Go.Proofs.Ytkamdaadgndmbaa
