import Derived.Test.YtkamdaadgndmbaaDrawsFr
import Derived.Test.YtkamdaadgndmbaaGrown
namespace Go.Proofs.Ytkamdaadgndmbaa
open Go.ChangeShapes Go.WideShapes Go.ChangeAt Go.RowKit
set_option linter.unusedVariables false

theorem DrawAt.lt {w0 w : World} {b : Nat} {a : Option Addr} {n cap : Nat} {σ : Src} (h : DrawAt w0 w b a n cap σ) : b < w.heap.size := (Array.getElem?_eq_some_iff.1 h.src).1
theorem DrawAt.grown {w0 w w' : World} {b : Nat} {a : Option Addr} {n cap : Nat} {σ : Src} {row : Option Nat} (h : DrawAt w0 w b a n cap σ) (hg : w.grownBy w' row) (hr : ∀ k, row = some k → w0.heap.size ≤ k ∧ k ≠ b) : DrawAt w0 w' b a n cap σ :=
  ⟨h.bel.grown hg h.bel.size (fun k hk => (hr k hk).1), h.new, (hg.block b h.lt (fun e => (hr b e.symm).2 rfl)).trans h.src, h.pos, h.s0, h.s1⟩
theorem DrawAt.drew {w0 w : World} {b : Nat} {a : Option Addr} {n cap : Nat} {σ : Src} (h : DrawAt w0 w b a n cap σ) : DrawAt w0 w.drew b a n cap σ := ⟨h.bel.drew, h.new, h.src, h.pos, h.s0, h.s1⟩

/-- The source's first word. -/
def seedTo (zs : List Int) : Nat → Int
  | 0 => 1469598103934665603
  | k + 1 => IntKind.u64.wrap (bits .xor .u64 (seedTo zs k) (zs.getD k 0) * 1099511628211)
theorem seedTo_fits (zs : List Int) : ∀ k, 0 ≤ seedTo zs k ∧ seedTo zs k ≤ 18446744073709551615 := by
  intro k
  cases k with
  | zero => simp [seedTo]
  | succ k => exact wrap64_fits _
def BegunAt (w wr : World) (a : Option Addr) (n cap : Nat) (st : Int) : Prop :=
  (∃ x y z, wr.heap[w.heap.size]? = some (.cells #[x, y, z] 55 (0, 0))) ∧
  wr.heap[w.heap.size + 1]? = some (.cells #[.slice a n cap, .int .i64 0, .int .u64 st] 55 (0, 0)) ∧ Below w.heap.size w wr
theorem begunAt_start (w : World) (a : Option Addr) (n cap : Nat) (x y z : Value) (st : Int) :
    BegunAt w ((w.alloc (.cells #[x, y, z] 55)).alloc (.cells #[.slice a n cap, .int .i64 0, .int .u64 st] 55)) a n cap st := by
  refine ⟨⟨x, y, z, ?_⟩, ?_, ((Below.refl _ _).alloc (Nat.le_refl _) _).alloc (by simp) _⟩
  · rw [Below.heap_alloc _ _ _ (by simp)]
    exact heap_alloc_new w _
  · have := heap_alloc_new (w.alloc (.cells #[x, y, z] 55)) (.cells #[.slice a n cap, .int .i64 0, .int .u64 st] 55)
    simpa using this
theorem begunAt_step {w wr : World} {a : Option Addr} {n cap : Nat} {s0 : Int} (h : BegunAt w wr a n cap s0) (st : Int) : BegunAt w (wr.setCell ⟨w.heap.size + 1, 2, none⟩ (.int .u64 st)).drew a n cap st := by
  obtain ⟨⟨x, y, z, hx⟩, hh, hb⟩ := h
  refine ⟨⟨x, y, z, ?_⟩, ?_, (hb.setCell (by simp) _).drew⟩
  · have := heap_setCell_other wr ⟨w.heap.size + 1, 2, none⟩ w.heap.size (.int .u64 st) (by simp)
    exact this.trans hx
  · have := heap_setCell_same wr (w.heap.size + 1) 2 _ _ (.int .u64 st) hh
    exact this
theorem begin_at (w : World) (a : Option Addr) (zs : List Int) (cap : Nat) (hz : Ints .u8 w a zs) (hv : ∀ x ∈ zs, 0 ≤ x ∧ x ≤ 255) (hl : zs.length ≤ 2000000) :
    Calls Try.prog 22 #[.slice a zs.length cap] w fun e w' => e = .returned (.agg #[.slice a zs.length cap, .int .i64 0, .int .u64 (seedTo zs zs.length)]) ∧ Below w.heap.size w w' := by
  go_enter Try.func22, Try.ntmps22
  go_wp2
  go_loopw [4] (fun i wr => ∃ k : Nat, k ≤ zs.length ∧ i = .int .i64 k ∧ BegunAt w wr a zs.length cap (seedTo zs k)) (fun i _ => zs.length - (intOf i).toNat)
  case atStart => exact ⟨0, Nat.zero_le _, rfl, begunAt_start w a zs.length cap _ _ _ _⟩
  case round =>
    obtain ⟨k, hk, rfl, hg⟩ := hrel
    by_cases hlt : k < zs.length
    · rcases hz with h | ⟨bc, off, rfl, hc⟩
      · simp [h] at hlt
      obtain ⟨c, hn, d0, d1, hcell⟩ := byteAt hv hc hlt
      have hfit := seedTo_fits zs k
      have HS : Hid (seedTo zs (k + 1) = IntKind.u64.wrap (bits .xor .u64 (seedTo zs k) c * 1099511628211)) := by unfold Hid; rw [seedTo, hn.out]
      obtain ⟨s0, hs0⟩ : ∃ s0, s0 = seedTo zs k := ⟨_, rfl⟩
      rw [← hs0] at hg hfit HS
      have HG : Hid (BegunAt w wr (some ⟨bc, off, none⟩) zs.length cap s0) := hg
      obtain ⟨⟨x, y, z, hx⟩, hh, hb⟩ := hg
      obtain ⟨e0, e1⟩ := hfit
      have hlt0 : bc < w.heap.size := World.block_lt_of_cell? w _ hcell
      have hcell' : wr.cell? ⟨bc, off + k, none⟩ = some (.int .u8 c) := by rw [hb.cell hlt0]; exact hcell
      obtain ⟨c0, c1, c2, hf⟩ := cell3 hh
      have f2 := hf 2
      have hst := fun s => begunAt_step HG.out s
      clear hc hcell hv hf hn hx hh HG hb hs0
      go_wp2
      go_region
      all_goals
        go_wp2
        go_roundw
        case rel => exact ⟨k + 1, by omega, by go_num, by rw [HS.out]; exact hst _⟩
        case measure => simp [intOf]; omega
    · obtain rfl : k = zs.length := by omega
      obtain ⟨s0, hs0⟩ : ∃ s0, s0 = seedTo zs zs.length := ⟨_, rfl⟩
      rw [← hs0] at hg
      have HS0 : Hid (s0 = seedTo zs zs.length) := hs0
      obtain ⟨⟨x, y, z, hx⟩, hh, hb⟩ := hg
      obtain ⟨c0, c1, c2, hf⟩ := cell3 hh
      obtain ⟨b0, b1, b2, bf⟩ := cell3 hx
      have f0 := bf 0
      have f1 := bf 1
      have f2 := bf 2
      obtain ⟨q0, q1, q2, _⟩ := cell3 (set3 hx (.slice a zs.length cap) (.int .i64 0) (.int .u64 s0))
      clear hv hf bf hs0
      go_wp2
      exact bodyPost_ret (v := .agg #[.slice a zs.length cap, .int .i64 0, .int .u64 s0]) (by simp [results, Try.results22, go_sem, q0, q1, q2]) rfl ⟨by rw [HS0.out], ((hb.setCell (Nat.le_refl _) _).setCell (Nat.le_refl _) _).setCell (Nat.le_refl _) _⟩
theorem drawAt_start {w w1 : World} (hb : Below w.heap.size w w1) (a : Option Addr) (zs : List Int) (n cap : Nat) :
    DrawAt w (w1.alloc (.cells #[.slice a n cap, .int .i64 0, .int .u64 (seedTo zs zs.length)] 55)) w1.heap.size a n cap (0, seedTo zs zs.length) :=
  ⟨hb.alloc hb.size _, hb.size, heap_alloc_new w1 _, Nat.zero_le _, (seedTo_fits zs _).1, (seedTo_fits zs _).2⟩

end Go.Proofs.Ytkamdaadgndmbaa
