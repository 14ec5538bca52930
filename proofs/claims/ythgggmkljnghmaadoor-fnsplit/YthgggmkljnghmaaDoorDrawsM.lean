import Derived.Test.YthgggmkljnghmaaDoorBase
import Derived.OneCell
namespace Go.Proofs.YthgggmkljnghmaaDoor
open Go.ChangeShapes Go.WideShapes Go.ChangeAt Go.RowKit
set_option linter.unusedVariables false

/-- A source of numbers that is being drawn from, in block b, in a world that has grown out of w0: the code's bytes lie in w0. -/
structure Drawing (w0 w : World) (b : Nat) (a : Option Addr) (n cap : Nat) : Prop where
  bel : Below w0.heap.size w0 w
  new : w0.heap.size ≤ b
  src : ∃ (pos : Nat) (st : Int), w.heap[b]? = some (.cells #[.slice a n cap, .int .i64 pos, .int .u64 st] 57 (0, 0)) ∧ pos ≤ n ∧ 0 ≤ st ∧ st ≤ 18446744073709551615

theorem cell3 {w : World} {b : Nat} {x y z : Value} {t : TypeId} (h : w.heap[b]? = some (.cells #[x, y, z] t (0, 0))) :
    w.cell? ⟨b, 0, none⟩ = some x ∧ w.cell? ⟨b, 1, none⟩ = some y ∧ w.cell? ⟨b, 2, none⟩ = some z ∧ (∀ j, w.frozen? ⟨b, j, none⟩ = false) := by
  refine ⟨?_, ?_, ?_, fun j => frozen_of_row w b j _ t h⟩
  all_goals rw [cell_of_row w b _ _ t (0, 0) h]; rfl

theorem set3 {w : World} {b : Nat} {x y z : Value} {t : TypeId} (h : w.heap[b]? = some (.cells #[x, y, z] t (0, 0))) (u v s : Value) :
    (((w.setCell ⟨b, 0, none⟩ u).setCell ⟨b, 1, none⟩ v).setCell ⟨b, 2, none⟩ s).heap[b]? = some (.cells #[u, v, s] t (0, 0)) := by
  have h0 := heap_setCell_same w b 0 _ _ u h
  have h1 := heap_setCell_same _ b 1 _ _ v h0
  have h2 := heap_setCell_same _ b 2 _ _ s h1
  exact h2

theorem wrap64_fits (x : Int) : 0 ≤ IntKind.u64.wrap x ∧ IntKind.u64.wrap x ≤ 18446744073709551615 := by
  rw [IntKind.wrap_u64]
  omega

theorem modFits {x n : Int} (h0 : 0 ≤ x) (h1 : 0 < n) (h2 : n ≤ 9223372036854775807) : 0 ≤ wrap64 (x.tmod n) ∧ wrap64 (x.tmod n) < n := by
  have a := Int.tmod_nonneg n h0
  have b := Int.tmod_lt_of_pos x h1
  have e : wrap64 (x.tmod n) = x.tmod n := by unfold wrap64; omega
  rw [e]
  exact ⟨a, b⟩

theorem xor64 (a b : Int) : 0 ≤ bits .xor .u64 a b ∧ bits .xor .u64 a b ≤ 18446744073709551615 := bounds_u64 (wf_bits _ _ _ _)

theorem drawn_no {w0 w : World} {b : Nat} {a : Option Addr} {n cap pos : Nat} {st s : Int} (hb : Below w0.heap.size w0 w) (hnew : w0.heap.size ≤ b)
    (hh : w.heap[b]? = some (.cells #[.slice a n cap, .int .i64 pos, .int .u64 st] 57 (0, 0))) (p1 : pos ≤ n) (hs : 0 ≤ s ∧ s ≤ 18446744073709551615) :
    Drawing w0 (w.setCell ⟨b, 2, none⟩ (.int .u64 s)).drew b a n cap ∧ w.grownBy (w.setCell ⟨b, 2, none⟩ (.int .u64 s)).drew (some b) := by
  refine ⟨⟨(hb.setCell hnew _).drew, hnew, pos, s, ?_, p1, hs.1, hs.2⟩, ?_⟩
  · have := heap_setCell_same w b 2 _ _ (.int .u64 s) hh
    exact this
  · have g := grown_set w b 2 (.int .u64 s)
    exact ⟨g.os, g.tape, g.output, g.size, g.block⟩

theorem drawn_yes {w0 w : World} {b : Nat} {a : Option Addr} {n cap pos : Nat} {st s : Int} (hb : Below w0.heap.size w0 w) (hnew : w0.heap.size ≤ b)
    (hh : w.heap[b]? = some (.cells #[.slice a n cap, .int .i64 pos, .int .u64 st] 57 (0, 0))) (p1 : pos < n) (hs : 0 ≤ s ∧ s ≤ 18446744073709551615) :
    Drawing w0 ((w.setCell ⟨b, 2, none⟩ (.int .u64 s)).setCell ⟨b, 1, none⟩ (.int .i64 ((pos : Int) + 1))).drew.drew b a n cap ∧ w.grownBy ((w.setCell ⟨b, 2, none⟩ (.int .u64 s)).setCell ⟨b, 1, none⟩ (.int .i64 ((pos : Int) + 1))).drew.drew (some b) := by
  refine ⟨⟨((hb.setCell hnew _).setCell hnew _).drew.drew, hnew, pos + 1, s, ?_, by omega, hs.1, hs.2⟩, ?_⟩
  · have h2 := heap_setCell_same w b 2 _ _ (.int .u64 s) hh
    have h1 := heap_setCell_same _ b 1 _ _ (.int .i64 ((pos : Int) + 1)) h2
    exact h1
  · have g := grown_trans (grown_set w b 2 (.int .u64 s)) (grown_set _ b 1 (.int .i64 ((pos : Int) + 1)))
    exact ⟨g.os, g.tape, g.output, g.size, g.block⟩

theorem next_any (w0 w : World) (b : Nat) (a : Option Addr) (zs : List Int) (cap : Nat) (n : Int) (hd : Drawing w0 w b a zs.length cap) (hz : Ints .u8 w0 a zs) (hv : ∀ x ∈ zs, 0 ≤ x ∧ x ≤ 255) (hl : zs.length ≤ 2000000) (h1 : 0 < n) (h2 : n ≤ 9223372036854775807) :
    Calls Tryd.prog 39 #[.pointer (some ⟨b, 0, none⟩), .int .i64 n] w fun e w' => ∃ r : Int, e = .returned (.int .i64 r) ∧ 0 ≤ r ∧ r < n ∧ Drawing w0 w' b a zs.length cap ∧ w.grownBy w' (some b) := by
  obtain ⟨hb, hnew, pos, st, hh, p1, s0, s1⟩ := hd
  obtain ⟨c0, c1, c2, hf⟩ := cell3 hh
  have f1 := hf 1
  have f2 := hf 2
  by_cases hp : pos < zs.length
  · rcases hz with h | ⟨bc, off, rfl, hc⟩
    · simp [h] at hp
    obtain ⟨c, hn, d0, d1, hcell⟩ := byteAt hv hc hp
    have hlt : bc < w0.heap.size := World.block_lt_of_cell? w0 _ hcell
    have hcell' : w.cell? ⟨bc, off + pos, none⟩ = some (.int .u8 c) := by rw [hb.cell hlt]; exact hcell
    have ne1 : bc ≠ b := by omega
    have ne2 : b ≠ bc := by omega
    clear hc hcell hv hf hn
    go_enter Tryd.func39, Tryd.ntmps39
    go_wp2
    go_region
    go_wp2
    go_region
    go_wp2
    go_ret
    have hm := modFits (xor64 (IntKind.u64.wrap (IntKind.u64.wrap (st * 6364136223846793005) + 1442695040888963407) / 8589934592) c).1 h1 h2
    have hd := drawn_yes hb hnew hh hp (wrap64_fits (IntKind.u64.wrap (st * 6364136223846793005) + 1442695040888963407))
    exact ⟨_, rfl, hm.1, hm.2, hd.1, hd.2⟩
  · go_enter Tryd.func39, Tryd.ntmps39
    go_wp2
    go_region
    go_wp2
    go_ret
    have hw := wrap64_fits (IntKind.u64.wrap (st * 6364136223846793005) + 1442695040888963407)
    have hm := modFits (x := IntKind.u64.wrap (IntKind.u64.wrap (st * 6364136223846793005) + 1442695040888963407) / 8589934592) (by omega) h1 h2
    have hd := drawn_no hb hnew hh p1 hw
    exact ⟨_, rfl, hm.1, hm.2, hd.1, hd.2⟩

/-- A number of 64 bits, whatever it is. -/
theorem word_any (w0 w : World) (b : Nat) (a : Option Addr) (zs : List Int) (cap : Nat) (hd : Drawing w0 w b a zs.length cap) (hz : Ints .u8 w0 a zs) (hv : ∀ x ∈ zs, 0 ≤ x ∧ x ≤ 255) (hl : zs.length ≤ 2000000) :
    Calls Tryd.prog 50 #[.pointer (some ⟨b, 0, none⟩)] w fun e w' => ∃ r : Int, e = .returned (.int .u64 r) ∧ 0 ≤ r ∧ r ≤ 18446744073709551615 ∧ Drawing w0 w' b a zs.length cap ∧ w.grownBy w' (some b) := by
  go_enter Tryd.func50, Tryd.ntmps50
  go_wp2_with fail
  refine (next_any w0 _ b a zs cap _ hd hz hv hl (by omega) (by omega)).mono ?_
  rintro e w1 ⟨r1, rfl, l1, u1, hd1, g1⟩
  go_wp2_with fail
  refine (next_any w0 _ b a zs cap _ hd1 hz hv hl (by omega) (by omega)).mono ?_
  rintro e w2 ⟨r2, rfl, l2, u2, hd2, g2⟩
  go_wp2_with fail
  refine (next_any w0 _ b a zs cap _ hd2 hz hv hl (by omega) (by omega)).mono ?_
  rintro e w3 ⟨r3, rfl, l3, u3, hd3, g3⟩
  go_wp2_with fail
  go_ret
  exact ⟨_, rfl, (xor64 _ _).1, (xor64 _ _).2, hd3, grown_trans (grown_trans g1 g2) g3⟩

/-- What the beginning has laid: the result's place, the source, both new. -/
def Begun (w wr : World) (a : Option Addr) (n cap : Nat) : Prop :=
  (∃ x y z, wr.heap[w.heap.size]? = some (.cells #[x, y, z] 57 (0, 0))) ∧
  (∃ st : Int, wr.heap[w.heap.size + 1]? = some (.cells #[.slice a n cap, .int .i64 0, .int .u64 st] 57 (0, 0)) ∧ 0 ≤ st ∧ st ≤ 18446744073709551615) ∧ Below w.heap.size w wr

theorem begun_start (w : World) (a : Option Addr) (n cap : Nat) (x y z : Value) (st : Int) (h : 0 ≤ st ∧ st ≤ 18446744073709551615) :
    Begun w ((w.alloc (.cells #[x, y, z] 57)).alloc (.cells #[.slice a n cap, .int .i64 0, .int .u64 st] 57)) a n cap := by
  refine ⟨⟨x, y, z, ?_⟩, ⟨st, ?_, h.1, h.2⟩, ((Below.refl _ _).alloc (Nat.le_refl _) _).alloc (by simp) _⟩
  · rw [Below.heap_alloc _ _ _ (by simp)]
    exact heap_alloc_new w _
  · have := heap_alloc_new (w.alloc (.cells #[x, y, z] 57)) (.cells #[.slice a n cap, .int .i64 0, .int .u64 st] 57)
    simpa using this

theorem begun_step {w wr : World} {a : Option Addr} {n cap : Nat} (h : Begun w wr a n cap) (st : Int) (hs : 0 ≤ st ∧ st ≤ 18446744073709551615) :
    Begun w (wr.setCell ⟨w.heap.size + 1, 2, none⟩ (.int .u64 st)).drew a n cap := by
  obtain ⟨⟨x, y, z, hx⟩, ⟨s0, hh, _, _⟩, hb⟩ := h
  refine ⟨⟨x, y, z, ?_⟩, ⟨st, ?_, hs.1, hs.2⟩, (hb.setCell (by simp) _).drew⟩
  · have := heap_setCell_other wr ⟨w.heap.size + 1, 2, none⟩ w.heap.size (.int .u64 st) (by simp)
    exact this.trans hx
  · have := heap_setCell_same wr (w.heap.size + 1) 2 _ _ (.int .u64 st) hh
    exact this

/-- The source's beginning: its struct comes back as a value. -/
theorem begin_any (w : World) (a : Option Addr) (zs : List Int) (cap : Nat) (hz : Ints .u8 w a zs) (hv : ∀ x ∈ zs, 0 ≤ x ∧ x ≤ 255) (hl : zs.length ≤ 2000000) :
    Calls Tryd.prog 37 #[.slice a zs.length cap] w fun e w' => ∃ st : Int, e = .returned (.agg #[.slice a zs.length cap, .int .i64 0, .int .u64 st]) ∧ 0 ≤ st ∧ st ≤ 18446744073709551615 ∧ Below w.heap.size w w' := by
  go_enter Tryd.func37, Tryd.ntmps37
  go_wp2
  go_loopw [4] (fun i wr => ∃ k : Nat, k ≤ zs.length ∧ i = .int .i64 k ∧ Begun w wr a zs.length cap) (fun i _ => zs.length - (intOf i).toNat)
  case atStart => exact ⟨0, Nat.zero_le _, rfl, begun_start w a zs.length cap _ _ _ _ (by omega)⟩
  case round =>
    obtain ⟨k, hk, rfl, hg⟩ := hrel
    by_cases hlt : k < zs.length
    · rcases hz with h | ⟨bc, off, rfl, hc⟩
      · simp [h] at hlt
      obtain ⟨c, hn, d0, d1, hcell⟩ := byteAt hv hc hlt
      have HG : Hid (Begun w wr (some ⟨bc, off, none⟩) zs.length cap) := hg
      obtain ⟨⟨x, y, z, hx⟩, ⟨s0, hh, e0, e1⟩, hb⟩ := hg
      have hlt0 : bc < w.heap.size := World.block_lt_of_cell? w _ hcell
      have hcell' : wr.cell? ⟨bc, off + k, none⟩ = some (.int .u8 c) := by rw [hb.cell hlt0]; exact hcell
      obtain ⟨c0, c1, c2, hf⟩ := cell3 hh
      have f2 := hf 2
      have hst := fun s h => begun_step HG.out s h
      clear hc hcell hv hf hn hx hh HG hb
      go_wp2
      go_region
      all_goals
        go_wp2
        go_roundw
        case rel => exact ⟨k + 1, by omega, by go_num, hst _ (by first | exact wrap64_fits _ | (constructor <;> omega))⟩
        case measure => simp [intOf]; omega
    · obtain ⟨⟨x, y, z, hx⟩, ⟨s0, hh, e0, e1⟩, hb⟩ := hg
      obtain ⟨c0, c1, c2, hf⟩ := cell3 hh
      obtain ⟨b0, b1, b2, bf⟩ := cell3 hx
      have f0 := bf 0
      have f1 := bf 1
      have f2 := bf 2
      obtain ⟨q0, q1, q2, _⟩ := cell3 (set3 hx (.slice a zs.length cap) (.int .i64 0) (.int .u64 s0))
      clear hv hf bf
      go_wp2
      exact bodyPost_ret (v := .agg #[.slice a zs.length cap, .int .i64 0, .int .u64 s0]) (by simp [results, Tryd.results37, go_sem, q0, q1, q2]) rfl ⟨s0, rfl, e0, e1, ((hb.setCell (Nat.le_refl _) _).setCell (Nat.le_refl _) _).setCell (Nat.le_refl _) _⟩
theorem drawing_start {w w1 : World} (hb : Below w.heap.size w w1) (a : Option Addr) (n cap : Nat) {st : Int} (e0 : 0 ≤ st) (e1 : st ≤ 18446744073709551615) :
    Drawing w (w1.alloc (.cells #[.slice a n cap, .int .i64 0, .int .u64 st] 57)) w1.heap.size a n cap :=
  ⟨hb.alloc hb.size _, hb.size, 0, st, heap_alloc_new w1 _, Nat.zero_le _, e0, e1⟩
end Go.Proofs.YthgggmkljnghmaaDoor
