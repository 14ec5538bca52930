import Derived.Test.YtkamdaadgndmbaaDrawsMr
namespace Go.Proofs.Ytkamdaadgndmbaa
open Go.ChangeShapes Go.WideShapes Go.ChangeAt Go.RowKit
set_option linter.unusedVariables false

/-- A source's state: how many bytes of the code were used, and its word. -/
abbrev Src := Nat × Int
/-- The word behind a draw. -/
def turned (st : Int) : Int := IntKind.u64.wrap (IntKind.u64.wrap (st * 6364136223846793005) + 1442695040888963407)
/-- A number from 0 to n - 1, and the state behind it. -/
def nextF (zs : List Int) (σ : Src) (n : Int) : Int × Src :=
  if σ.1 < zs.length then (wrap64 ((bits .xor .u64 (turned σ.2 / 8589934592) (zs.getD σ.1 0)).tmod n), (σ.1 + 1, turned σ.2))
  else (wrap64 ((turned σ.2 / 8589934592).tmod n), (σ.1, turned σ.2))

/-- A source that is being drawn from and stands at σ. -/
structure DrawAt (w0 w : World) (b : Nat) (a : Option Addr) (n cap : Nat) (σ : Src) : Prop where
  bel : Below w0.heap.size w0 w
  new : w0.heap.size ≤ b
  src : w.heap[b]? = some (.cells #[.slice a n cap, .int .i64 (σ.1 : Nat), .int .u64 σ.2] 55 (0, 0))
  pos : σ.1 ≤ n
  s0 : 0 ≤ σ.2
  s1 : σ.2 ≤ 18446744073709551615

theorem at_no {w0 w : World} {b : Nat} {a : Option Addr} {n cap pos : Nat} {st s : Int} (hb : Below w0.heap.size w0 w) (hnew : w0.heap.size ≤ b)
    (hh : w.heap[b]? = some (.cells #[.slice a n cap, .int .i64 pos, .int .u64 st] 55 (0, 0))) (p1 : pos ≤ n) (hs : 0 ≤ s ∧ s ≤ 18446744073709551615) :
    DrawAt w0 (w.setCell ⟨b, 2, none⟩ (.int .u64 s)).drew b a n cap (pos, s) ∧ w.grownBy (w.setCell ⟨b, 2, none⟩ (.int .u64 s)).drew (some b) := by
  refine ⟨⟨(hb.setCell hnew _).drew, hnew, ?_, p1, hs.1, hs.2⟩, ?_⟩
  · have := heap_setCell_same w b 2 _ _ (.int .u64 s) hh
    exact this
  · have g := grown_set w b 2 (.int .u64 s)
    exact ⟨g.os, g.tape, g.output, g.size, g.block⟩

theorem at_yes {w0 w : World} {b : Nat} {a : Option Addr} {n cap pos : Nat} {st s : Int} (hb : Below w0.heap.size w0 w) (hnew : w0.heap.size ≤ b)
    (hh : w.heap[b]? = some (.cells #[.slice a n cap, .int .i64 pos, .int .u64 st] 55 (0, 0))) (p1 : pos < n) (hs : 0 ≤ s ∧ s ≤ 18446744073709551615) :
    DrawAt w0 ((w.setCell ⟨b, 2, none⟩ (.int .u64 s)).setCell ⟨b, 1, none⟩ (.int .i64 ((pos : Int) + 1))).drew.drew b a n cap (pos + 1, s) ∧ w.grownBy ((w.setCell ⟨b, 2, none⟩ (.int .u64 s)).setCell ⟨b, 1, none⟩ (.int .i64 ((pos : Int) + 1))).drew.drew (some b) := by
  refine ⟨⟨((hb.setCell hnew _).setCell hnew _).drew.drew, hnew, ?_, p1, hs.1, hs.2⟩, ?_⟩
  · have h2 := heap_setCell_same w b 2 _ _ (.int .u64 s) hh
    have h1 := heap_setCell_same _ b 1 _ _ (.int .i64 ((pos : Int) + 1)) h2
    exact h1
  · have g := grown_trans (grown_set w b 2 (.int .u64 s)) (grown_set _ b 1 (.int .i64 ((pos : Int) + 1)))
    exact ⟨g.os, g.tape, g.output, g.size, g.block⟩

theorem next_at (w0 w : World) (b : Nat) (a : Option Addr) (zs : List Int) (cap : Nat) (σ : Src) (n : Int) (hd : DrawAt w0 w b a zs.length cap σ) (hz : Ints .u8 w0 a zs) (hv : ∀ x ∈ zs, 0 ≤ x ∧ x ≤ 255) (hl : zs.length ≤ 2000000) (h1 : 0 < n) (h2 : n ≤ 9223372036854775807) :
    Calls Try.prog 23 #[.pointer (some ⟨b, 0, none⟩), .int .i64 n] w fun e w' => ∃ (r : Int) (σ' : Src), e = .returned (.int .i64 r) ∧ Hid (nextF zs σ n = (r, σ')) ∧ 0 ≤ r ∧ r < n ∧ DrawAt w0 w' b a zs.length cap σ' ∧ w.grownBy w' (some b) := by
  obtain ⟨pos, st⟩ := σ
  obtain ⟨hb, hnew, hh, p1, s0, s1⟩ := hd
  simp only at hh p1 s0 s1
  obtain ⟨c0, c1, c2, hf⟩ := cell3 hh
  have f1 := hf 1
  have f2 := hf 2
  by_cases hp : pos < zs.length
  · rcases hz with h | ⟨bc, off, rfl, hc⟩
    · simp [h] at hp
    obtain ⟨c, hn, d0, d1, hcell⟩ := byteAt hv hc hp
    have hlt : bc < w0.heap.size := World.block_lt_of_cell? w0 _ hcell
    have hcell' : w.cell? ⟨bc, off + pos, none⟩ = some (.int .u8 c) := by rw [hb.cell hlt]; exact hcell
    have ne1 : bc ≠ b := by omega
    have ne2 : b ≠ bc := by omega
    have HNX : Hid (nextF zs (pos, st) n = (wrap64 ((bits .xor .u64 (turned st / 8589934592) c).tmod n), (pos + 1, turned st))) := by
      unfold Hid nextF
      rw [if_pos hp, hn.out]
    clear hc hcell hv hf hn
    go_enter Try.func23, Try.ntmps23
    go_wp2
    go_region
    go_wp2
    go_region
    go_wp2
    go_ret
    have hm := modFits (xor64 (IntKind.u64.wrap (IntKind.u64.wrap (st * 6364136223846793005) + 1442695040888963407) / 8589934592) c).1 h1 h2
    have hd := at_yes hb hnew hh hp (wrap64_fits (IntKind.u64.wrap (st * 6364136223846793005) + 1442695040888963407))
    exact ⟨_, _, rfl, HNX, hm.1, hm.2, hd.1, hd.2⟩
  · have HNX : Hid (nextF zs (pos, st) n = (wrap64 ((turned st / 8589934592).tmod n), (pos, turned st))) := by
      unfold Hid nextF
      rw [if_neg hp]
    go_enter Try.func23, Try.ntmps23
    go_wp2
    go_region
    go_wp2
    go_ret
    have hw := wrap64_fits (IntKind.u64.wrap (st * 6364136223846793005) + 1442695040888963407)
    have hm := modFits (x := IntKind.u64.wrap (IntKind.u64.wrap (st * 6364136223846793005) + 1442695040888963407) / 8589934592) (by omega) h1 h2
    have hd := at_no hb hnew hh p1 hw
    exact ⟨_, _, rfl, HNX, hm.1, hm.2, hd.1, hd.2⟩
end Go.Proofs.Ytkamdaadgndmbaa
