import Derived.Test.YthgggmkljnghmaaDoorGrown
import Derived.Test.YthgggmkljnghmaaDoorDrawsM
import Derived.Test.YthgggmkljnghmaaDoorSplit2
namespace Go.Proofs.YthgggmkljnghmaaDoor
open Go.ChangeShapes Go.WideShapes Go.ChangeAt Go.RowKit
set_option linter.unusedVariables false

theorem Drawing.lt {w0 w : World} {b : Nat} {a : Option Addr} {n cap : Nat} (h : Drawing w0 w b a n cap) : b < w.heap.size := by
  obtain ⟨_, _, pos, st, hh, _⟩ := h
  exact (Array.getElem?_eq_some_iff.1 hh).1
theorem Drawing.grown {w0 w w' : World} {b : Nat} {a : Option Addr} {n cap : Nat} {row : Option Nat} (h : Drawing w0 w b a n cap) (hg : w.grownBy w' row) (hr : ∀ k, row = some k → w0.heap.size ≤ k ∧ k ≠ b) : Drawing w0 w' b a n cap := by
  have hlt := h.lt
  obtain ⟨hb, hnew, pos, st, hh, h1, h2⟩ := h
  exact ⟨hb.grown hg hb.size (fun k hk => (hr k hk).1), hnew, pos, st, (hg.block b hlt (fun e => (hr b e.symm).2 rfl)).trans hh, h1, h2⟩

set_option maxHeartbeats 800000 in
theorem drawBytes_any (w0 w : World) (b : Nat) (a : Option Addr) (zs : List Int) (cap m : Nat) (hd : Drawing w0 w b a zs.length cap) (hz : Ints .u8 w0 a zs) (hv : ∀ x ∈ zs, 0 ≤ x ∧ x ≤ 255) (hl : zs.length ≤ 2000000) (hm : m ≤ 1000) :
    Calls Tryd.prog 51 #[.pointer (some ⟨b, 0, none⟩), .int .i64 m] w fun e w' => ∃ (ys : List Int) (av : Option Addr) (cp : Nat), e = .returned (.slice av m cp) ∧ ys.length = m ∧ (∀ x ∈ ys, 0 ≤ x ∧ x ≤ 255) ∧
      w'.ownsRow w.heap.size 5 1 (.slice av m cp) m (ys.map (.int .u8)) ∧ Drawing w0 w' b a zs.length cap ∧ w.grownBy w' (some b) := by
  have hbl := hd.lt
  have hnew := hd.new
  have hs0 := hd.bel.size
  have hmade : (w.alloc (.cells #[] 5)).ownsRow w.heap.size 5 1 (.slice (some ⟨w.heap.size, 0, none⟩) 0 0) 0 (([] : List Int).map (.int .u8)) := World.ownsRow_made w #[] 0 (Nat.le_refl _) (by unfold maxLen; omega) rfl
  have hd0 := hd.grown (World.grownBy_alloc w (.cells #[] 5) none) (by simp)
  have hg0 : w.grownBy (w.alloc (.cells #[] 5)) (some b) := World.grownBy_alloc w _ _
  go_enter Tryd.func51, Tryd.ntmps51
  go_wp2
  go_loopw [5, 6] (fun v i wr => ∃ (k : Nat) (ys : List Int) (av : Option Addr) (cp : Nat), k ≤ m ∧ i = .int .i64 k ∧ v = .slice av k cp ∧ ys.length = k ∧ (∀ x ∈ ys, 0 ≤ x ∧ x ≤ 255) ∧ wr.ownsRow w.heap.size 5 1 (.slice av k cp) k (ys.map (.int .u8)) ∧ Drawing w0 wr b a zs.length cap ∧ w.grownBy wr (some b)) (fun _ i _ => m - (intOf i).toNat)
  case atStart => exact ⟨0, [], _, _, Nat.zero_le _, rfl, rfl, rfl, by simp, hmade, hd0, hg0⟩
  case round =>
    clear hmade hd0 hg0
    obtain ⟨k, ys, av, cp, hk, rfl, rfl, hyl, hyv, hown, hdr, hgr⟩ := hrel
    by_cases hlt : k < m
    · have HYL : Hid _ := hyl
      clear hyl
      go_wp2_with (first
        | (go_at_call 39; refine (next_any w0 _ b a zs cap 256 hdr hz hv hl (by omega) (by omega)).mono ?_; rintro e w1 ⟨r, rfl, r0, r1, hd1, hg1⟩; have ho1 := kept_new hown hg1 hbl; have hs1 := hg1.size)
        | (at_builtin; refine wpList_app1 _ (by rfl) _ _ 24 5 (by rfl) .u8 1 Tryd.underlying24 info_byte (by decide) w.heap.size av k cp ys r (by rfl) (ho1.alloc _) ⟨w1.heap.size, 0, none⟩ (by rfl) (by simp) (by omega) (by have := hgr.size; simp; omega) ?_; intro g cap' w4 ho4 hg4))
      have hne : ∀ k', (Value.slice av k cp).ownBlock = some k' → w.heap.size ≤ k' := fun k' hk' => (hown.lt k' hk').1
      have hgA := grown_past (grown_past (grown_trans hgr hg1) (World.grownBy_alloc w1 (.cells #[.int .u8 r] 5) none) (by simp)) hg4 hne
      have hdA := (hd1.grown (World.grownBy_alloc w1 (.cells #[.int .u8 r] 5) none) (by simp)).grown hg4 (fun k' hk' => by have := hne k' hk'; omega)
      go_roundw
      case rel => exact ⟨k + 1, ys ++ [r], _, _, by omega, by go_num, rfl, by have := HYL.out; simp; omega, by intro x hx; simp at hx; rcases hx with hx | rfl; exact hyv x hx; omega, ho4, hdA, hgA⟩
      case measure => simp [intOf]; omega
    · go_wp2
      go_ret
      obtain rfl : k = m := by omega
      exact ⟨ys, _, _, rfl, hyl, hyv, hown, hdr, hgr⟩
end Go.Proofs.YthgggmkljnghmaaDoor
