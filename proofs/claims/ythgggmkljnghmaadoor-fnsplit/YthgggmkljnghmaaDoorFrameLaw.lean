import Derived.Test.YthgggmkljnghmaaDoorByteLaw
import Derived.Deep.RegionWith
import Derived.Deep.Cut
namespace Go.Proofs.YthgggmkljnghmaaDoor
open Go.ChangeShapes Go.WideShapes Go.ChangeAt Go.RowKit
set_option linter.unusedVariables false

theorem szFrame_any (k p s o wd : Int) (a : Option Addr) (n cap : Nat) (w : World) (hm : n ≤ 9223372036854775807) :
    Calls Tryd.prog 7 #[.agg #[.int .i64 k, .int .i64 p, .int .u32 s, .int .u64 o, .int .i64 wd, .slice a n cap], .int .i64 1048576] w fun e w' => e = .returned (.int .i64 (if n ≤ 1048576 then 1048576 - (n : Int) else -1)) ∧ Below w.heap.size w w' := by
  have hb0 : Below w.heap.size w (w.alloc (.cells #[.int .i64 k, .int .i64 p, .int .u32 s, .int .u64 o, .int .i64 wd, .slice a n cap] 26)) := (Below.refl _ _).alloc (Nat.le_refl _) _
  by_cases h : n ≤ 1048576
  · rw [if_pos h]
    go_enter Tryd.func7, Tryd.ntmps7
    go_wp2_with (go_at_call 25; refine (szByteS_any a n cap _ hm).mono ?_; rintro e w9 ⟨rfl, rfl⟩; rw [if_pos h])
    go_ret
    exact ⟨rfl, hb0⟩
  · rw [if_neg h]
    go_enter Tryd.func7, Tryd.ntmps7
    go_wp2_with (go_at_call 25; refine (szByteS_any a n cap _ hm).mono ?_; rintro e w9 ⟨rfl, rfl⟩; rw [if_neg h])
    go_ret
    exact ⟨rfl, hb0⟩

theorem alloc_block (w : World) (o : Obj) (b : Nat) (h : b = w.heap.size) : (w.alloc o).heap[b]? = some o := by subst h; show (w.heap.push o)[w.heap.size]? = _; simp

theorem own6 {w : World} {base b c : Nat} {e : TypeId} {n cap : Nat} {xs : List Value} {u0 u1 u2 u3 u4 u5 u6 : Value} (h : w.ownsRow base e 1 (.slice (some ⟨base, 0, none⟩) n cap) n xs) (hb : b < base) (hc : c < base) :
    (((((((w.setCell ⟨b, 5, none⟩ u6).setCell ⟨c, 0, none⟩ u0).setCell ⟨c, 1, none⟩ u1).setCell ⟨c, 2, none⟩ u2).setCell ⟨c, 3, none⟩ u3).setCell ⟨c, 4, none⟩ u4).setCell ⟨c, 5, none⟩ u5).ownsRow base e 1 (.slice (some ⟨base, 0, none⟩) n cap) n xs := by
  have step : ∀ {w' : World} {d i : Nat} {u : Value}, d < base → w'.ownsRow base e 1 (.slice (some ⟨base, 0, none⟩) n cap) n xs → (w'.setCell ⟨d, i, none⟩ u).ownsRow base e 1 (.slice (some ⟨base, 0, none⟩) n cap) n xs := by
    intro w' d i u hd h'
    refine h'.kept (grown_set w' d i u) (.inr ?_)
    simp [Value.ownBlock]
    omega
  exact step hc (step hc (step hc (step hc (step hc (step hc (step hb h))))))

theorem set6 {B : Nat} {w0 w : World} {b c : Nat} {u0 u1 u2 u3 u4 u5 u6 : Value} (h : Below B w0 w) (hb : B ≤ b) (hc : B ≤ c) :
    Below B w0 (((((((w.setCell ⟨b, 5, none⟩ u6).setCell ⟨c, 0, none⟩ u0).setCell ⟨c, 1, none⟩ u1).setCell ⟨c, 2, none⟩ u2).setCell ⟨c, 3, none⟩ u3).setCell ⟨c, 4, none⟩ u4).setCell ⟨c, 5, none⟩ u5) :=
  ((((((h.setCell hb _).setCell hc _).setCell hc _).setCell hc _).setCell hc _).setCell hc _).setCell hc _

theorem six_at {w : World} {b : Nat} {e : TypeId} {v0 v1 v2 v3 v4 v5 : Value} (h : w.heap[b]? = some (.cells #[v0, v1, v2, v3, v4, v5] e)) :
    (w.cell? ⟨b, 0, none⟩ = some v0 ∧ w.cell? ⟨b, 1, none⟩ = some v1 ∧ w.cell? ⟨b, 2, none⟩ = some v2 ∧ w.cell? ⟨b, 3, none⟩ = some v3 ∧ w.cell? ⟨b, 4, none⟩ = some v4 ∧ w.cell? ⟨b, 5, none⟩ = some v5) ∧
    ∀ i, w.frozen? ⟨b, i, none⟩ = false := by
  constructor
  · simp [World.cell?, h]
  · intro i
    simp [World.frozen?, h]

set_option maxHeartbeats 4000000 in
theorem toFrame_any (k p s o wd : Int) (a : Option Addr) (ys : List Int) (n cap : Nat) (w : World) (hz : Ints .u8 w a ys) (hn : ys.length = n) (hl : n ≤ 1048576) :
    Calls Tryd.prog 9 #[.agg #[.int .i64 k, .int .i64 p, .int .u32 s, .int .u64 o, .int .i64 wd, .slice a n cap]] w fun e w' => ∃ b, e = .returned (.agg #[.int .i64 k, .int .i64 p, .int .u32 s, .int .u64 o, .int .i64 wd, .slice (some ⟨b, 0, none⟩) n n]) ∧
      w'.ownsRow w.heap.size 5 1 (.slice (some ⟨b, 0, none⟩) n n) n (ys.map (.int .u8)) ∧ Below w.heap.size w w' := by
  subst hn
  obtain ⟨W, hW⟩ : ∃ W, W = ((w.alloc (.cells #[.int .i64 k, .int .i64 p, .int .u32 s, .int .u64 o, .int .i64 wd, .slice a ys.length cap] 26)).alloc (.cells #[.int .i64 0, .int .i64 0, .int .u32 0, .int .u64 0, .int .i64 0, .slice none 0 0] 30)).alloc (.cells #[.int .i64 k, .int .i64 p, .int .u32 s, .int .u64 o, .int .i64 wd, .slice none 0 0] 30) := ⟨_, rfl⟩
  have hb0 : Below w.heap.size w W := by rw [hW]; exact (((Below.refl _ _).alloc (Nat.le_refl _) _).alloc (by simp) _).alloc (by simp; omega) _
  have hs : W.heap.size = w.heap.size + 3 := by rw [hW]; simp
  have hr : W.heap[w.heap.size + 1]? = some (.cells #[.int .i64 0, .int .i64 0, .int .u32 0, .int .u64 0, .int .i64 0, .slice none 0 0] 30) := by rw [hW]; exact (Below.heap_alloc _ _ _ (by simp)).trans (alloc_block _ _ _ (by simp))
  have ho : W.heap[w.heap.size + 1 + 1]? = some (.cells #[.int .i64 k, .int .i64 p, .int .u32 s, .int .u64 o, .int .i64 wd, .slice none 0 0] 30) := by rw [hW]; exact alloc_block _ _ _ (by simp)
  have hzW := hz.moved hb0
  go_enter Tryd.func9, Tryd.ntmps9
  go_wp2_with fail
  rw [← hW]
  refine (toByteS_any a ys cap W hzW hl).mono ?_
  rintro e w1 ⟨rfl, ho1, hb1⟩
  have hr1 := (hb1.block _ (by omega)).trans hr
  have hO1 := (hb1.block _ (by omega)).trans ho
  obtain ⟨⟨r0, r1, r2, r3, r4, r5⟩, rf⟩ := six_at hr1
  obtain ⟨⟨q0, q1, q2, q3, q4, q5⟩, qf⟩ := six_at hO1
  have rf0 := rf 0
  have rf1 := rf 1
  have rf2 := rf 2
  have rf3 := rf 3
  have rf4 := rf 4
  have rf5 := rf 5
  have qf5 := qf 5
  clear rf qf hW hr ho hr1 hO1 hz
  go_wp2
  rw [hs] at ho1
  have hB := hb0.trans (hb1.mono hb0.size)
  exact bodyPost_ret (v := .agg #[.int .i64 k, .int .i64 p, .int .u32 s, .int .u64 o, .int .i64 wd, .slice (some ⟨w.heap.size + 3, 0, none⟩) ys.length ys.length]) (by simp [results, Tryd.results9, go_sem, r0, r1, r2, r3, r4, r5]) rfl ⟨_, rfl, owned_base (own6 ho1 (by omega) (by omega)) (by omega), set6 hB (by omega) (by omega)⟩

set_option maxHeartbeats 4000000 in
theorem eqFrame_same (k p s o wd : Int) (a a' : Option Addr) (ys : List Int) (n cap cap' : Nat) (w : World) (hz : Ints .u8 w a ys) (hz' : Ints .u8 w a' ys) (hn : ys.length = n) (hl : n ≤ 1048576) :
    Calls Tryd.prog 12 #[.agg #[.int .i64 k, .int .i64 p, .int .u32 s, .int .u64 o, .int .i64 wd, .slice a n cap], .agg #[.int .i64 k, .int .i64 p, .int .u32 s, .int .u64 o, .int .i64 wd, .slice a' n cap']] w fun e w' => e = .returned (.bool true) ∧ Below w.heap.size w w' := by
  subst hn
  have hb0 : Below w.heap.size w ((w.alloc (.cells #[.int .i64 k, .int .i64 p, .int .u32 s, .int .u64 o, .int .i64 wd, .slice a ys.length cap] 30)).alloc (.cells #[.int .i64 k, .int .i64 p, .int .u32 s, .int .u64 o, .int .i64 wd, .slice a' ys.length cap'] 30)) := ((Below.refl _ _).alloc (Nat.le_refl _) _).alloc (by simp) _
  have hzW := hz.moved hb0
  have hzW' := hz'.moved hb0
  go_enter Tryd.func12, Tryd.ntmps12
  go_wp2_with (go_at_call 11; refine (eqByteS_same a a' ys cap cap' _ hzW hzW' hl).mono ?_; rintro e w1 ⟨rfl, hb1⟩)
  go_ret
  exact ⟨rfl, hb0.trans (hb1.mono hb0.size)⟩

set_option maxHeartbeats 4000000 in
theorem markFrame_any (k p s o wd : Int) (v : Value) (zs : List Int) (n : Nat) (w : World) (base : Nat) (hz : zs.length = n) (ho : w.ownsRow base 5 1 v n (zs.map (.int .u8))) (hl : n ≤ 1048576) :
    Calls Tryd.prog 13 #[.agg #[.int .i64 k, .int .i64 p, .int .u32 s, .int .u64 o, .int .i64 wd, v], .int .i64 1] w fun e w' => e = .returned (.int .i64 (1 + (n : Int))) ∧ w'.ownsRow base 5 1 v n ((markedB 1 n).map (.int .u8)) ∧ w.grownBy w' v.ownBlock := by
  have h0 : w.grownBy (w.alloc (.cells #[.int .i64 k, .int .i64 p, .int .u32 s, .int .u64 o, .int .i64 wd, v] 30)) v.ownBlock := World.grownBy_alloc _ _ _
  have hoa := ho.alloc (.cells #[.int .i64 k, .int .i64 p, .int .u32 s, .int .u64 o, .int .i64 wd, v] 30)
  have hsh : ∃ a' l' c', v = .slice a' l' c' := by
    rcases ho.2 with ⟨rfl, _⟩ | ⟨g, cap, cur, rfl, _⟩
    · exact ⟨_, _, _, rfl⟩
    · exact ⟨_, _, _, rfl⟩
  obtain ⟨a', l', c', rfl⟩ := hsh
  go_enter Tryd.func13, Tryd.ntmps13
  go_wp2_with (go_at_call 14; refine (markByteS_any _ zs 1 _ base n hz hoa hl (by omega) (by omega)).mono ?_; rintro e w1 ⟨rfl, ho1, hg1⟩)
  go_ret
  exact ⟨rfl, ho1, grown_trans h0 hg1⟩
end Go.Proofs.YthgggmkljnghmaaDoor
