import Derived.Test.YthgggmkljnghmaaDoorWireEnc3
import Derived.Test.YthgggmkljnghmaaDoorFrameLaw
import Derived.Deep.RegionHeld3
namespace Go.Proofs.YthgggmkljnghmaaDoor
open Go.ChangeShapes Go.WideShapes Go.ChangeAt Go.RowKit
set_option linter.unusedVariables false

theorem kept_below {w w' : World} {base : Nat} {e : TypeId} {size : Nat} {v v2 : Value} {n : Nat} {xs : List Value} {B : Nat} (h : w.ownsRow base e size v n xs) (hg : w.grownBy w' v2.ownBlock) (hlt : ∀ k, v.ownBlock = some k → k < B) (hge : ∀ k, v2.ownBlock = some k → B ≤ k) : w'.ownsRow base e size v n xs := by
  refine h.kept hg ?_
  cases hv : v.ownBlock with
  | none => exact .inl rfl
  | some k =>
    refine .inr fun hk => ?_
    have h1 := hlt k hv
    have h2 := hge k hk.symm
    omega
theorem kept_above {w w' : World} {base : Nat} {e : TypeId} {size : Nat} {v v2 : Value} {n : Nat} {xs : List Value} {B : Nat} (h : w.ownsRow base e size v n xs) (hg : w.grownBy w' v2.ownBlock) (hge : ∀ k, v.ownBlock = some k → B ≤ k) (hlt : ∀ k, v2.ownBlock = some k → k < B) : w'.ownsRow base e size v n xs := by
  refine h.kept hg ?_
  cases hv : v.ownBlock with
  | none => exact .inl rfl
  | some k =>
    refine .inr fun hk => ?_
    have h1 := hge k hv
    have h2 := hlt k hk.symm
    omega

/-- At every frame of these fields, wherever its payload lies, the function hands back the bytes zs in a row of its own, and the code c. -/
def GivesE (fn : FuncId) (k p s o wd : Int) (ys zs : List Int) (c : Int) : Prop :=
  ∀ (a : Option Addr) (n cap : Nat) (w : World), ys.length = n → Ints .u8 w a ys → (a = none → cap = 0) → Laid w →
    Calls Tryd.prog fn #[.agg #[.int .i64 k, .int .i64 p, .int .u32 s, .int .u64 o, .int .i64 wd, .slice a n cap]] w fun e w' => ∃ av cp, e = .returned (.tuple #[.slice av zs.length cp, .int .i64 c]) ∧
      w'.ownsRow w.heap.size 5 1 (.slice av zs.length cp) zs.length (zs.map (.int .u8)) ∧ Below w.heap.size w w'

theorem frameBytes_length (k p s o wd : Int) (ys : List Int) : (frameBytes k p s o wd ys).length = 22 + ys.length := by
  unfold frameBytes laidDown
  simp [be_length]
  omega

theorem bothEnc (k p s o wd : Int) (ys : List Int) (k0 : -9223372036854775808 ≤ k) (k1 : k ≤ 9223372036854775807) (pa : -9223372036854775808 ≤ p) (pb : p ≤ 9223372036854775807) (s0 : 0 ≤ s) (s1 : s ≤ 4294967295) (o0 : 0 ≤ o) (o1 : o ≤ 18446744073709551615) (wa : -9223372036854775808 ≤ wd) (wb : wd ≤ 9223372036854775807) (hl : ys.length ≤ 1048576) (hyv : ∀ x ∈ ys, 0 ≤ x ∧ x ≤ 255) :
    ∃ (zs : List Int) (c : Int), zs.length ≤ 1048576 ∧ GivesE 8 k p s o wd ys zs c ∧ GivesE 10 k p s o wd ys zs c := by
  by_cases hv : Valid k p s o wd ys.length
  · refine ⟨frameBytes k p s o wd ys, 0, by rw [frameBytes_length]; unfold Valid at hv; omega, ?_, ?_⟩
    · intro a n cap w hn hy hno hg
      subst hn
      refine (specEncode_good k p s o wd a ys ys.length cap w k0 k1 pa pb s0 s1 o0 o1 wa wb hl rfl hy hyv hv).mono ?_
      rintro e w' ⟨av, cp, rfl, ho, hb⟩
      rw [frameBytes_length]
      exact ⟨av, cp, rfl, ho, hb⟩
    · intro a n cap w hn hy hno hg
      subst hn
      refine (implEncode_good k p s o wd a ys ys.length cap w k0 k1 pa pb s0 s1 o0 o1 wa wb hl rfl hy hyv hno hv).mono ?_
      rintro e w' ⟨av, cp, rfl, ho, hb⟩
      rw [frameBytes_length]
      exact ⟨av, cp, rfl, ho, hb⟩
  · refine ⟨[], 1, by simp, ?_, ?_⟩
    · intro a n cap w hn hy hno hg
      subst hn
      refine (specEncode_bad k p s o wd a ys ys.length cap w k0 k1 pa pb s0 s1 o0 o1 wa wb hl hv).mono ?_
      rintro e w' ⟨rfl, hb⟩
      exact ⟨none, 0, rfl, World.ownsRow_nil _ _ _ _, hb⟩
    · intro a n cap w hn hy hno hg
      subst hn
      refine (implEncode_bad k p s o wd a ys ys.length cap w k0 k1 pa pb s0 s1 o0 o1 wa wb hl hg hv).mono ?_
      rintro e w' ⟨rfl, hb⟩
      exact ⟨none, 0, rfl, World.ownsRow_nil _ _ _ _, hb⟩

set_option maxHeartbeats 8000000 in
theorem lawEnc (k p s o wd : Int) (a : Option Addr) (ys : List Int) (n cap : Nat) (w : World) (k0 : -9223372036854775808 ≤ k) (k1 : k ≤ 9223372036854775807) (pa : -9223372036854775808 ≤ p) (pb : p ≤ 9223372036854775807) (s0 : 0 ≤ s) (s1 : s ≤ 4294967295) (o0 : 0 ≤ o) (o1 : o ≤ 18446744073709551615) (wa : -9223372036854775808 ≤ wd) (wb : wd ≤ 9223372036854775807) (hyl : ys.length = n) (hm : n ≤ 9223372036854775807) (hy : Ints .u8 w a ys) (hyv : ∀ x ∈ ys, 0 ≤ x ∧ x ≤ 255) (hg : Laid w) :
    Calls Tryd.prog 3 #[.agg #[.int .i64 k, .int .i64 p, .int .u32 s, .int .u64 o, .int .i64 wd, .slice a n cap]] w fun e w' => e = .returned (.bool true) ∧ Below w.heap.size w w' := by
  obtain ⟨W, hW⟩ : ∃ W, W = w.alloc (.cells #[.int .i64 k, .int .i64 p, .int .u32 s, .int .u64 o, .int .i64 wd, .slice a n cap] 26) := ⟨_, rfl⟩
  have hb0 : Below w.heap.size w W := by rw [hW]; exact (Below.refl _ _).alloc (Nat.le_refl _) _
  have hsW : W.heap.size = w.heap.size + 1 := by rw [hW]; simp
  have hbox : W.heap[w.heap.size]? = some (.cells #[.int .i64 k, .int .i64 p, .int .u32 s, .int .u64 o, .int .i64 wd, .slice a n cap] 26) := by rw [hW]; exact alloc_block _ _ _ rfl
  have hyW := hy.moved hb0
  have hgW := hg.moved hb0
  have hlt : w.heap.size < W.heap.size := by omega
  by_cases hl : n ≤ 1048576
  · obtain ⟨zs, c, hzl, hspec, himpl⟩ := bothEnc k p s o wd ys k0 k1 pa pb s0 s1 o0 o1 wa wb (by omega) hyv
    have HSP : Hid _ := hspec
    have HIM : Hid _ := himpl
    clear hspec himpl hg hy hyv k0 k1 pa pb s0 s1 o0 o1 wa wb
    go_enter Tryd.func3, Tryd.ntmps3
    go_wp2_with fail
    rw [← hW]
    refine (szFrame_any k p s o wd a n cap W hm).mono ?_
    rintro e w0 ⟨rfl, hB0⟩
    rw [if_pos hl]
    clear hW
    obtain ⟨⟨f0, f1, f2, f3, f4, f5⟩, _⟩ := six_at ((hB0.block _ hlt).trans hbox)
    have t0 := hB0.size
    go_wp2_with fail
    refine (toFrame_any k p s o wd a ys n cap _ (hyW.moved hB0) hyl hl).mono ?_
    rintro e w1 ⟨b1, rfl, ho1, hb1⟩
    have hB1 := hB0.trans (hb1.mono hB0.size)
    clear f0 f1 f2 f3 f4 f5
    obtain ⟨⟨f0, f1, f2, f3, f4, f5⟩, _⟩ := six_at ((hB1.block _ hlt).trans hbox)
    have t1 := hB1.size
    go_wp2_with fail
    refine (HSP.out _ _ _ _ hyl (Ints.row ho1) (by simp) (hgW.moved hB1)).mono ?_
    rintro e w2 ⟨av0, cp0, rfl, hr0, hb2⟩
    have hB2 := hB1.trans (hb2.mono hB1.size)
    have hr0 := owned_base hr0 t1
    have lt0 : ∀ k, (Value.slice av0 zs.length cp0).ownBlock = some k → k < w2.heap.size := fun k hk => (hr0.lt k hk).2
    clear ho1 hb1 hb2 HSP
    clear f0 f1 f2 f3 f4 f5
    obtain ⟨⟨f0, f1, f2, f3, f4, f5⟩, _⟩ := six_at ((hB2.block _ hlt).trans hbox)
    have t2 := hB2.size
    go_wp2_with fail
    refine (toFrame_any k p s o wd a ys n cap _ (hyW.moved hB2) hyl hl).mono ?_
    rintro e w3 ⟨b3, rfl, ho3, hb3⟩
    have hB3 := hB2.trans (hb3.mono hB2.size)
    have hr0 := owned_kept hr0 hb3
    have s3 := hb3.size
    have hb3ge : w2.heap.size ≤ b3 ∧ b3 < w3.heap.size := ho3.lt _ rfl
    clear hb3
    obtain ⟨v3, hv3⟩ : ∃ v3, v3 = w3.alloc (.cells #[.int .i64 k, .int .i64 p, .int .u32 s, .int .u64 o, .int .i64 wd, .slice (some ⟨b3, 0, none⟩) n n] 30) := ⟨_, rfl⟩
    have hv : Below w3.heap.size w3 v3 := by rw [hv3]; exact (Below.refl _ _).alloc (Nat.le_refl _) _
    have hsv : v3.heap.size = w3.heap.size + 1 := by rw [hv3]; simp
    have hxb : v3.heap[w3.heap.size]? = some (.cells #[.int .i64 k, .int .i64 p, .int .u32 s, .int .u64 o, .int .i64 wd, .slice (some ⟨b3, 0, none⟩) n n] 30) := by rw [hv3]; exact alloc_block _ _ _ rfl
    have hB3 := hB3.trans (hv.mono hB3.size)
    have hr0 := owned_kept hr0 hv
    have ho3 := owned_kept ho3 hv
    have hltv : w3.heap.size < v3.heap.size := by omega
    clear hv
    clear f0 f1 f2 f3 f4 f5
    have t3 := hB3.size
    go_wp2_with fail
    rw [← hv3]
    clear hv3
    refine (HIM.out _ _ _ _ hyl (Ints.row ho3) (by simp) (hgW.moved hB3)).mono ?_
    rintro e w4 ⟨av1, cp1, rfl, hr1, hb4⟩
    have hB4 := hB3.trans (hb4.mono hB3.size)
    have hr0 := owned_kept hr0 hb4
    have ho3 := owned_kept ho3 hb4
    have s4 := hb4.size
    have ge1 : ∀ k, (Value.slice av1 zs.length cp1).ownBlock = some k → v3.heap.size ≤ k := fun k hk => (hr1.lt k hk).1
    clear hB3
    have hX4 := hb4
    clear hb4
    go_wp2_with fail
    refine (eqByteS_same _ _ zs _ _ _ (Ints.row hr1) (Ints.row hr0) (by omega)).mono ?_
    rintro e w5 ⟨rfl, hb5⟩
    have hr0 := owned_kept hr0 hb5
    have ho3 := owned_kept ho3 hb5
    have hr1 := owned_kept hr1 hb5
    have hB5 := hB4.trans (hb5.mono hB4.size)
    have s5 := hb5.size
    have hX5 := hX4.trans (hb5.mono hX4.size)
    clear hb5 hB4 hX4
    obtain ⟨⟨x0, x1, x2, x3, x4, x5⟩, _⟩ := six_at ((hX5.block _ hltv).trans hxb)
    obtain ⟨⟨f0, f1, f2, f3, f4, f5⟩, _⟩ := six_at ((hB5.block _ hlt).trans hbox)
    have t5 := hB5.size
    go_wp2_with fail
    go_region_held3 (fun w' => w'.cell? ⟨w.heap.size, 0, none⟩ = some (.int .i64 k) ∧ w'.cell? ⟨w.heap.size, 1, none⟩ = some (.int .i64 p) ∧ w'.cell? ⟨w.heap.size, 2, none⟩ = some (.int .u32 s) ∧ w'.cell? ⟨w.heap.size, 3, none⟩ = some (.int .u64 o) ∧ w'.cell? ⟨w.heap.size, 4, none⟩ = some (.int .i64 wd) ∧ w'.cell? ⟨w.heap.size, 5, none⟩ = some (.slice a n cap) ∧ w'.cell? ⟨w3.heap.size, 0, none⟩ = some (.int .i64 k) ∧ w'.cell? ⟨w3.heap.size, 1, none⟩ = some (.int .i64 p) ∧ w'.cell? ⟨w3.heap.size, 2, none⟩ = some (.int .u32 s) ∧ w'.cell? ⟨w3.heap.size, 3, none⟩ = some (.int .u64 o) ∧ w'.cell? ⟨w3.heap.size, 4, none⟩ = some (.int .i64 wd) ∧ w'.cell? ⟨w3.heap.size, 5, none⟩ = some (.slice (some ⟨b3, 0, none⟩) n n))
      (first | go_keep | exact ⟨by assumption, by assumption, by assumption, by assumption, by assumption, by assumption, by assumption, by assumption, by assumption, by assumption, by assumption, by assumption⟩)
      (first
        | (go_at_call 9; refine (toFrame_any k p s o wd a ys n cap _ (hyW.moved hB5.drew) hyl hl).mono ?_; rintro e w6 ⟨b6, rfl, ho6, hb6⟩; have hB6 := hB5.drew.trans (hb6.mono hB5.size); have hX6 := hX5.drew.trans (hb6.mono hX5.size); have hr06 := owned_kept (w := World.drew _) hr0 hb6; have ho36 := owned_kept (w := World.drew _) ho3 hb6; have hr16 := owned_kept (w := World.drew _) hr1 hb6; obtain ⟨⟨c0, c1, c2, c3, c4, c5⟩, _⟩ := six_at ((hB6.block _ hlt).trans hbox); obtain ⟨⟨d0, d1, d2, d3, d4, d5⟩, _⟩ := six_at ((hX6.block _ hltv).trans hxb))
        | (go_at_call 12; refine (eqFrame_same k p s o wd _ _ ys n _ _ _ (Ints.row ho36) (Ints.row ho6) hyl hl).mono ?_; rintro e w7 ⟨rfl, hb7⟩; have hB7 := hB6.trans (hb7.mono hB6.size); have hX7 := hX6.trans (hb7.mono hX6.size); obtain ⟨⟨e0, e1, e2, e3, e4, e5⟩, _⟩ := six_at ((hB7.block _ hlt).trans hbox); obtain ⟨⟨g0, g1, g2, g3, g4, g5⟩, _⟩ := six_at ((hX7.block _ hltv).trans hxb)))
    have hr0 := owned_kept hr06 hb7
    have ho3 := owned_kept ho36 hb7
    have hr1 := owned_kept hr16 hb7
    have s7 := hX7.size
    clear hb7 hB6 hB5 ho6 hX6 hX5 hb6 hr06 ho36 hr16 f0 f1 f2 f3 f4 f5 x0 x1 x2 x3 x4 x5 c0 c1 c2 c3 c4 c5 d0 d1 d2 d3 d4 d5 e0 e1 e2 e3 e4 e5
    go_wp2_with fail
    refine (markFrame_any k p s o wd _ ys n _ _ hyl ho3 hl).mono ?_
    rintro e w8 ⟨rfl, ho8, hg8⟩
    have hr0 := kept_below (B := w2.heap.size) hr0 hg8 lt0 (fun k hk => by simp [Value.ownBlock] at hk; omega)
    have hr1 := kept_above (B := v3.heap.size) hr1 hg8 ge1 (fun k hk => by simp [Value.ownBlock] at hk; omega)
    have hB8 := below_grown hB7 ho3 hg8 t2 hB7.size
    have s8 := hg8.size
    clear hg8 hB7 ho3 ho8 hX7 g0 g1 g2 g3 g4 g5
    go_wp2_with fail
    refine (eqByteS_same _ _ zs _ _ _ (Ints.row hr1) (Ints.row hr0) (by omega)).mono ?_
    rintro e w9 ⟨rfl, hb9⟩
    have hr0 := owned_kept hr0 hb9
    have hr1 := owned_kept hr1 hb9
    have hB9 := hB8.trans (hb9.mono hB8.size)
    have s9 := hb9.size
    clear hb9 hB8
    go_wp2_with fail
    refine (markByteS_any _ zs 1 _ _ _ rfl hr1 (by omega) (by omega) (by omega)).mono ?_
    rintro e w10 ⟨rfl, hr10, hg10⟩
    have hr0 := kept_below (B := v3.heap.size) hr0 hg10 (fun k hk => by have := lt0 k hk; omega) ge1
    have hB10 := below_grown hB9 hr1 hg10 t3 hB9.size
    have s10 := hg10.size
    clear hg10 hB9 hr1
    go_wp2_with fail
    refine (heldByteS_any av1 zs.length cp1 1 _ (Ints.row hr10) (by omega) (by omega) (by omega)).mono ?_
    rintro e w11 ⟨rfl, rfl⟩
    clear hr10
    obtain ⟨⟨f0, f1, f2, f3, f4, f5⟩, _⟩ := six_at ((hB10.block _ hlt).trans hbox)
    have t10 := hB10.size
    go_wp2_with fail
    refine (toFrame_any k p s o wd a ys n cap _ (hyW.moved hB10) hyl hl).mono ?_
    rintro e w12 ⟨b12, rfl, ho12, hb12⟩
    have hr0 := owned_kept hr0 hb12
    have hB12 := hB10.trans (hb12.mono hB10.size)
    clear hb12 hB10
    clear f0 f1 f2 f3 f4 f5
    go_wp2_with fail
    refine (HIM.out _ _ _ _ hyl (Ints.row ho12) (by simp) (hgW.moved hB12)).mono ?_
    rintro e w13 ⟨av2, cp2, rfl, hr2, hb13⟩
    have hr0 := owned_kept hr0 hb13
    have hB13 := hB12.trans (hb13.mono hB12.size)
    clear hb13 hB12 ho12 HIM
    go_wp2_with fail
    refine (eqByteS_same _ _ zs _ _ _ (Ints.row hr2) (Ints.row hr0) (by omega)).mono ?_
    rintro e w14 ⟨rfl, hb14⟩
    go_wp2
    go_ret
    have hB14 := hB13.trans (hb14.mono hB13.size)
    exact ⟨rfl, hb0.trans (hB14.mono hb0.size)⟩
  · go_enter Tryd.func3, Tryd.ntmps3
    go_wp2_with fail
    rw [← hW]
    refine (szFrame_any k p s o wd a n cap W hm).mono ?_
    rintro e w0 ⟨rfl, hB0⟩
    rw [if_neg hl]
    go_wp2
    go_ret
    exact ⟨rfl, hb0.trans (hB0.mono hb0.size)⟩
end Go.Proofs.YthgggmkljnghmaaDoor
