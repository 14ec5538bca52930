import Derived.Test.YthgggmkljnghmaaDoorDraw3
namespace Go.Proofs.YthgggmkljnghmaaDoor
open Go.ChangeShapes Go.WideShapes Go.ChangeAt Go.RowKit
set_option linter.unusedVariables false

theorem owned_prefix {w : World} {base : Nat} {e : TypeId} {av : Option Addr} {n cap m : Nat} {zs : List Int} {k : IntKind} (h : w.ownsRow base e 1 (.slice av n cap) n (zs.map (.int k))) (hm : m ≤ n) (h0 : 0 < n) : w.ownsRow base e 1 (.slice av m cap) m ((zs.take m).map (.int k)) := by
  have hl := owned_length h
  rcases h.2 with ⟨h1, h2⟩ | ⟨g, c, cur, h1, hg, hh, hle, hmx, hsz, htk⟩
  · omega
  · simp only [Value.slice.injEq] at h1
    obtain ⟨rfl, _, rfl⟩ := h1
    refine ⟨by simp; omega, .inr ⟨g, cap, cur, rfl, hg, hh, by omega, hmx, hsz, ?_⟩⟩
    rw [List.map_take, ← htk, List.take_take, Nat.mul_one, Nat.mul_one, Nat.min_eq_left hm]

theorem Drawing.drew {w0 w : World} {b : Nat} {a : Option Addr} {n cap : Nat} (h : Drawing w0 w b a n cap) : Drawing w0 w.drew b a n cap := ⟨h.bel.drew, h.new, h.src⟩
theorem grown_drew {w w1 : World} {row : Option Nat} (h : w.grownBy w1 row) : w.grownBy w1.drew row := ⟨h.os, h.tape, h.output, h.size, h.block⟩
theorem draw_below {w0 w w' : World} {b W : Nat} {a : Option Addr} {n cap : Nat} (h : Drawing w0 w b a n cap) (hb : Below W w w') (h1 : b < W) (h2 : w0.heap.size ≤ W) : Drawing w0 w' b a n cap := by
  obtain ⟨hbel, hnew, pos, st, hh, h3⟩ := h
  exact ⟨hbel.trans (hb.mono h2), hnew, pos, st, (hb.block b h1).trans hh, h3⟩
theorem grown_below {w wX w' : World} {row : Option Nat} (h : w.grownBy wX row) (hb : Below w.heap.size wX w') : w.grownBy w' row :=
  ⟨hb.os.trans h.os, hb.tape.trans h.tape, hb.output.trans h.output, Nat.le_trans h.size hb.size, fun i hi hne => (hb.block i hi).trans (h.block i hi hne)⟩
theorem stored8 {w : World} {base g n cap : Nat} {ys : List Int} (h : w.ownsRow base 5 1 (.slice (some ⟨g, 0, none⟩) n cap) n (ys.map (.int .u8))) (j : Nat) (X : Int) : (w.setCell ⟨g, j, none⟩ (.int .u8 X)).ownsRow base 5 1 (.slice (some ⟨g, 0, none⟩) n cap) n ((ys.set j X).map (.int .u8)) := by
  have := (h.stored j (.int .u8 X)).1
  rwa [← List.map_set] at this
theorem set_fits {ys : List Int} {j : Nat} {X : Int} (h : ∀ x ∈ ys, 0 ≤ x ∧ x ≤ 255) (hX : 0 ≤ X ∧ X ≤ 255) : ∀ x ∈ ys.set j X, 0 ≤ x ∧ x ≤ 255 := by
  intro x hx
  rcases List.mem_or_eq_of_mem_set hx with h1 | rfl
  · exact h x h1
  · exact hX
theorem cell8 {w : World} {base g n cap : Nat} {ys : List Int} (h : w.ownsRow base 5 1 (.slice (some ⟨g, 0, none⟩) n cap) n (ys.map (.int .u8))) (j : Nat) (hj : j < n) : w.cell? ⟨g, j, none⟩ = some (.int .u8 (ys.getD j 0)) ∧ w.frozen? ⟨g, j, none⟩ = false := by
  have hl := owned_length h
  refine ⟨?_, h.frozenAt j⟩
  rw [h.cellAt j (by omega)]
  simp [show j < ys.length by omega]

theorem xor8 (a b : Int) : 0 ≤ bits .xor .u8 a b ∧ bits .xor .u8 a b ≤ 255 := bounds_u8 (wf_bits _ _ _ _)

/-- Some bytes are handed back, in memory that is new. -/
def SomeBytes (w0 w : World) (b : Nat) (a : Option Addr) (n cap : Nat) (e : Ending) (w' : World) : Prop :=
  ∃ (ys : List Int) (av : Option Addr) (cp : Nat), e = .returned (.slice av ys.length cp) ∧ ys.length ≤ 1000 ∧ (∀ x ∈ ys, 0 ≤ x ∧ x ≤ 255) ∧ Ints .u8 w' av ys ∧ (av = none → cp = 0) ∧ ys.length ≤ cp ∧ Drawing w0 w' b a n cap ∧ w.grownBy w' (some b)

theorem SomeBytes.row {w0 w w' : World} {b : Nat} {a : Option Addr} {n cap m cp base : Nat} {av : Option Addr} {ys : List Int} (hl : ys.length = m) (hm : m ≤ 1000) (hv : ∀ x ∈ ys, 0 ≤ x ∧ x ≤ 255) (ho : w'.ownsRow base 5 1 (.slice av m cp) m (ys.map (.int .u8))) (hd : Drawing w0 w' b a n cap) (hg : w.grownBy w' (some b)) : SomeBytes w0 w b a n cap (.returned (.slice av m cp)) w' := by
  subst hl
  refine ⟨ys, av, cp, rfl, hm, hv, Ints.row ho, ?_, ?_, hd, hg⟩
  · intro h0
    rcases ho.2 with ⟨h1, h2⟩ | ⟨g, c, cur, h1, _⟩
    · simp at h1
      exact h1.2.2
    · rw [h0] at h1
      simp at h1
  · rcases ho.2 with ⟨h1, h2⟩ | ⟨g, c, cur, h1, hg2, hh, hle, _⟩
    · omega
    · simp only [Value.slice.injEq] at h1
      omega

set_option maxHeartbeats 1600000 in
theorem spoil_any (w0 w : World) (b : Nat) (a : Option Addr) (zs : List Int) (cap : Nat) (hd : Drawing w0 w b a zs.length cap) (hz : Ints .u8 w0 a zs) (hv : ∀ x ∈ zs, 0 ≤ x ∧ x ≤ 255) (hl : zs.length ≤ 2000000)
    (bs : List Int) (n cp : Nat) (ab : Option Addr) (hb : Ints .u8 w ab bs) (hbn : bs.length = n) (hbv : ∀ x ∈ bs, 0 ≤ x ∧ x ≤ 255) (h22 : 22 ≤ n) (h99 : n ≤ 900) :
    Calls Tryd.prog 40 #[.pointer (some ⟨b, 0, none⟩), .slice ab n cp] w (SomeBytes w0 w b a zs.length cap) := by
  have hbl := hd.lt
  have hnew := hd.new
  have hs0 := hd.bel.size
  go_enter Tryd.func40, Tryd.ntmps40
  go_wp2_with fail
  refine (l1Copy_any ab bs n cp w hb hbn (by omega)).mono ?_
  rintro e w1 ⟨av, cq, rfl, ho1, hb1⟩
  have hg1 : w.grownBy w1 (some b) := ⟨hb1.os, hb1.tape, hb1.output, hb1.size, fun i hi _ => hb1.block i hi⟩
  have hd1 : Drawing w0 w1 b a zs.length cap := hd.grown (row := none) ⟨hb1.os, hb1.tape, hb1.output, hb1.size, fun i hi _ => hb1.block i hi⟩ (by simp)
  clear hb hb1 hd
  go_wp2_with fail
  refine (next_any w0 _ b a zs cap 10 hd1 hz hv hl (by omega) (by omega)).mono ?_
  rintro e w2 ⟨k, rfl, k0, k1, hd2, g2⟩
  have ho2 := kept_new ho1 g2 hbl
  have hg2 := grown_trans hg1 g2
  clear hd1 g2 hg1 ho1
  obtain ⟨g, rfl⟩ : ∃ g, av = some ⟨g, 0, none⟩ := by
    rcases ho2.2 with ⟨h1, h2⟩ | ⟨g, c, cur, h1, _⟩
    · omega
    · simp only [Value.slice.injEq] at h1
      exact ⟨g, h1.1⟩
  have hcq : n ≤ cq := by
    rcases ho2.2 with ⟨h1, h2⟩ | ⟨g, c, cur, h1, _, _, h3, _⟩
    · omega
    · simp only [Value.slice.injEq] at h1
      omega
  have hgb := (ho2.lt g rfl).1
  have hcq0 : ¬ cq = 0 := by omega
  rcases (show k = 0 ∨ k = 1 ∨ k = 2 ∨ k = 3 ∨ k = 4 ∨ k = 5 ∨ k = 6 ∨ k = 7 ∨ k = 8 ∨ k = 9 by omega) with rfl | rfl | rfl | rfl | rfl | rfl | rfl | rfl | rfl | rfl
  · have hi1 : (1 : Int) ≤ (n : Int) := by omega
    have hi2 : (n : Int) - 1 ≤ (cq : Int) := by omega
    have hi3 : ((n : Int) - 1).toNat = n - 1 := by omega
    go_wp2
    go_ret
    exact SomeBytes.row (ys := bs.take (n - 1)) (by simp; omega) (by omega) (fun x hx => hbv x (List.mem_of_mem_take hx)) (owned_prefix ho2 (by omega) (by omega)) hd2 hg2
  · have hs2 := hg2.size
    go_wp2_with (at_builtin; refine wpList_app1 _ (by rfl) _ _ 24 5 (by rfl) .u8 1 Tryd.underlying24 info_byte (by decide) w.heap.size (some ⟨g, 0, none⟩) n cq bs 0 (by rfl) (ho2.alloc _) ⟨w2.heap.size, 0, none⟩ (by rfl) (by simp) (by omega) (by simp; omega) ?_; intro g' cap' w4 ho4 hg4)
    go_ret
    have hgA := grown_past (grown_past hg2 (World.grownBy_alloc w2 (.cells #[.int .u8 0] 5) none) (by simp)) hg4 (fun k' e => by simp [Value.ownBlock] at e; omega)
    have hdA := (hd2.grown (World.grownBy_alloc w2 (.cells #[.int .u8 0] 5) none) (by simp)).grown hg4 (fun k' e => by simp [Value.ownBlock] at e; omega)
    exact SomeBytes.row (ys := bs ++ [0]) (by simp; omega) (by omega) (by intro x hx; simp at hx; rcases hx with hx | rfl; exact hbv x hx; omega) ho4 hdA hgA
  · go_wp2_with fail
    refine (next_any w0 _ b a zs cap (n : Int) hd2 hz hv hl (by omega) (by omega)).mono ?_
    rintro e w3 ⟨r, rfl, r0, r1, hd3, g3⟩
    have ho3 := kept_new ho2 g3 hbl
    obtain ⟨j, rfl⟩ : ∃ j : Nat, r = (j : Int) := ⟨r.toNat, by omega⟩
    have hj : j ≤ cq := by omega
    have hj2 : (j : Int) ≤ (cq : Int) := by omega
    go_wp2
    go_ret
    exact SomeBytes.row (ys := bs.take j) (by simp; omega) (by omega) (fun x hx => hbv x (List.mem_of_mem_take hx)) (owned_prefix ho3 (by omega) (by omega)) hd3 (grown_trans hg2 g3)
  · go_wp2_with fail
    refine (next_any w0 _ b a zs cap (n : Int) hd2 hz hv hl (by omega) (by omega)).mono ?_
    rintro e w3 ⟨r, rfl, r0, r1, hd3, g3⟩
    have ho3 := kept_new ho2 g3 hbl
    have hg3 := grown_trans hg2 g3
    clear g3 hd2 ho2 hg2
    have ho4 := ho3
    have hd4 := hd3
    have hg4 := hg3
    clear ho3 hd3 hg3
    obtain ⟨j, rfl⟩ : ∃ j : Nat, r = (j : Int) := ⟨r.toNat, by omega⟩
    have hj : j < n := by omega
    have hj2 : (j : Int) < (n : Int) := by omega
    obtain ⟨c4, f4⟩ := cell8 ho4 j hj
    go_wp2
    go_region_with (go_at_call 39; refine (next_any w0 _ b a zs cap 8 hd4.drew hz hv hl (by omega) (by omega)).mono ?_; rintro e w5 ⟨r5, rfl, l5, u5, hd5, g5⟩; have ho5 := kept_new (w := World.drew _) ho4 g5 hbl; have hg5 := grown_trans (grown_drew hg4) g5; obtain ⟨c5, f5⟩ := cell8 ho5 j hj)
    all_goals
      have hsX := fun X => stored8 ho5 j X
      have hdX := fun X => hd5.grown (grown_set w5 g j (.int .u8 X)) (fun k' e => by have := Option.some.inj e; omega)
      have hgX := fun X => grown_past hg5 (grown_set w5 g j (.int .u8 X)) (fun k' e => by have := Option.some.inj e; omega)
      go_wp2
      go_ret
      exact SomeBytes.row (by simp; omega) (by omega) (set_fits hbv (xor8 _ _)) (hsX _) (hdX _) (hgX _)
  · go_wp2_with fail
    refine (next_any w0 _ b a zs cap (n : Int) hd2 hz hv hl (by omega) (by omega)).mono ?_
    rintro e w3 ⟨r, rfl, r0, r1, hd3, g3⟩
    have ho3 := kept_new ho2 g3 hbl
    have hg3 := grown_trans hg2 g3
    clear g3 hd2 ho2 hg2
    have ho4 := ho3
    have hd4 := hd3
    have hg4 := hg3
    clear ho3 hd3 hg3
    obtain ⟨j, rfl⟩ : ∃ j : Nat, r = (j : Int) := ⟨r.toNat, by omega⟩
    have hj : j < n := by omega
    have hj2 : (j : Int) < (n : Int) := by omega
    obtain ⟨c4, f4⟩ := cell8 ho4 j hj
    go_wp2
    go_region_with (go_at_call 39; refine (next_any w0 _ b a zs cap 8 hd4.drew hz hv hl (by omega) (by omega)).mono ?_; rintro e w5 ⟨r5, rfl, l5, u5, hd5, g5⟩; have ho5 := kept_new (w := World.drew _) ho4 g5 hbl; have hg5 := grown_trans (grown_drew hg4) g5; obtain ⟨c5, f5⟩ := cell8 ho5 j hj)
    all_goals
      have hi1 : (4 : Int) ≤ (n : Int) := by omega
      have hi2 : (n : Int) - 4 ≤ (cq : Int) := by omega
      have hi3 : ((n : Int) - 4).toNat = n - 4 := by omega
      have hsX := fun X => stored8 ho5 j X
      have hdX := fun X => hd5.grown (grown_set w5 g j (.int .u8 X)) (fun k' e => by have := Option.some.inj e; omega)
      have hgX := fun X => grown_past hg5 (grown_set w5 g j (.int .u8 X)) (fun k' e => by have := Option.some.inj e; omega)
      go_wp2_with fail
      refine (specSeal w.heap.size _ (n - 4) cq ((bs.set j _).take (n - 4)) _ (by simp; omega) (by omega) (fun x hx => set_fits hbv (xor8 _ _) x (List.mem_of_mem_take hx)) (owned_prefix (hsX _) (by omega) (by omega)) (by have := hg5.size; simp; omega)).mono ?_
      rintro e w6 ⟨av6, cp6, rfl, ho6, hb6⟩
      go_wp2
      go_ret
      exact SomeBytes.row (by simp [be_length]; omega) (by omega) (by
        intro x hx
        rcases List.mem_append.1 hx with hx | hx
        · exact set_fits hbv (xor8 _ _) x (List.mem_of_mem_take hx)
        · exact be_fits _ _ x hx) ho6 (draw_below (hdX _) hb6 hbl hs0) (grown_below (hgX _) hb6)
  · go_wp2_with fail
    refine (next_any w0 _ b a zs cap (n : Int) hd2 hz hv hl (by omega) (by omega)).mono ?_
    rintro e w3 ⟨r, rfl, r0, r1, hd3, g3⟩
    have ho3 := kept_new ho2 g3 hbl
    have hg3 := grown_trans hg2 g3
    clear g3 hd2 ho2 hg2
    have ho4 := ho3
    have hd4 := hd3
    have hg4 := hg3
    clear ho3 hd3 hg3
    obtain ⟨j, rfl⟩ : ∃ j : Nat, r = (j : Int) := ⟨r.toNat, by omega⟩
    have hj : j < n := by omega
    have hj2 : (j : Int) < (n : Int) := by omega
    obtain ⟨c4, f4⟩ := cell8 ho4 j hj
    go_wp2
    go_region_with (go_at_call 39; refine (next_any w0 _ b a zs cap 8 hd4.drew hz hv hl (by omega) (by omega)).mono ?_; rintro e w5 ⟨r5, rfl, l5, u5, hd5, g5⟩; have ho5 := kept_new (w := World.drew _) ho4 g5 hbl; have hg5 := grown_trans (grown_drew hg4) g5; obtain ⟨c5, f5⟩ := cell8 ho5 j hj)
    all_goals
      have hsX := fun X => stored8 ho5 j X
      have hdX := fun X => hd5.grown (grown_set w5 g j (.int .u8 X)) (fun k' e => by have := Option.some.inj e; omega)
      have hgX := fun X => grown_past hg5 (grown_set w5 g j (.int .u8 X)) (fun k' e => by have := Option.some.inj e; omega)
      go_wp2
      go_ret
      exact SomeBytes.row (by simp; omega) (by omega) (set_fits hbv (xor8 _ _)) (hsX _) (hdX _) (hgX _)
  · go_wp2_with fail
    refine (next_any w0 _ b a zs cap (n : Int) hd2 hz hv hl (by omega) (by omega)).mono ?_
    rintro e w3 ⟨r, rfl, r0, r1, hd3, g3⟩
    have ho3 := kept_new ho2 g3 hbl
    have hg3 := grown_trans hg2 g3
    clear g3 hd2 ho2 hg2
    go_wp2_with fail
    refine (next_any w0 _ b a zs cap 18 hd3 hz hv hl (by omega) (by omega)).mono ?_
    rintro e w4 ⟨q, rfl, q0, q1, hd4, g4⟩
    have ho4 := kept_new ho3 g4 hbl
    have hg4 := grown_trans hg3 g4
    clear g4 hd3 ho3 hg3
    obtain ⟨j, rfl⟩ : ∃ j : Nat, q = (j : Int) := ⟨q.toNat, by omega⟩
    have hj : j < n := by omega
    have hj2 : (j : Int) < (n : Int) := by omega
    obtain ⟨c4, f4⟩ := cell8 ho4 j hj
    go_wp2
    go_region_with (go_at_call 39; refine (next_any w0 _ b a zs cap 8 hd4.drew hz hv hl (by omega) (by omega)).mono ?_; rintro e w5 ⟨r5, rfl, l5, u5, hd5, g5⟩; have ho5 := kept_new (w := World.drew _) ho4 g5 hbl; have hg5 := grown_trans (grown_drew hg4) g5; obtain ⟨c5, f5⟩ := cell8 ho5 j hj)
    all_goals
      have hi1 : (4 : Int) ≤ (n : Int) := by omega
      have hi2 : (n : Int) - 4 ≤ (cq : Int) := by omega
      have hi3 : ((n : Int) - 4).toNat = n - 4 := by omega
      have hsX := fun X => stored8 ho5 j X
      have hdX := fun X => hd5.grown (grown_set w5 g j (.int .u8 X)) (fun k' e => by have := Option.some.inj e; omega)
      have hgX := fun X => grown_past hg5 (grown_set w5 g j (.int .u8 X)) (fun k' e => by have := Option.some.inj e; omega)
      go_wp2_with fail
      refine (specSeal w.heap.size _ (n - 4) cq ((bs.set j _).take (n - 4)) _ (by simp; omega) (by omega) (fun x hx => set_fits hbv (xor8 _ _) x (List.mem_of_mem_take hx)) (owned_prefix (hsX _) (by omega) (by omega)) (by have := hg5.size; simp; omega)).mono ?_
      rintro e w6 ⟨av6, cp6, rfl, ho6, hb6⟩
      go_wp2
      go_ret
      exact SomeBytes.row (by simp [be_length]; omega) (by omega) (by
        intro x hx
        rcases List.mem_append.1 hx with hx | hx
        · exact set_fits hbv (xor8 _ _) x (List.mem_of_mem_take hx)
        · exact be_fits _ _ x hx) ho6 (draw_below (hdX _) hb6 hbl hs0) (grown_below (hgX _) hb6)
  · go_wp2_with fail
    refine (next_any w0 _ b a zs cap (n : Int) hd2 hz hv hl (by omega) (by omega)).mono ?_
    rintro e w3 ⟨r, rfl, r0, r1, hd3, g3⟩
    have ho3 := kept_new ho2 g3 hbl
    have hg3 := grown_trans hg2 g3
    clear g3 hd2 ho2 hg2
    go_wp2_with fail
    refine (next_any w0 _ b a zs cap 18 hd3 hz hv hl (by omega) (by omega)).mono ?_
    rintro e w4 ⟨q, rfl, q0, q1, hd4, g4⟩
    have ho4 := kept_new ho3 g4 hbl
    have hg4 := grown_trans hg3 g4
    clear g4 hd3 ho3 hg3
    obtain ⟨j, rfl⟩ : ∃ j : Nat, q = (j : Int) := ⟨q.toNat, by omega⟩
    have hj : j < n := by omega
    have hj2 : (j : Int) < (n : Int) := by omega
    obtain ⟨c4, f4⟩ := cell8 ho4 j hj
    go_wp2
    go_region_with (go_at_call 39; refine (next_any w0 _ b a zs cap 8 hd4.drew hz hv hl (by omega) (by omega)).mono ?_; rintro e w5 ⟨r5, rfl, l5, u5, hd5, g5⟩; have ho5 := kept_new (w := World.drew _) ho4 g5 hbl; have hg5 := grown_trans (grown_drew hg4) g5; obtain ⟨c5, f5⟩ := cell8 ho5 j hj)
    all_goals
      have hsX := fun X => stored8 ho5 j X
      have hdX := fun X => hd5.grown (grown_set w5 g j (.int .u8 X)) (fun k' e => by have := Option.some.inj e; omega)
      have hgX := fun X => grown_past hg5 (grown_set w5 g j (.int .u8 X)) (fun k' e => by have := Option.some.inj e; omega)
      go_wp2
      go_ret
      exact SomeBytes.row (by simp; omega) (by omega) (set_fits hbv (xor8 _ _)) (hsX _) (hdX _) (hgX _)
  · go_wp2_with fail
    refine (next_any w0 _ b a zs cap (n : Int) hd2 hz hv hl (by omega) (by omega)).mono ?_
    rintro e w3 ⟨r, rfl, r0, r1, hd3, g3⟩
    have ho3 := kept_new ho2 g3 hbl
    have hg3 := grown_trans hg2 g3
    clear g3 hd2 ho2 hg2
    go_wp2_with fail
    refine (next_any w0 _ b a zs cap 18 hd3 hz hv hl (by omega) (by omega)).mono ?_
    rintro e w4 ⟨q, rfl, q0, q1, hd4, g4⟩
    have ho4 := kept_new ho3 g4 hbl
    have hg4 := grown_trans hg3 g4
    clear g4 hd3 ho3 hg3
    obtain ⟨j, rfl⟩ : ∃ j : Nat, q = (j : Int) := ⟨q.toNat, by omega⟩
    have hj : j < n := by omega
    have hj2 : (j : Int) < (n : Int) := by omega
    obtain ⟨c4, f4⟩ := cell8 ho4 j hj
    go_wp2
    go_region_with (go_at_call 39; refine (next_any w0 _ b a zs cap 8 hd4.drew hz hv hl (by omega) (by omega)).mono ?_; rintro e w5 ⟨r5, rfl, l5, u5, hd5, g5⟩; have ho5 := kept_new (w := World.drew _) ho4 g5 hbl; have hg5 := grown_trans (grown_drew hg4) g5; obtain ⟨c5, f5⟩ := cell8 ho5 j hj)
    all_goals
      have hi1 : (4 : Int) ≤ (n : Int) := by omega
      have hi2 : (n : Int) - 4 ≤ (cq : Int) := by omega
      have hi3 : ((n : Int) - 4).toNat = n - 4 := by omega
      have hsX := fun X => stored8 ho5 j X
      have hdX := fun X => hd5.grown (grown_set w5 g j (.int .u8 X)) (fun k' e => by have := Option.some.inj e; omega)
      have hgX := fun X => grown_past hg5 (grown_set w5 g j (.int .u8 X)) (fun k' e => by have := Option.some.inj e; omega)
      go_wp2_with fail
      refine (specSeal w.heap.size _ (n - 4) cq ((bs.set j _).take (n - 4)) _ (by simp; omega) (by omega) (fun x hx => set_fits hbv (xor8 _ _) x (List.mem_of_mem_take hx)) (owned_prefix (hsX _) (by omega) (by omega)) (by have := hg5.size; simp; omega)).mono ?_
      rintro e w6 ⟨av6, cp6, rfl, ho6, hb6⟩
      go_wp2
      go_ret
      exact SomeBytes.row (by simp [be_length]; omega) (by omega) (by
        intro x hx
        rcases List.mem_append.1 hx with hx | hx
        · exact set_fits hbv (xor8 _ _) x (List.mem_of_mem_take hx)
        · exact be_fits _ _ x hx) ho6 (draw_below (hdX _) hb6 hbl hs0) (grown_below (hgX _) hb6)
  · go_wp2_with fail
    refine (next_any w0 _ b a zs cap (n : Int) hd2 hz hv hl (by omega) (by omega)).mono ?_
    rintro e w3 ⟨r, rfl, r0, r1, hd3, g3⟩
    have ho3 := kept_new ho2 g3 hbl
    have hg3 := grown_trans hg2 g3
    clear g3 hd2 ho2 hg2
    go_wp2_with fail
    refine (next_any w0 _ b a zs cap 18 hd3 hz hv hl (by omega) (by omega)).mono ?_
    rintro e w4 ⟨q, rfl, q0, q1, hd4, g4⟩
    have ho4 := kept_new ho3 g4 hbl
    have hg4 := grown_trans hg3 g4
    clear g4 hd3 ho3 hg3
    obtain ⟨j, rfl⟩ : ∃ j : Nat, q = (j : Int) := ⟨q.toNat, by omega⟩
    have hj : j < n := by omega
    have hj2 : (j : Int) < (n : Int) := by omega
    obtain ⟨c4, f4⟩ := cell8 ho4 j hj
    go_wp2
    go_region_with (go_at_call 39; refine (next_any w0 _ b a zs cap 8 hd4.drew hz hv hl (by omega) (by omega)).mono ?_; rintro e w5 ⟨r5, rfl, l5, u5, hd5, g5⟩; have ho5 := kept_new (w := World.drew _) ho4 g5 hbl; have hg5 := grown_trans (grown_drew hg4) g5; obtain ⟨c5, f5⟩ := cell8 ho5 j hj)
    all_goals
      have hsX := fun X => stored8 ho5 j X
      have hdX := fun X => hd5.grown (grown_set w5 g j (.int .u8 X)) (fun k' e => by have := Option.some.inj e; omega)
      have hgX := fun X => grown_past hg5 (grown_set w5 g j (.int .u8 X)) (fun k' e => by have := Option.some.inj e; omega)
      go_wp2
      go_ret
      exact SomeBytes.row (by simp; omega) (by omega) (set_fits hbv (xor8 _ _)) (hsX _) (hdX _) (hgX _)
end Go.Proofs.YthgggmkljnghmaaDoor
