import Derived.Test.YthgggmkljnghmaaDoorDraw2
import Derived.Laws.ShiftsVarLaws
namespace Go.Proofs.YthgggmkljnghmaaDoor
open Go.ChangeShapes Go.WideShapes Go.ChangeAt Go.RowKit
set_option linter.unusedVariables false

/-- What is carried along while a frame is drawn: the source, the result's place R, the frame's place F and what lies in it. -/
structure Carry (w0 w wi : World) (b F : Nat) (a : Option Addr) (n cap : Nat) (u0 u1 u2 u3 u4 u5 : Value) : Prop where
  d : Drawing w0 wi b a n cap
  r : wi.heap[w.heap.size]? = some (.cells #[.int .i64 0, .int .i64 0, .int .u32 0, .int .u64 0, .int .i64 0, .slice none 0 0] 30)
  f : wi.heap[F]? = some (.cells #[u0, u1, u2, u3, u4, u5] 30)
  g : w.grownBy wi (some b)
  bl : b < w.heap.size
  lt : w.heap.size < F
  nb : w0.heap.size ≤ w.heap.size
theorem Carry.call {w0 w wi wj : World} {b F : Nat} {a : Option Addr} {n cap : Nat} {u0 u1 u2 u3 u4 u5 : Value} (h : Carry w0 w wi b F a n cap u0 u1 u2 u3 u4 u5) (hd : Drawing w0 wj b a n cap) (hg : wi.grownBy wj (some b)) : Carry w0 w wj b F a n cap u0 u1 u2 u3 u4 u5 := by
  have h1 := h.bl
  have h2 := h.lt
  exact ⟨hd, (hg.block _ (Array.getElem?_eq_some_iff.1 h.r).1 (by simp; omega)).trans h.r, (hg.block _ (Array.getElem?_eq_some_iff.1 h.f).1 (by simp; omega)).trans h.f, grown_trans h.g hg, h.bl, h.lt, h.nb⟩
theorem Carry.drew {w0 w wi : World} {b F : Nat} {a : Option Addr} {n cap : Nat} {u0 u1 u2 u3 u4 u5 : Value} (h : Carry w0 w wi b F a n cap u0 u1 u2 u3 u4 u5) : Carry w0 w wi.drew b F a n cap u0 u1 u2 u3 u4 u5 :=
  ⟨⟨h.d.bel.drew, h.d.new, h.d.src⟩, h.r, h.f, ⟨h.g.os, h.g.tape, h.g.output, h.g.size, h.g.block⟩, h.bl, h.lt, h.nb⟩
theorem Carry.at {w0 w wi : World} {b F : Nat} {a : Option Addr} {n cap : Nat} {u0 u1 u2 u3 u4 u5 : Value} (h : Carry w0 w wi b F a n cap u0 u1 u2 u3 u4 u5) :
    ((wi.cell? ⟨F, 0, none⟩ = some u0 ∧ wi.cell? ⟨F, 1, none⟩ = some u1 ∧ wi.cell? ⟨F, 2, none⟩ = some u2 ∧ wi.cell? ⟨F, 3, none⟩ = some u3 ∧ wi.cell? ⟨F, 4, none⟩ = some u4 ∧ wi.cell? ⟨F, 5, none⟩ = some u5)) ∧ wi.frozen? ⟨F, 2, none⟩ = false ∧ wi.frozen? ⟨F, 3, none⟩ = false ∧ wi.frozen? ⟨F, 4, none⟩ = false ∧ wi.frozen? ⟨F, 5, none⟩ = false := by
  obtain ⟨h1, h2⟩ := six_at h.f
  exact ⟨h1, h2 2, h2 3, h2 4, h2 5⟩

theorem Carry.set2 {w0 w wi : World} {b F : Nat} {a : Option Addr} {n cap : Nat} {u0 u1 u2 u3 u4 u5 : Value} (h : Carry w0 w wi b F a n cap u0 u1 u2 u3 u4 u5) (v : Value) : Carry w0 w (wi.setCell ⟨F, 2, none⟩ v) b F a n cap u0 u1 v u3 u4 u5 := by
  have h1 := h.bl
  have h2 := h.lt
  have h3 := h.nb
  refine ⟨h.d.grown (grown_set wi F 2 v) (fun k hk => by have := Option.some.inj hk; omega), ?_, ?_, grown_past h.g (grown_set wi F 2 v) (fun k hk => by have := Option.some.inj hk; omega), h.bl, h.lt, h.nb⟩
  · rw [heap_setCell_other _ _ _ _ (by simp; omega)]
    exact h.r
  · rw [Go.Joins.block_setCell h.f]
    rfl

theorem Carry.set3 {w0 w wi : World} {b F : Nat} {a : Option Addr} {n cap : Nat} {u0 u1 u2 u3 u4 u5 : Value} (h : Carry w0 w wi b F a n cap u0 u1 u2 u3 u4 u5) (v : Value) : Carry w0 w (wi.setCell ⟨F, 3, none⟩ v) b F a n cap u0 u1 u2 v u4 u5 := by
  have h1 := h.bl
  have h2 := h.lt
  have h3 := h.nb
  refine ⟨h.d.grown (grown_set wi F 3 v) (fun k hk => by have := Option.some.inj hk; omega), ?_, ?_, grown_past h.g (grown_set wi F 3 v) (fun k hk => by have := Option.some.inj hk; omega), h.bl, h.lt, h.nb⟩
  · rw [heap_setCell_other _ _ _ _ (by simp; omega)]
    exact h.r
  · rw [Go.Joins.block_setCell h.f]
    rfl

theorem Carry.set4 {w0 w wi : World} {b F : Nat} {a : Option Addr} {n cap : Nat} {u0 u1 u2 u3 u4 u5 : Value} (h : Carry w0 w wi b F a n cap u0 u1 u2 u3 u4 u5) (v : Value) : Carry w0 w (wi.setCell ⟨F, 4, none⟩ v) b F a n cap u0 u1 u2 u3 v u5 := by
  have h1 := h.bl
  have h2 := h.lt
  have h3 := h.nb
  refine ⟨h.d.grown (grown_set wi F 4 v) (fun k hk => by have := Option.some.inj hk; omega), ?_, ?_, grown_past h.g (grown_set wi F 4 v) (fun k hk => by have := Option.some.inj hk; omega), h.bl, h.lt, h.nb⟩
  · rw [heap_setCell_other _ _ _ _ (by simp; omega)]
    exact h.r
  · rw [Go.Joins.block_setCell h.f]
    rfl

theorem Carry.set5 {w0 w wi : World} {b F : Nat} {a : Option Addr} {n cap : Nat} {u0 u1 u2 u3 u4 u5 : Value} (h : Carry w0 w wi b F a n cap u0 u1 u2 u3 u4 u5) (v : Value) : Carry w0 w (wi.setCell ⟨F, 5, none⟩ v) b F a n cap u0 u1 u2 u3 u4 v := by
  have h1 := h.bl
  have h2 := h.lt
  have h3 := h.nb
  refine ⟨h.d.grown (grown_set wi F 5 v) (fun k hk => by have := Option.some.inj hk; omega), ?_, ?_, grown_past h.g (grown_set wi F 5 v) (fun k hk => by have := Option.some.inj hk; omega), h.bl, h.lt, h.nb⟩
  · rw [heap_setCell_other _ _ _ _ (by simp; omega)]
    exact h.r
  · rw [Go.Joins.block_setCell h.f]
    rfl


/-- The end: the frame is laid into the result's place. -/
theorem Carry.fin {w0 w wi : World} {b F : Nat} {a : Option Addr} {n cap : Nat} {u0 u1 u2 u3 u4 u5 : Value} (h : Carry w0 w wi b F a n cap u0 u1 u2 u3 u4 u5) :
    Drawing w0 ((((((wi.setCell ⟨w.heap.size, 0, none⟩ u0).setCell ⟨w.heap.size, 1, none⟩ u1).setCell ⟨w.heap.size, 2, none⟩ u2).setCell ⟨w.heap.size, 3, none⟩ u3).setCell ⟨w.heap.size, 4, none⟩ u4).setCell ⟨w.heap.size, 5, none⟩ u5) b a n cap ∧
    w.grownBy ((((((wi.setCell ⟨w.heap.size, 0, none⟩ u0).setCell ⟨w.heap.size, 1, none⟩ u1).setCell ⟨w.heap.size, 2, none⟩ u2).setCell ⟨w.heap.size, 3, none⟩ u3).setCell ⟨w.heap.size, 4, none⟩ u4).setCell ⟨w.heap.size, 5, none⟩ u5) (some b) := by
  have h1 := h.bl
  have h3 := h.nb
  have hg : wi.grownBy ((((((wi.setCell ⟨w.heap.size, 0, none⟩ u0).setCell ⟨w.heap.size, 1, none⟩ u1).setCell ⟨w.heap.size, 2, none⟩ u2).setCell ⟨w.heap.size, 3, none⟩ u3).setCell ⟨w.heap.size, 4, none⟩ u4).setCell ⟨w.heap.size, 5, none⟩ u5) (some w.heap.size) :=
    grown_trans (grown_trans (grown_trans (grown_trans (grown_trans (grown_set _ _ _ _) (grown_set _ _ _ _)) (grown_set _ _ _ _)) (grown_set _ _ _ _)) (grown_set _ _ _ _)) (grown_set _ _ _ _)
  exact ⟨h.d.grown hg (fun k hk => by have := Option.some.inj hk; omega), grown_past h.g hg (fun k hk => by have := Option.some.inj hk; omega)⟩

set_option maxHeartbeats 3000000 in
theorem drawFrame_any (w0 w : World) (b : Nat) (a : Option Addr) (zs : List Int) (cap : Nat) (hd : Drawing w0 w b a zs.length cap) (hz : Ints .u8 w0 a zs) (hv : ∀ x ∈ zs, 0 ≤ x ∧ x ≤ 255) (hl : zs.length ≤ 2000000) :
    Calls Tryd.prog 38 #[.pointer (some ⟨b, 0, none⟩)] w fun e w' => ∃ (k p s o wd : Int) (ys : List Int) (av : Option Addr) (cp : Nat), e = .returned (.agg #[.int .i64 k, .int .i64 p, .int .u32 s, .int .u64 o, .int .i64 wd, .slice av ys.length cp]) ∧
      Valid k p s o wd ys.length ∧ (0 ≤ s ∧ s ≤ 4294967295) ∧ (0 ≤ o ∧ o ≤ 18446744073709551615) ∧ (∀ x ∈ ys, 0 ≤ x ∧ x ≤ 255) ∧ w'.ownsRow 0 5 1 (.slice av ys.length cp) ys.length (ys.map (.int .u8)) ∧ Drawing w0 w' b a zs.length cap ∧ w.grownBy w' (some b) := by
  have hbl := hd.lt
  have hnew := hd.new
  have hs0 := hd.bel.size
  have hd0 := hd.grown (World.grownBy_alloc w (.cells #[.int .i64 0, .int .i64 0, .int .u32 0, .int .u64 0, .int .i64 0, .slice none 0 0] 30) none) (by simp)
  have hR0 : (w.alloc (.cells #[.int .i64 0, .int .i64 0, .int .u32 0, .int .u64 0, .int .i64 0, .slice none 0 0] 30)).heap[w.heap.size]? = some (.cells #[.int .i64 0, .int .i64 0, .int .u32 0, .int .u64 0, .int .i64 0, .slice none 0 0] 30) := alloc_block _ _ _ rfl
  have hg0 : w.grownBy (w.alloc (.cells #[.int .i64 0, .int .i64 0, .int .u32 0, .int .u64 0, .int .i64 0, .slice none 0 0] 30)) (some b) := World.grownBy_alloc _ _ _
  have hsA : w.heap.size < (w.alloc (.cells #[.int .i64 0, .int .i64 0, .int .u32 0, .int .u64 0, .int .i64 0, .slice none 0 0] 30)).heap.size := by simp
  go_enter Tryd.func38, Tryd.ntmps38
  go_wp2_with fail
  refine (next_any w0 _ b a zs cap 5 hd0 hz hv hl (by omega) (by omega)).mono ?_
  rintro e w1 ⟨r1, rfl, l1, u1, hd1, g1⟩
  go_wp2_with fail
  refine (next_any w0 _ b a zs cap 8 hd1 hz hv hl (by omega) (by omega)).mono ?_
  rintro e w2 ⟨r2, rfl, l2, u2, hd2, g2⟩
  go_wp2_with fail
  refine (word_any w0 _ b a zs cap hd2 hz hv hl).mono ?_
  rintro e w3 ⟨r3, rfl, l3, u3, hd3, g3⟩
  have g123 := grown_trans (grown_trans g1 g2) g3
  have hR3 := (g123.block _ hsA (by simp; omega)).trans hR0
  have hs3 := g123.size
  have C3 : Carry w0 w (w3.alloc (.cells #[.int .i64 (1 + r1), .int .i64 r2, .int .u32 (r3 % 4294967296), .int .u64 0, .int .i64 0, .slice none 0 0] 30)) b w3.heap.size a zs.length cap (.int .i64 (1 + r1)) (.int .i64 r2) (.int .u32 (r3 % 4294967296)) (.int .u64 0) (.int .i64 0) (.slice none 0 0) :=
    ⟨hd3.grown (World.grownBy_alloc _ _ none) (by simp), (Below.heap_alloc _ _ _ (by omega)).trans hR3, alloc_block _ _ _ rfl, grown_past (grown_trans hg0 g123) (World.grownBy_alloc _ _ none) (by simp), hbl, by omega, hs0⟩
  have hS : 0 ≤ r3 % 4294967296 ∧ r3 % 4294967296 ≤ 4294967295 := by omega
  have hneR : ¬ w.heap.size = w3.heap.size := by have := C3.lt; omega
  have hneF : ¬ w3.heap.size = w.heap.size := by have := C3.lt; omega
  clear g1 g2 g3 hd0 hd1 hd2 hd3 hR0 hg0 g123 hR3 hs3 hd
  go_wp2_with fail
  refine (next_any w0 _ b a zs cap 5000 C3.d hz hv hl (by omega) (by omega)).mono ?_
  rintro e w4 ⟨r4, rfl, l4, u4, hd4, g4⟩
  have C4 := C3.call hd4 g4
  clear C3 hd4 g4
  obtain ⟨⟨f0, f1, f2, f3, f4, f5⟩, q2, q3, q4, q5⟩ := C4.at
  have C5 := C4.set3 (.int .u64 r4)
  go_wp2_with fail
  clear f0 f1 f2 f3 f4 f5 q2 q3 q4 q5 C4
  refine (next_any w0 _ b a zs cap 4 C5.d hz hv hl (by omega) (by omega)).mono ?_
  rintro e w5 ⟨r5, rfl, l5, u5, hd5, g5⟩
  have C6 := C5.call hd5 g5
  clear C5 hd5 g5
  by_cases h5 : r5 = 0
  · subst h5
    go_wp2_with fail
    refine (word_any w0 _ b a zs cap C6.d hz hv hl).mono ?_
    rintro e w6 ⟨r6, rfl, l6, u6, hd6, g6⟩
    have C7 := C6.call hd6 g6
    clear C6 hd6 g6
    go_wp2_with fail
    refine (next_any w0 _ b a zs cap 20 C7.d hz hv hl (by omega) (by omega)).mono ?_
    rintro e w7 ⟨r7, rfl, l7, u7, hd7, g7⟩
    have C8 := C7.call hd7 g7
    clear C7 hd7 g7
    have D := C8.set3 (.int .u64 (IntKind.u64.wrap (r6 * 2 ^ r7.toNat)))
    rcases (show r1 = 0 ∨ r1 = 1 ∨ r1 = 2 ∨ r1 = 3 ∨ r1 = 4 by omega) with rfl | rfl | rfl | rfl | rfl
    · obtain ⟨⟨f0, f1, f2, f3, f4, f5⟩, q2, q3, q4, q5⟩ := C8.at
      go_wp2_with fail
      clear f0 f1 f2 f3 f4 f5 q2 q3 q4 q5
      refine (next_any w0 _ b a zs cap 32 D.d hz hv hl (by omega) (by omega)).mono ?_
      rintro e w8 ⟨r8, rfl, l8, u8, hd8, g8⟩
      have E1 := D.call hd8 g8
      clear hd8 g8
      obtain ⟨m, hm⟩ : ∃ m : Nat, Hid (1 + r8 = (m : Int)) := ⟨(1 + r8).toNat, by unfold Hid; omega⟩
      go_wp2_with fail
      rw [hm.out]
      refine (drawBytes_any w0 _ b a zs cap m E1.d hz hv hl (by have := hm.out; omega)).mono ?_
      rintro e w9 ⟨ys, av, cp, rfl, hyl, hyv, hoy, hd9, g9⟩
      have hms : 1 ≤ m ∧ m ≤ 32 := by have := hm.out; omega
      have E2 := E1.call hd9 g9
      have hsF := (Array.getElem?_eq_some_iff.1 E1.f).1
      clear hd9 g9 E1
      obtain ⟨⟨f0, f1, f2, f3, f4, f5⟩, q2, q3, q4, q5⟩ := E2.at
      have E3 := E2.set5 (.slice av m cp)
      have hoy3 : (w9.setCell ⟨w3.heap.size, 5, none⟩ (.slice av m cp)).ownsRow w8.heap.size 5 1 (.slice av m cp) m (ys.map (.int .u8)) := own_set hoy hsF
      go_wp2_with fail
      clear f0 f1 f2 f3 f4 f5 q2 q3 q4 q5 E2 hoy
      refine (next_any w0 _ b a zs cap 8 E3.d hz hv hl (by omega) (by omega)).mono ?_
      rintro e w10 ⟨r10, rfl, l10, u10, hd10, g10⟩
      have E4 := E3.call hd10 g10
      have hoy4 := kept_new hoy3 g10 (by have := E3.lt; omega)
      clear hd10 g10 E3 hoy3
      have HYL : Hid _ := hyl
      clear hyl
      by_cases h10 : r10 = 0
      · subst h10
        obtain ⟨⟨f0, f1, f2, f3, f4, f5⟩, q2, q3, q4, q5⟩ := E4.at
        have hwm : IntKind.u64.wrap (m : Int) = (m : Int) := by rw [IntKind.wrap_u64]; omega
        have hwm2 : IntKind.u64.wrap (18446744073709551615 - (m : Int)) = 18446744073709551615 - (m : Int) := by rw [IntKind.wrap_u64]; omega
        go_wp2
        go_region_with (go_at_call 39; refine (next_any w0 _ b a zs cap 2 E4.drew.d hz hv hl (by omega) (by omega)).mono ?_; rintro e w11 ⟨r11, rfl, l11, u11, hd11, g11⟩; have E5 := E4.drew.call hd11 g11; have hoy5 := kept_new (w := World.drew _) hoy4 g11 (by have := D.lt; omega); obtain ⟨⟨c0, c1, c2, c3, c4, c5⟩, d2, d3, d4, d5⟩ := E5.at; obtain ⟨⟨s0, s1, s2, s3, s4, s5⟩, sf⟩ := six_at E5.r; have sf0 := sf 0; have sf1 := sf 1; have sf2 := sf 2; have sf3 := sf 3; have sf4 := sf 4; have sf5 := sf 5; have hwr : IntKind.u64.wrap r11 = r11 := (by rw [IntKind.wrap_u64]; omega); have hwd : IntKind.u64.wrap (18446744073709551615 - (m : Int) - r11) = 18446744073709551615 - (m : Int) - r11 := (by rw [IntKind.wrap_u64]; omega))
        all_goals
          have E6 := E5.set3 (.int .u64 (18446744073709551615 - (m : Int) - r11))
          clear f0 f1 f2 f3 f4 f5 q2 q3 q4 q5
          go_wp2
          obtain rfl := HYL.out
          exact bodyPost_ret (v := .agg #[.int .i64 1, .int .i64 r2, .int .u32 (r3 % 4294967296), .int .u64 (18446744073709551615 - (ys.length : Int) - r11), .int .i64 0, .slice av ys.length cp]) (by simp [results, Tryd.results38, go_sem, s0, s1, s2, s3, s4, s5]) rfl ⟨1, r2, (r3 % 4294967296), (18446744073709551615 - (ys.length : Int) - r11), 0, ys, av, cp, rfl, by unfold Valid; omega, by omega, by omega, hyv, owned_base (own6r (own_set hoy5 (by omega)) (by have := D.lt; omega)) (Nat.zero_le _), E6.fin.1, E6.fin.2⟩
      · obtain ⟨⟨f0, f1, f2, f3, f4, f5⟩, q2, q3, q4, q5⟩ := E4.at
        obtain ⟨⟨s0, s1, s2, s3, s4, s5⟩, sf⟩ := six_at E4.r
        have sf0 := sf 0
        have sf1 := sf 1
        have sf2 := sf 2
        have sf3 := sf 3
        have sf4 := sf 4
        have sf5 := sf 5
        clear sf
        by_cases hO : 18446744073709551615 - (m : Int) < (IntKind.u64.wrap (r6 * 2 ^ r7.toNat))
        · have E5 := E4.set3 (.int .u64 7)
          go_wp2
          obtain rfl := HYL.out
          exact bodyPost_ret (v := .agg #[.int .i64 1, .int .i64 r2, .int .u32 (r3 % 4294967296), .int .u64 7, .int .i64 0, .slice av ys.length cp]) (by simp [results, Tryd.results38, go_sem, s0, s1, s2, s3, s4, s5]) rfl ⟨1, r2, (r3 % 4294967296), 7, 0, ys, av, cp, rfl, by unfold Valid; omega, by omega, by omega, hyv, owned_base (own6r (own_set hoy4 (by omega)) (by have := D.lt; omega)) (Nat.zero_le _), E5.fin.1, E5.fin.2⟩
        · go_wp2
          have hOb := wrap64_fits (r6 * 2 ^ r7.toNat)
          obtain rfl := HYL.out
          exact bodyPost_ret (v := .agg #[.int .i64 1, .int .i64 r2, .int .u32 (r3 % 4294967296), .int .u64 (IntKind.u64.wrap (r6 * 2 ^ r7.toNat)), .int .i64 0, .slice av ys.length cp]) (by simp [results, Tryd.results38, go_sem, s0, s1, s2, s3, s4, s5]) rfl ⟨1, r2, (r3 % 4294967296), (IntKind.u64.wrap (r6 * 2 ^ r7.toNat)), 0, ys, av, cp, rfl, by unfold Valid; omega, by omega, wrap64_fits _, hyv, owned_base (own6r (hoy4) (by have := D.lt; omega)) (Nat.zero_le _), E4.fin.1, E4.fin.2⟩
    · obtain ⟨⟨f0, f1, f2, f3, f4, f5⟩, q2, q3, q4, q5⟩ := C8.at
      go_wp2_with fail
      clear f0 f1 f2 f3 f4 f5 q2 q3 q4 q5
      refine (next_any w0 _ b a zs cap 65536 D.d hz hv hl (by omega) (by omega)).mono ?_
      rintro e w8 ⟨r8, rfl, l8, u8, hd8, g8⟩
      have E1 := D.call hd8 g8
      clear hd8 g8
      obtain ⟨⟨f0, f1, f2, f3, f4, f5⟩, q2, q3, q4, q5⟩ := E1.at
      obtain ⟨⟨s0, s1, s2, s3, s4, s5⟩, sf⟩ := six_at E1.r
      have sf0 := sf 0
      have sf1 := sf 1
      have sf2 := sf 2
      have sf3 := sf 3
      have sf4 := sf 4
      have sf5 := sf 5
      clear sf
      have E2 := E1.set4 (.int .i64 r8)
      go_wp2
      exact bodyPost_ret (v := .agg #[.int .i64 2, .int .i64 r2, .int .u32 (r3 % 4294967296), .int .u64 (IntKind.u64.wrap (r6 * 2 ^ r7.toNat)), .int .i64 r8, .slice none ([] : List Int).length 0]) (by simp [results, Tryd.results38, go_sem, s0, s1, s2, s3, s4, s5]) rfl ⟨2, r2, (r3 % 4294967296), (IntKind.u64.wrap (r6 * 2 ^ r7.toNat)), r8, [], none, 0, rfl, by unfold Valid; simp; omega, by omega, wrap64_fits _, by simp, World.ownsRow_nil _ _ _ _, E2.fin.1, E2.fin.2⟩
    · obtain ⟨⟨f0, f1, f2, f3, f4, f5⟩, q2, q3, q4, q5⟩ := C8.at
      obtain ⟨⟨s0, s1, s2, s3, s4, s5⟩, sf⟩ := six_at C8.r
      have sf0 := sf 0
      have sf1 := sf 1
      have sf2 := sf 2
      have sf3 := sf 3
      have sf4 := sf 4
      have sf5 := sf 5
      clear sf
      go_wp2
      exact bodyPost_ret (v := .agg #[.int .i64 3, .int .i64 r2, .int .u32 (r3 % 4294967296), .int .u64 (IntKind.u64.wrap (r6 * 2 ^ r7.toNat)), .int .i64 0, .slice none ([] : List Int).length 0]) (by simp [results, Tryd.results38, go_sem, s0, s1, s2, s3, s4, s5]) rfl ⟨3, r2, (r3 % 4294967296), (IntKind.u64.wrap (r6 * 2 ^ r7.toNat)), 0, [], none, 0, rfl, by unfold Valid; simp; omega, by omega, wrap64_fits _, by simp, World.ownsRow_nil _ _ _ _, D.fin.1, D.fin.2⟩
    · obtain ⟨⟨f0, f1, f2, f3, f4, f5⟩, q2, q3, q4, q5⟩ := C8.at
      obtain ⟨⟨s0, s1, s2, s3, s4, s5⟩, sf⟩ := six_at C8.r
      have sf0 := sf 0
      have sf1 := sf 1
      have sf2 := sf 2
      have sf3 := sf 3
      have sf4 := sf 4
      have sf5 := sf 5
      clear sf
      have E1 := (D.set2 (.int .u32 0)).set3 (.int .u64 0)
      go_wp2
      exact bodyPost_ret (v := .agg #[.int .i64 4, .int .i64 r2, .int .u32 0, .int .u64 0, .int .i64 0, .slice none ([] : List Int).length 0]) (by simp [results, Tryd.results38, go_sem, s0, s1, s2, s3, s4, s5]) rfl ⟨4, r2, 0, 0, 0, [], none, 0, rfl, by unfold Valid; simp; omega, by omega, by omega, by simp, World.ownsRow_nil _ _ _ _, E1.fin.1, E1.fin.2⟩
    · obtain ⟨⟨f0, f1, f2, f3, f4, f5⟩, q2, q3, q4, q5⟩ := C8.at
      obtain ⟨⟨s0, s1, s2, s3, s4, s5⟩, sf⟩ := six_at C8.r
      have sf0 := sf 0
      have sf1 := sf 1
      have sf2 := sf 2
      have sf3 := sf 3
      have sf4 := sf 4
      have sf5 := sf 5
      clear sf
      have E1 := D.set3 (.int .u64 0)
      go_wp2
      exact bodyPost_ret (v := .agg #[.int .i64 5, .int .i64 r2, .int .u32 (r3 % 4294967296), .int .u64 0, .int .i64 0, .slice none ([] : List Int).length 0]) (by simp [results, Tryd.results38, go_sem, s0, s1, s2, s3, s4, s5]) rfl ⟨5, r2, (r3 % 4294967296), 0, 0, [], none, 0, rfl, by unfold Valid; simp; omega, by omega, by omega, by simp, World.ownsRow_nil _ _ _ _, E1.fin.1, E1.fin.2⟩
  · have h5b : (r5 == 0) = false := by simpa using h5
    have D := C6
    rcases (show r1 = 0 ∨ r1 = 1 ∨ r1 = 2 ∨ r1 = 3 ∨ r1 = 4 by omega) with rfl | rfl | rfl | rfl | rfl
    · obtain ⟨⟨f0, f1, f2, f3, f4, f5⟩, q2, q3, q4, q5⟩ := C6.at
      go_wp2_with fail
      clear f0 f1 f2 f3 f4 f5 q2 q3 q4 q5
      refine (next_any w0 _ b a zs cap 32 D.d hz hv hl (by omega) (by omega)).mono ?_
      rintro e w8 ⟨r8, rfl, l8, u8, hd8, g8⟩
      have E1 := D.call hd8 g8
      clear hd8 g8
      obtain ⟨m, hm⟩ : ∃ m : Nat, Hid (1 + r8 = (m : Int)) := ⟨(1 + r8).toNat, by unfold Hid; omega⟩
      go_wp2_with fail
      rw [hm.out]
      refine (drawBytes_any w0 _ b a zs cap m E1.d hz hv hl (by have := hm.out; omega)).mono ?_
      rintro e w9 ⟨ys, av, cp, rfl, hyl, hyv, hoy, hd9, g9⟩
      have hms : 1 ≤ m ∧ m ≤ 32 := by have := hm.out; omega
      have E2 := E1.call hd9 g9
      have hsF := (Array.getElem?_eq_some_iff.1 E1.f).1
      clear hd9 g9 E1
      obtain ⟨⟨f0, f1, f2, f3, f4, f5⟩, q2, q3, q4, q5⟩ := E2.at
      have E3 := E2.set5 (.slice av m cp)
      have hoy3 : (w9.setCell ⟨w3.heap.size, 5, none⟩ (.slice av m cp)).ownsRow w8.heap.size 5 1 (.slice av m cp) m (ys.map (.int .u8)) := own_set hoy hsF
      go_wp2_with fail
      clear f0 f1 f2 f3 f4 f5 q2 q3 q4 q5 E2 hoy
      refine (next_any w0 _ b a zs cap 8 E3.d hz hv hl (by omega) (by omega)).mono ?_
      rintro e w10 ⟨r10, rfl, l10, u10, hd10, g10⟩
      have E4 := E3.call hd10 g10
      have hoy4 := kept_new hoy3 g10 (by have := E3.lt; omega)
      clear hd10 g10 E3 hoy3
      have HYL : Hid _ := hyl
      clear hyl
      by_cases h10 : r10 = 0
      · subst h10
        obtain ⟨⟨f0, f1, f2, f3, f4, f5⟩, q2, q3, q4, q5⟩ := E4.at
        have hwm : IntKind.u64.wrap (m : Int) = (m : Int) := by rw [IntKind.wrap_u64]; omega
        have hwm2 : IntKind.u64.wrap (18446744073709551615 - (m : Int)) = 18446744073709551615 - (m : Int) := by rw [IntKind.wrap_u64]; omega
        go_wp2
        go_region_with (go_at_call 39; refine (next_any w0 _ b a zs cap 2 E4.drew.d hz hv hl (by omega) (by omega)).mono ?_; rintro e w11 ⟨r11, rfl, l11, u11, hd11, g11⟩; have E5 := E4.drew.call hd11 g11; have hoy5 := kept_new (w := World.drew _) hoy4 g11 (by have := D.lt; omega); obtain ⟨⟨c0, c1, c2, c3, c4, c5⟩, d2, d3, d4, d5⟩ := E5.at; obtain ⟨⟨s0, s1, s2, s3, s4, s5⟩, sf⟩ := six_at E5.r; have sf0 := sf 0; have sf1 := sf 1; have sf2 := sf 2; have sf3 := sf 3; have sf4 := sf 4; have sf5 := sf 5; have hwr : IntKind.u64.wrap r11 = r11 := (by rw [IntKind.wrap_u64]; omega); have hwd : IntKind.u64.wrap (18446744073709551615 - (m : Int) - r11) = 18446744073709551615 - (m : Int) - r11 := (by rw [IntKind.wrap_u64]; omega))
        all_goals
          have E6 := E5.set3 (.int .u64 (18446744073709551615 - (m : Int) - r11))
          clear f0 f1 f2 f3 f4 f5 q2 q3 q4 q5
          go_wp2
          obtain rfl := HYL.out
          exact bodyPost_ret (v := .agg #[.int .i64 1, .int .i64 r2, .int .u32 (r3 % 4294967296), .int .u64 (18446744073709551615 - (ys.length : Int) - r11), .int .i64 0, .slice av ys.length cp]) (by simp [results, Tryd.results38, go_sem, s0, s1, s2, s3, s4, s5]) rfl ⟨1, r2, (r3 % 4294967296), (18446744073709551615 - (ys.length : Int) - r11), 0, ys, av, cp, rfl, by unfold Valid; omega, by omega, by omega, hyv, owned_base (own6r (own_set hoy5 (by omega)) (by have := D.lt; omega)) (Nat.zero_le _), E6.fin.1, E6.fin.2⟩
      · obtain ⟨⟨f0, f1, f2, f3, f4, f5⟩, q2, q3, q4, q5⟩ := E4.at
        obtain ⟨⟨s0, s1, s2, s3, s4, s5⟩, sf⟩ := six_at E4.r
        have sf0 := sf 0
        have sf1 := sf 1
        have sf2 := sf 2
        have sf3 := sf 3
        have sf4 := sf 4
        have sf5 := sf 5
        clear sf
        by_cases hO : 18446744073709551615 - (m : Int) < r4
        · exact absurd hO (by omega)
        · go_wp2
          obtain rfl := HYL.out
          exact bodyPost_ret (v := .agg #[.int .i64 1, .int .i64 r2, .int .u32 (r3 % 4294967296), .int .u64 r4, .int .i64 0, .slice av ys.length cp]) (by simp [results, Tryd.results38, go_sem, s0, s1, s2, s3, s4, s5]) rfl ⟨1, r2, (r3 % 4294967296), r4, 0, ys, av, cp, rfl, by unfold Valid; omega, by omega, by omega, hyv, owned_base (own6r (hoy4) (by have := D.lt; omega)) (Nat.zero_le _), E4.fin.1, E4.fin.2⟩
    · obtain ⟨⟨f0, f1, f2, f3, f4, f5⟩, q2, q3, q4, q5⟩ := C6.at
      go_wp2_with fail
      clear f0 f1 f2 f3 f4 f5 q2 q3 q4 q5
      refine (next_any w0 _ b a zs cap 65536 D.d hz hv hl (by omega) (by omega)).mono ?_
      rintro e w8 ⟨r8, rfl, l8, u8, hd8, g8⟩
      have E1 := D.call hd8 g8
      clear hd8 g8
      obtain ⟨⟨f0, f1, f2, f3, f4, f5⟩, q2, q3, q4, q5⟩ := E1.at
      obtain ⟨⟨s0, s1, s2, s3, s4, s5⟩, sf⟩ := six_at E1.r
      have sf0 := sf 0
      have sf1 := sf 1
      have sf2 := sf 2
      have sf3 := sf 3
      have sf4 := sf 4
      have sf5 := sf 5
      clear sf
      have E2 := E1.set4 (.int .i64 r8)
      go_wp2
      exact bodyPost_ret (v := .agg #[.int .i64 2, .int .i64 r2, .int .u32 (r3 % 4294967296), .int .u64 r4, .int .i64 r8, .slice none ([] : List Int).length 0]) (by simp [results, Tryd.results38, go_sem, s0, s1, s2, s3, s4, s5]) rfl ⟨2, r2, (r3 % 4294967296), r4, r8, [], none, 0, rfl, by unfold Valid; simp; omega, by omega, by omega, by simp, World.ownsRow_nil _ _ _ _, E2.fin.1, E2.fin.2⟩
    · obtain ⟨⟨f0, f1, f2, f3, f4, f5⟩, q2, q3, q4, q5⟩ := C6.at
      obtain ⟨⟨s0, s1, s2, s3, s4, s5⟩, sf⟩ := six_at C6.r
      have sf0 := sf 0
      have sf1 := sf 1
      have sf2 := sf 2
      have sf3 := sf 3
      have sf4 := sf 4
      have sf5 := sf 5
      clear sf
      go_wp2
      exact bodyPost_ret (v := .agg #[.int .i64 3, .int .i64 r2, .int .u32 (r3 % 4294967296), .int .u64 r4, .int .i64 0, .slice none ([] : List Int).length 0]) (by simp [results, Tryd.results38, go_sem, s0, s1, s2, s3, s4, s5]) rfl ⟨3, r2, (r3 % 4294967296), r4, 0, [], none, 0, rfl, by unfold Valid; simp; omega, by omega, by omega, by simp, World.ownsRow_nil _ _ _ _, D.fin.1, D.fin.2⟩
    · obtain ⟨⟨f0, f1, f2, f3, f4, f5⟩, q2, q3, q4, q5⟩ := C6.at
      obtain ⟨⟨s0, s1, s2, s3, s4, s5⟩, sf⟩ := six_at C6.r
      have sf0 := sf 0
      have sf1 := sf 1
      have sf2 := sf 2
      have sf3 := sf 3
      have sf4 := sf 4
      have sf5 := sf 5
      clear sf
      have E1 := (D.set2 (.int .u32 0)).set3 (.int .u64 0)
      go_wp2
      exact bodyPost_ret (v := .agg #[.int .i64 4, .int .i64 r2, .int .u32 0, .int .u64 0, .int .i64 0, .slice none ([] : List Int).length 0]) (by simp [results, Tryd.results38, go_sem, s0, s1, s2, s3, s4, s5]) rfl ⟨4, r2, 0, 0, 0, [], none, 0, rfl, by unfold Valid; simp; omega, by omega, by omega, by simp, World.ownsRow_nil _ _ _ _, E1.fin.1, E1.fin.2⟩
    · obtain ⟨⟨f0, f1, f2, f3, f4, f5⟩, q2, q3, q4, q5⟩ := C6.at
      obtain ⟨⟨s0, s1, s2, s3, s4, s5⟩, sf⟩ := six_at C6.r
      have sf0 := sf 0
      have sf1 := sf 1
      have sf2 := sf 2
      have sf3 := sf 3
      have sf4 := sf 4
      have sf5 := sf 5
      clear sf
      have E1 := D.set3 (.int .u64 0)
      go_wp2
      exact bodyPost_ret (v := .agg #[.int .i64 5, .int .i64 r2, .int .u32 (r3 % 4294967296), .int .u64 0, .int .i64 0, .slice none ([] : List Int).length 0]) (by simp [results, Tryd.results38, go_sem, s0, s1, s2, s3, s4, s5]) rfl ⟨5, r2, (r3 % 4294967296), 0, 0, [], none, 0, rfl, by unfold Valid; simp; omega, by omega, by omega, by simp, World.ownsRow_nil _ _ _ _, E1.fin.1, E1.fin.2⟩
end Go.Proofs.YthgggmkljnghmaaDoor
