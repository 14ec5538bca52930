import Derived.Test.YthgggmkljnghmaaDoorSplit3
import Derived.Test.YthgggmkljnghmaaDoorDraw5
import Derived.Deep.RegionHeld3
namespace Go.Proofs.YthgggmkljnghmaaDoor
open Go.ChangeShapes Go.WideShapes Go.ChangeAt Go.RowKit
set_option linter.unusedVariables false

theorem row_none {w : World} {base : Nat} {e : TypeId} {size : Nat} {av : Option Addr} {n cap : Nat} {xs : List Value} (h : w.ownsRow base e size (.slice av n cap) n xs) : (av = none → cap = 0) ∧ n ≤ cap := by
  rcases h.2 with ⟨h1, h2⟩ | ⟨g, c, cur, h1, _, _, h3, _⟩
  · simp only [Value.slice.injEq] at h1
    obtain ⟨rfl, rfl, rfl⟩ := h1
    exact ⟨fun _ => rfl, Nat.le_refl _⟩
  · simp only [Value.slice.injEq] at h1
    obtain ⟨rfl, _, rfl⟩ := h1
    exact ⟨fun h => (by cases h), h3⟩

theorem flatten_le (cs : List (List Int)) (h : ∀ c ∈ cs, c.length ≤ 1000) : cs.flatten.length ≤ 1000 * cs.length := by
  induction cs with
  | nil => simp
  | cons c cs ih =>
    have h1 := h c (by simp)
    have h2 := ih (fun d hd => h d (by simp [hd]))
    simp only [List.flatten_cons, List.length_append, List.length_cons]
    omega

/-- The cells of one frame of a row of frames. -/
theorem frame_at {w : World} {base : Nat} {av : Option Addr} {K cp : Nat} {cs : List (List Int)} {vs : List (List Value)} (hr : w.ownsRow base 30 6 (.slice av K cp) K vs.flatten) (hi : Items w cs vs) (hK : cs.length = K) (q : Nat) (hq : q < K) (c : List Int) (hc : cs[q]? = some c) :
    ∃ g pv pc, av = some ⟨g, 0, none⟩ ∧ w.cell? ⟨g, q * 6, none⟩ = some (.int .i64 (fld c 1 1)) ∧ w.cell? ⟨g, q * 6 + 1, none⟩ = some (.int .i64 (fld c 2 1)) ∧ w.cell? ⟨g, q * 6 + 2, none⟩ = some (.int .u32 (fld c 4 4)) ∧ w.cell? ⟨g, q * 6 + 3, none⟩ = some (.int .u64 (fld c 8 8)) ∧ w.cell? ⟨g, q * 6 + 4, none⟩ = some (.int .i64 (fld c 16 2)) ∧ w.cell? ⟨g, q * 6 + 5, none⟩ = some (.slice pv (szOf c) pc) ∧ Ints .u8 w pv ((c.drop 18).take (szOf c)) := by
  obtain ⟨g, rfl⟩ : ∃ g, av = some ⟨g, 0, none⟩ := by
    rcases hr.2 with ⟨h1, h2⟩ | ⟨g, c, cur, h1, _⟩
    · omega
    · simp only [Value.slice.injEq] at h1
      exact ⟨g, h1.1⟩
  have hl := hi.length
  have hql : q < cs.length := by omega
  have hit := hi.at q hql (by omega)
  have hce : cs[q] = c := by rw [List.getElem?_eq_getElem hql] at hc; exact Option.some.inj hc
  rw [hce] at hit
  obtain ⟨pv, pc, hv, ho⟩ := hit
  have hfl : vs.flatten.length = K * 6 := hr.1
  have key : ∀ t, t < 6 → w.cell? ⟨g, q * 6 + t, none⟩ = ([.int .i64 (fld c 1 1), .int .i64 (fld c 2 1), .int .u32 (fld c 4 4), .int .u64 (fld c 8 8), .int .i64 (fld c 16 2), .slice pv (szOf c) pc] : List Value)[t]? := by
    intro t ht
    rw [hr.cellAt (q * 6 + t) (by omega), flatten_at vs hi.six q t (by omega) ht, hv]
  exact ⟨g, pv, pc, rfl, key 0 (by omega), key 1 (by omega), key 2 (by omega), key 3 (by omega), key 4 (by omega), key 5 (by omega), Ints.row ho⟩

/-- The cells of the frame that bytes hold. -/
abbrev IV (ys : List Int) (av4 : Option Addr) (cp4 : Nat) : List Value := [.int .i64 (fld ys 1 1), .int .i64 (fld ys 2 1), .int .u32 (fld ys 4 4), .int .u64 (fld ys 8 8), .int .i64 (fld ys 16 2), .slice av4 (szOf ys) cp4]

/-- What the first loop has gathered: the bytes of good chunks, and their frames. -/
structure Gath (w wr : World) (cs : List (List Int)) (vs : List (List Value)) (avA : Option Addr) (N cpA : Nat) (avF : Option Addr) (K cpF : Nat) : Prop where
  hN : cs.flatten.length = N
  hK : cs.length = K
  ra : wr.ownsRow w.heap.size 5 1 (.slice avA N cpA) N (cs.flatten.map (.int .u8))
  rf : wr.ownsRow w.heap.size 30 6 (.slice avF K cpF) K vs.flatten
  it : Items wr cs vs
  cl : Clear vs (Value.slice avA N cpA).ownBlock
  gd : ∀ c ∈ cs, Good c ∧ c.length ≤ 1000 ∧ ∀ x ∈ c, 0 ≤ x ∧ x ≤ 255
  be : Below w.heap.size w wr
theorem Gath.moved {w wr w' : World} {cs : List (List Int)} {vs : List (List Value)} {avA avF : Option Addr} {N cpA K cpF : Nat} (h : Gath w wr cs vs avA N cpA avF K cpF) (hb : Below wr.heap.size wr w') : Gath w w' cs vs avA N cpA avF K cpF :=
  ⟨h.hN, h.hK, owned_kept h.ra hb, owned_kept h.rf hb, h.it.moved hb, h.cl, h.gd, h.be.trans (hb.mono h.be.size)⟩

theorem below_undrew {a w : World} (h : Below a.drew.heap.size a.drew w) : Below a.heap.size a w := ⟨h.os, h.tape, h.output, h.size, h.block⟩

set_option maxHeartbeats 4000000 in
set_option maxRecDepth 100000 in
theorem lawSplit (a0 : Option Addr) (zs0 : List Int) (n0 cap0 : Nat) (a1 : Option Addr) (zs1 : List Int) (n1 cap1 : Nat) (w : World) (h0 : zs0.length = n0) (hz0 : Ints .u8 w a0 zs0) (hv0 : ∀ x ∈ zs0, 0 ≤ x ∧ x ≤ 255) (h1 : zs1.length = n1) (hz1 : Ints .u8 w a1 zs1) (hv1 : ∀ x ∈ zs1, 0 ≤ x ∧ x ≤ 255) (hg : Laid w) (hl0 : n0 ≤ 1048576) (hl1 : n1 ≤ 1048576) :
    Calls Tryd.prog 5 #[.slice a0 n0 cap0, .slice a1 n1 cap1] w fun e w' => e = .returned (.bool true) ∧ Below w.heap.size w w' := by
  have hd1 : decide (1048576 < (n0 : Int)) = false := by simp; omega
  have hd2 : decide (1048576 < (n1 : Int)) = false := by simp; omega
  have hA0 : (w.alloc (.cells #[] 5)).ownsRow w.heap.size 5 1 (.slice (some ⟨w.heap.size, 0, none⟩) 0 0) 0 (([] : List Int).map (.int .u8)) := World.ownsRow_made w #[] 0 (Nat.le_refl _) (by unfold maxLen; omega) rfl
  have hF0 : ((w.alloc (.cells #[] 5)).alloc (.cells #[] 30)).ownsRow w.heap.size 30 6 (.slice (some ⟨w.heap.size + 1, 0, none⟩) 0 0) 0 [] := by
    have := World.ownsRow_made (base := w.heap.size) (e := 30) (size := 6) (w.alloc (.cells #[] 5)) #[] 0 (by simp) (by unfold maxLen; omega) rfl
    simpa using this
  have hG0 : Gath w ((w.alloc (.cells #[] 5)).alloc (.cells #[] 30)) [] [] (some ⟨w.heap.size, 0, none⟩) 0 0 (some ⟨w.heap.size + 1, 0, none⟩) 0 0 :=
    ⟨rfl, rfl, hA0.alloc _, hF0, trivial, fun v hv => by simp at hv, fun c hc => by simp at hc, ((Below.refl _ _).alloc (Nat.le_refl _) _).alloc (by simp) _⟩
  have H0 : Hid _ := h0
  have H1 : Hid _ := h1
  clear h0 h1 hA0 hF0
  go_enter Tryd.func5, Tryd.ntmps5
  go_wp2
  go_loopw [5, 6, 7] (fun va vf i wr => ∃ (j : Nat) (cs : List (List Int)) (vs : List (List Value)) (avA : Option Addr) (N cpA : Nat) (avF : Option Addr) (K cpF : Nat), j ≤ 10 ∧ K ≤ j ∧ i = .int .i64 j ∧ va = .slice avA N cpA ∧ vf = .slice avF K cpF ∧ Gath w wr cs vs avA N cpA avF K cpF) (fun _ _ i _ => 10 - (intOf i).toNat)
  case atStart => exact ⟨0, [], [], _, _, _, _, _, _, by omega, by omega, rfl, rfl, rfl, hG0⟩
  case round =>
    clear hG0
    obtain ⟨j, cs, vs, avA, N, cpA, avF, K, cpF, hj, hKj, rfl, rfl, rfl, G⟩ := hrel
    by_cases hlt : j < 10
    · have sR := G.be.size
      have hlc := lCopy_any a0 zs0 n0 cap0 wr (hz0.moved G.be) H0.out (by omega)
      go_wp2_with fail
      refine hlc.mono ?_
      rintro e w1 ⟨av1, cp1, rfl, ho1, hb1⟩
      have s1 := hb1.size
      clear hlc
      go_wp2_with (at_builtin; refine wpList_app1 _ (by rfl) _ _ 24 5 (by rfl) .u8 1 Tryd.underlying24 info_byte (by decide) wr.heap.size av1 n0 cp1 zs0 (j : Int) (by rfl) (ho1.alloc _) ⟨w1.heap.size, 0, none⟩ (by rfl) (by simp) (by omega) (by simp; omega) ?_; intro g2 cp2 w2 ho2 hg2)
      have hb2 : Below wr.heap.size wr w2 := below_grown (hb1.alloc s1 _) (ho1.alloc _) hg2 (Nat.le_refl _) (by simp; omega)
      refine (drawDecode_any w2 (some ⟨g2, 0, none⟩) (zs0 ++ [(j : Int)]) (n0 + 1) cp2 (by have := H0.out; simp; omega) (Ints.row ho2) (by intro x hx; simp at hx; rcases hx with hx | rfl; exact hv0 x hx; omega) (by omega)).mono ?_
      rintro e w3 ⟨ys, av3, cp3, rfl, hyl, hyv, hyi, hy1, hy2, hb3⟩
      have hb3' := hb2.trans (hb3.mono hb2.size)
      clear ho1 ho2 hg2 hb1
      go_wp2_with fail
      refine (specDecode av3 ys ys.length cp3 w3 hyi rfl hyv hy2 (by omega)).mono ?_
      rintro e w4 ⟨hb4, ⟨c, hc, rfl⟩ | ⟨hgood, av4, cp4, ho4, rfl⟩⟩
      · have hc0 : ¬ c = 0 := by rcases hc with ⟨_, rfl⟩ | ⟨_, _, rfl⟩ | ⟨_, _, _, rfl⟩ <;> omega
        have hcb : (c != 0) = true := by simpa using hc0
        have hG4 := G.moved ((hb3'.trans (hb4.mono hb3'.size)).alloc (by have := (hb3'.trans (hb4.mono hb3'.size)).size; omega) (.cells #[.int .i64 0, .int .i64 0, .int .u32 0, .int .u64 0, .int .i64 0, .slice none 0 0] 30))
        unfold zeroFrame
        go_wp2
        go_roundw
        case rel => exact ⟨j + 1, cs, vs, _, _, _, _, _, _, by omega, by omega, by go_num, rfl, rfl, hG4⟩
        case measure => simp [intOf]; omega
      · unfold frameAt
        obtain ⟨m, HM⟩ : ∃ m, Hid (ys.length = m) := ⟨_, rfl⟩
        have hm22 : 22 + szOf ys = m := by have := HM.out; have := hgood.1; omega
        have hbA := hb3'.trans (hb4.mono hb3'.size)
        have hpl : ((ys.drop 18).take (szOf ys)).length = szOf ys := by have := hgood.1; simp; omega
        have hpv : ∀ x ∈ (ys.drop 18).take (szOf ys), 0 ≤ x ∧ x ≤ 255 := fun x hx => hyv x (List.mem_of_mem_drop (List.mem_of_mem_take hx))
        have hV := hgood.2.2.2
        have hV2 := hV
        unfold Valid at hV2
        have b4 := fld_lt hyv 4 4 4294967296 rfl
        have b8 := fld_lt hyv 8 8 18446744073709551616 rfl
        have hag := again hyv hgood.1 hgood.2.1 hgood.2.2.1
        obtain ⟨V4, hV4⟩ : ∃ x, x = w4.alloc (.cells #[.int .i64 (fld ys 1 1), .int .i64 (fld ys 2 1), .int .u32 (fld ys 4 4), .int .u64 (fld ys 8 8), .int .i64 (fld ys 16 2), .slice av4 (szOf ys) cp4] 30) := ⟨_, rfl⟩
        have hbV : Below w4.heap.size w4 V4 := by rw [hV4]; exact (Below.refl _ _).alloc (Nat.le_refl _) _
        have sV : w4.heap.size < V4.heap.size := by rw [hV4]; simp
        have hbx : V4.heap[w4.heap.size]? = some (.cells #[.int .i64 (fld ys 1 1), .int .i64 (fld ys 2 1), .int .u32 (fld ys 4 4), .int .u64 (fld ys 8 8), .int .i64 (fld ys 16 2), .slice av4 (szOf ys) cp4] 30) := by rw [hV4]; exact alloc_block _ _ _ rfl
        have hbB := hbA.trans (hbV.mono hbA.size)
        have G4 := G.moved hbB
        have ho4' := owned_kept ho4 hbV
        have s3 := hb3'.size
        have s4 := hb4.size
        have henc := implEncode_good (fld ys 1 1) (fld ys 2 1) (fld ys 4 4) (fld ys 8 8) (fld ys 16 2) av4 ((ys.drop 18).take (szOf ys)) (szOf ys) cp4 V4 (by omega) (by omega) (by omega) (by omega) (by omega) (by omega) (by omega) (by omega) (by omega) (by omega) (by omega) hpl (Ints.row ho4') hpv (row_none ho4').1 hV
        rw [hag, hm22] at henc
        have hcl4 : ∀ k', (Value.slice avA N cpA).ownBlock = some k' → k' < wr.heap.size := fun k' e => (G.ra.lt k' e).2
        have HGD : Hid _ := hgood
        clear hag hV hV2 hpv hpl hgood G
        go_wp2_with fail
        rw [← hV4]
        clear hV4
        refine henc.mono ?_
        rintro e w5 ⟨av5, cp5, rfl, ho5, hb5⟩
        have hbx5 := (hb5.block _ sV).trans hbx
        obtain ⟨⟨f0, f1, f2, f3, f4, f5⟩, _⟩ := six_at hbx5
        have G5 := G4.moved hb5
        have ho45 := owned_kept ho4' hb5
        have s5 := hb5.size
        have s0 := G5.be.size
        have hblk : (w5.alloc (.cells #[.int .i64 (fld ys 1 1), .int .i64 (fld ys 2 1), .int .u32 (fld ys 4 4), .int .u64 (fld ys 8 8), .int .i64 (fld ys 16 2), .slice av4 (szOf ys) cp4] 30)).heap[w5.heap.size]? = some (.cells #[.int .i64 (fld ys 1 1), .int .i64 (fld ys 2 1), .int .u32 (fld ys 4 4), .int .u64 (fld ys 8 8), .int .i64 (fld ys 16 2), .slice av4 (szOf ys) cp4] 30) := alloc_block _ _ _ rfl
        have hbC : Below w5.heap.size w5 (w5.alloc (.cells #[.int .i64 (fld ys 1 1), .int .i64 (fld ys 2 1), .int .u32 (fld ys 4 4), .int .u64 (fld ys 8 8), .int .i64 (fld ys 16 2), .slice av4 (szOf ys) cp4] 30)) := (Below.refl _ _).alloc (Nat.le_refl _) _
        have G6 := G5.moved hbC
        have ho46 := owned_kept ho45 hbC
        have ho56 := owned_kept ho5 hbC
        clear henc G4 hb5 G5 hbx ho4' ho45
        go_wp2_with (at_builtin; refine wpList_app6 _ (by rfl) _ _ (by rfl) w.heap.size avF K cpF vs.flatten (by rfl) G6.rf w5.heap.size _ _ _ _ _ _ (by rfl) hblk (by simp [Value.oneCell']) (by omega) (by simp; omega) ?_; intro g7 cp7 w7 ho7 hg7)
        have ra7 := G6.ra.kept hg7 (apart_types G6.ra G6.rf (by decide))
        have it7 := G6.it.grown G6.rf (by decide) hg7
        have ho47 := ho46.kept hg7 (apart_types ho46 G6.rf (by decide))
        have ho57 := ho56.kept hg7 (apart_types ho56 G6.rf (by decide))
        have hitem : Item w7 ys (IV ys av4 cp4) := ⟨av4, cp4, rfl, owned_base ho47 (Nat.zero_le _)⟩
        have it8 := it7.snoc hitem
        have be7 := below_grown G6.be G6.rf hg7 (Nat.le_refl _) G6.be.size
        have cl8 : Clear (vs ++ [(IV ys av4 cp4)]) (Value.slice avA N cpA).ownBlock := by
          intro v hv u hu k' hk' e
          rcases List.mem_append.1 hv with hv | hv
          · exact G6.cl v hv u hu k' hk' e
          · simp at hv
            subst hv
            have hlt' := hcl4 k' e.symm
            simp at hu
            rcases hu with rfl | rfl | rfl | rfl | rfl | rfl <;> simp [Value.ownBlock] at hk'
            have := (ho46.lt k' (by simpa [Value.ownBlock] using hk')).1
            omega
        have bcl : ∀ k', (Value.slice av5 m cp5).ownBlock = some k' → some k' ≠ (Value.slice avA N cpA).ownBlock := fun k' hk' e => by
          have h1 := hcl4 k' e.symm
          have h2 := (ho56.lt k' hk').1
          omega
        have hN := G6.hN
        have hK := G6.hK
        have gd := G6.gd
        have ho58 := owned_base ho57 (Nat.zero_le _)
        have ho7' : w7.ownsRow w.heap.size 30 6 (.slice (some ⟨g7, 0, none⟩) (K + 1) cp7) (K + 1) (vs ++ [(IV ys av4 cp4)]).flatten := by rw [List.flatten_append]; simpa using ho7
        have HNK : Hid _ := hN
        have HKK : Hid _ := hK
        clear ho7 it7 ho46 ho56 ho57 ho47 hitem G6 hg7 hbC hblk f0 f1 f2 f3 f4 f5 hbx5 ho4 hN hK
        have hm0 : 0 < m := by omega
        have hNle : N ≤ 10000 := by have := flatten_le cs (fun c hc => (gd c hc).2.1); have := HNK.out; have := HKK.out; omega
        have hmle : m ≤ 1000 := by have := HM.out; omega
        go_wp2
        go_loopw [5, 12] (fun va kk wq => ∃ (k : Nat) (avB : Option Addr) (cpB : Nat), k ≤ m ∧ kk = .int .i64 k ∧ va = .slice avB (N + k) cpB ∧ wq.ownsRow w.heap.size 5 1 (.slice avB (N + k) cpB) (N + k) ((cs.flatten ++ ys.take k).map (.int .u8)) ∧ wq.ownsRow w.heap.size 30 6 (.slice (some ⟨g7, 0, none⟩) (K + 1) cp7) (K + 1) (vs ++ [(IV ys av4 cp4)]).flatten ∧ Items wq (cs ++ [ys]) (vs ++ [(IV ys av4 cp4)]) ∧ Clear (vs ++ [(IV ys av4 cp4)]) (Value.slice avB (N + k) cpB).ownBlock ∧ wq.ownsRow 0 5 1 (.slice av5 m cp5) m (ys.map (.int .u8)) ∧ (∀ k', (Value.slice av5 m cp5).ownBlock = some k' → some k' ≠ (Value.slice avB (N + k) cpB).ownBlock) ∧ Below w.heap.size w wq) (fun _ kk _ => m - (intOf kk).toNat)
        case atStart => exact ⟨0, avA, cpA, Nat.zero_le _, rfl, rfl, by simpa using ra7, ho7', it8, cl8, ho58, bcl, be7⟩
        case round =>
          clear ra7 ho7' it8 cl8 ho58 bcl be7
          obtain ⟨k, avB, cpB, hk, rfl, rfl, qa, qf, qi, qc, qb, qd, qe⟩ := hrel
          by_cases hlk : k < m
          · obtain ⟨gb, rfl⟩ : ∃ gb, av5 = some ⟨gb, 0, none⟩ := by
              rcases qb.2 with ⟨h1, h2⟩ | ⟨g, c, cur, h1, _⟩
              · omega
              · simp only [Value.slice.injEq] at h1
                exact ⟨g, h1.1⟩
            have hcl := cell8 qb k hlk
            obtain ⟨c, hc⟩ : ∃ c, ys.getD k 0 = c := ⟨_, rfl⟩
            have hst : Hid (ys.take (k + 1) = ys.take k ++ [c]) := by
              unfold Hid
              rw [List.take_succ_eq_append_getElem (by have := HM.out; omega), ← hc]
              simp [show k < ys.length by have := HM.out; omega]
            rw [hc] at hcl
            have hc1 := hcl.1
            have sq := qe.size
            clear hc hcl
            go_wp2_with (at_builtin; refine wpList_app1f _ (by rfl) _ _ 24 5 (by rfl) .u8 1 Tryd.underlying24 info_byte (by decide) w.heap.size avB (N + k) cpB (cs.flatten ++ ys.take k) c (by rfl) (qa.alloc _) ⟨wr.heap.size, 0, none⟩ (by rfl) (by simp) (by omega) (by simp; omega) ?_; intro g9 cp9 w9 ho9 hg9 hfr)
            have hbD : Below wr.heap.size wr (wr.alloc (.cells #[.int .u8 c] 5)) := (Below.refl _ _).alloc (Nat.le_refl _) _
            have ia := qi.moved hbD
            have i9 := ia.grownC qc hg9
            have f9 := (owned_kept qf hbD).kept hg9 (apart_types (owned_kept qf hbD) (owned_kept qa hbD) (by decide))
            have b9 := (owned_kept qb hbD).kept hg9 (by
              cases hob : (Value.slice (some ⟨gb, 0, none⟩) m cp5).ownBlock with
              | none => exact .inl rfl
              | some k' => exact .inr (fun e => qd k' hob e))
            have c9 : Clear (vs ++ [(IV ys av4 cp4)]) (some g9) := qc.fresh ia hfr
            have d9 : ∀ k', (Value.slice (some ⟨gb, 0, none⟩) m cp5).ownBlock = some k' → some k' ≠ some g9 := by
              intro k' hk' e
              have hkg := Option.some.inj e
              subst hkg
              rcases hfr with h1 | h1
              · exact qd k' hk' h1.symm
              · have := (qb.lt k' hk').2
                simp at h1
                omega
            have e9 := below_grown (qe.trans (hbD.mono sq)) (owned_kept qa hbD) hg9 (Nat.le_refl _) (by simp; omega)
            have hst2 : cs.flatten ++ ys.take (k + 1) = (cs.flatten ++ ys.take k) ++ [c] := by rw [hst.out, List.append_assoc]
            go_roundw
            case rel => exact ⟨k + 1, _, cp9, by omega, by go_num, rfl, by rw [hst2]; exact ho9, f9, i9, c9, b9, d9, e9⟩
            case measure => simp [intOf]; omega
          · go_wp2
            go_roundw
            case rel =>
              obtain rfl : k = m := by omega
              refine ⟨j + 1, cs ++ [ys], vs ++ [(IV ys av4 cp4)], avB, N + k, cpB, _, K + 1, cp7, by omega, by omega, by go_num, rfl, rfl, ⟨?_, ?_, ?_, qf, qi, qc, ?_, qe⟩⟩
              · rw [List.flatten_append, List.length_append, HNK.out, List.flatten_cons, List.flatten_nil, List.append_nil]; have := HM.out; omega
              · have := HKK.out; simp; omega
              · have : (cs ++ [ys]).flatten = cs.flatten ++ ys.take k := by rw [List.flatten_append, List.take_of_length_le (by have := HM.out; omega)]; simp
                rw [this]
                exact qa
              · intro c hc
                rcases List.mem_append.1 hc with hc | hc
                · exact gd c hc
                · simp at hc
                  subst hc
                  exact ⟨HGD.out, hyl, hyv⟩
            case measure => simp [intOf]; omega
    · have hNle : N ≤ 10000 := by have := flatten_le cs (fun c hc => (G.gd c hc).2.1); have := G.hN; have := G.hK; omega
      have sR := G.be.size
      have hz1r := hz1.moved G.be
      have hgr := hg.moved G.be
      obtain ⟨WT, hWT⟩ : ∃ x, x = wr.alloc (.cells #[.int .u8 1, .int .u8 2, .int .u8 3] 5) := ⟨_, rfl⟩
      have hT0 : WT.ownsRow wr.heap.size 5 1 (.slice (some ⟨wr.heap.size, 0, none⟩) 3 3) 3 (([1, 2, 3] : List Int).map (.int .u8)) := by
        rw [hWT]
        exact World.ownsRow_lit wr #[.int .u8 1, .int .u8 2, .int .u8 3] 3 (Nat.le_refl _) (by unfold maxLen; omega) rfl
      have hbT : Below wr.heap.size wr WT := by rw [hWT]; exact (Below.refl _ _).alloc (Nat.le_refl _) _
      go_wp2
      rw [← hWT]
      clear hWT
      have hfitT : ∀ x ∈ ([1, 2, 3] : List Int), 0 ≤ x ∧ x ≤ 255 := by simp
      obtain ⟨WR, hWR⟩ : ∃ x, x = wr := ⟨_, rfl⟩
      subst hWR
      go_loopw [14, 15] (fun vt ii wq => ∃ (i : Nat) (ts : List Int) (avT : Option Addr) (cpT : Nat), i ≤ 18 ∧ i ≤ n1 ∧ ii = .int .i64 i ∧ vt = .slice avT (3 + i) cpT ∧ ts.length = 3 + i ∧ (∀ x ∈ ts, 0 ≤ x ∧ x ≤ 255) ∧ wq.ownsRow WR.heap.size 5 1 (.slice avT (3 + i) cpT) (3 + i) (ts.map (.int .u8)) ∧ Below WR.heap.size WR wq) (fun _ ii _ => 18 - (intOf ii).toNat)
      case atStart => exact ⟨0, [1, 2, 3], _, _, by omega, by omega, rfl, rfl, rfl, hfitT, hT0, hbT⟩
      case round =>
        clear hT0 hbT
        obtain ⟨i, ts, avT, cpT, hi18, hin, rfl, rfl, htl, htv, hto, hbq⟩ := hrel
        have HTL : Hid _ := htl
        clear htl
        have sq := hbq.size
        by_cases hc : i < n1 ∧ i < 18
        · have he1 : decide ((i : Int) < (n1 : Int)) = true := by simp; omega
          have he2 : decide ((i : Int) < 18) = true := by simp; omega
          rcases hz1r with h | ⟨bm, off, rfl, hcm⟩
          · have := H1.out; rw [h] at this; simp at this; omega
          obtain ⟨c, hnc, c0, c1, hcell⟩ := byteAt hv1 hcm (show i < zs1.length by have := H1.out; omega)
          have hcell' := (hbq.cell (World.block_lt_of_cell? WR _ hcell)).trans hcell
          have hin2 := hc.1
          have hi2 := hc.2
          clear hcm hcell hc
          go_wp2_with (at_builtin; refine wpList_app1 _ (by rfl) _ _ 24 5 (by rfl) .u8 1 Tryd.underlying24 info_byte (by decide) WR.heap.size avT (3 + i) cpT ts c (by rfl) (hto.alloc _) ⟨wr.heap.size, 0, none⟩ (by rfl) (by simp) (by omega) (by simp; omega) ?_; intro g9 cp9 w9 ho9 hg9)
          have hb9 := below_grown (hbq.alloc sq _) (hto.alloc _) hg9 (Nat.le_refl _) (by simp; omega)
          go_roundw
          case rel => exact ⟨i + 1, ts ++ [c], _, cp9, by omega, by omega, by go_num, rfl, by have := HTL.out; simp; omega, by intro x hx; simp at hx; rcases hx with hx | rfl; exact htv x hx; exact ⟨c0, c1⟩, ho9, hb9⟩
          case measure => simp [intOf]; omega
        · have G1 := G.moved hbq
          have hgq := hgr.moved hbq
          have hcp1 := lCopy_any avA cs.flatten N cpA wr (Ints.row G1.ra) G1.hN (by omega)
          have hgood : ∀ c ∈ cs, Good c := fun c hc => (G1.gd c hc).1
          have hflv : ∀ x ∈ cs.flatten, 0 ≤ x ∧ x ≤ 255 := by
            intro x hx
            obtain ⟨c, hc, hx⟩ := List.mem_flatten.1 hx
            exact (G1.gd c hc).2.2 x hx
          have HNN : Hid _ := G1.hN
          have HKK : Hid _ := G1.hK
          have hKle : K ≤ 10 := by omega
          have rf1 := G1.rf
          have it1 := G1.it
          have hbw1 := G1.be
          have ra1 := G1.ra
          clear G G1 hz1r hgr
          have hcase : (i < n1 ∧ 18 ≤ i ∧ decide ((i : Int) < (n1 : Int)) = true ∧ decide ((i : Int) < 18) = false) ∨ (n1 ≤ i ∧ decide ((i : Int) < (n1 : Int)) = false) := by
            by_cases hq : i < n1
            · exact .inl ⟨hq, by omega, by simp; omega, by simp; omega⟩
            · exact .inr ⟨by omega, by simp; omega⟩
          clear hc
          rcases hcase with ⟨hq1, hq2, he1, he2⟩ | ⟨hq1, he1⟩
          all_goals go_wp2_with fail
          all_goals
            refine hcp1.mono ?_
            rintro e w2 ⟨av2, cp2, rfl, ho2, hb2⟩
            have hsp := split_any av2 cs [] N cp2 w2 (by simpa using Ints.row ho2) (by simpa using HNN.out) (by simpa using hflv) hgood (by have := HKK.out; omega) (by simp) (row_none ho2).2 (by omega) (hgq.moved hb2)
            rw [HKK.out, HNN.out, if_pos rfl] at hsp
            go_wp2_with fail
            refine hsp.mono ?_
            rintro e w3 ⟨av3, cp3, vs3, rfl, rf3, it3, hb3⟩
            have hb23 := hb2.trans (hb3.mono hb2.size)
            have hto3 := owned_kept hto hb23
            have rf13 := owned_kept rf1 hb23
            have it13 := it1.moved hb23
            have ra13 := owned_kept ra1 hb23
            have s2 := hb2.size
            have s3 := hb3.size
            clear hsp hcp1 ho2
            go_wp2_with fail
            refine (lCopy_any avA cs.flatten N cpA w3 (Ints.row ra13) HNN.out (by omega)).mono ?_
            rintro e w4 ⟨av4, cp4, rfl, ho4, hb4⟩
            have hto4 := owned_kept hto3 hb4
            have s4 := hb4.size
            go_wp2_with (at_builtin; refine wpList_appI _ (by rfl) _ _ (by rfl) w3.heap.size av4 N cp4 cs.flatten HNN.out (by rfl) ho4 avT ts (3 + i) cpT HTL.out (by rfl) (row_none hto4).1 (Ints.row hto4) (by omega) s4 ?_; intro av5 cp5 w5 ho5 hg5)
            have hb5 := below_grown hb4 ho4 hg5 (Nat.le_refl _) s4
            have hsp := split_any av5 cs ts (N + (3 + i)) cp5 w5 (Ints.row ho5) (by rw [List.length_append, HNN.out, HTL.out]) (by
              intro x hx
              rcases List.mem_append.1 hx with hx | hx
              · exact hflv x hx
              · exact htv x hx) hgood (by have := HKK.out; omega) (by have := HTL.out; omega) (row_none ho5).2 (by omega) (((hgq.moved hb23).moved hb5))
            rw [HKK.out, HNN.out, if_neg (by intro h0; have := HTL.out; rw [h0] at this; simp at this; omega)] at hsp
            go_wp2_with fail
            refine hsp.mono ?_
            rintro e w6 ⟨av6, cp6, vs6, rfl, rf6, it6, hb6⟩
            have hb56 := hb5.trans (hb6.mono hb5.size)
            have rf36 := owned_kept rf3 hb56
            have it36 := it3.moved hb56
            have rf16 := owned_kept rf13 hb56
            have it16 := it13.moved hb56
            have hbAll : Below w.heap.size w w6 := hbw1.trans ((hb23.trans (hb56.mono hb23.size)).mono hbw1.size)
            clear hsp ho5 hg5 ho4 hto4 hto3 hto rf3 it3 rf13 it13 ra13 ra1 rf1 it1 hb2 hb3 hb23 hb4 hb5 hb6 hb56 hbw1
            go_wp2
            go_loopw [22] (fun ii wq => ∃ q : Nat, q ≤ K ∧ ii = .int .i64 q ∧ Below w6.heap.size w6 wq) (fun ii _ => K - (intOf ii).toNat)
            case atStart => exact ⟨0, Nat.zero_le _, rfl, Below.refl _ _⟩
            case round =>
              obtain ⟨q, hq, rfl, hbq2⟩ := hrel
              by_cases hqk : q < K
              · obtain ⟨c, hcq⟩ : ∃ c, cs[q]? = some c := ⟨cs[q]'(by have := HKK.out; omega), List.getElem?_eq_getElem _⟩
                have hbX := hbq2
                obtain ⟨ga, pa, ca, rfl, x0, x1, x2, x3, x4, x5, xi⟩ := frame_at (owned_kept rf36 hbX) (it36.moved hbX) HKK.out q hqk c hcq
                obtain ⟨gf, pf, cf, rfl, y0, y1, y2, y3, y4, y5, yi⟩ := frame_at (owned_kept rf16 hbX) (it16.moved hbX) HKK.out q hqk c hcq
                obtain ⟨gg, pg, cg, rfl, z0, z1, z2, z3, z4, z5, zi⟩ := frame_at (owned_kept rf6 hbX) (it6.moved hbX) HKK.out q hqk c hcq
                have hpl : Hid (((c.drop 18).take (szOf c)).length = szOf c) := by
                  unfold Hid
                  have hg1 := (hgood c (List.mem_of_getElem? hcq)).1
                  simp
                  omega
                have L1 := lFrame_same (fld c 1 1) (fld c 2 1) (fld c 4 4) (fld c 8 8) (fld c 16 2) pa pf ((c.drop 18).take (szOf c)) (szOf c) ca cf wr.drew (xi.moved ((Below.refl _ _).drew)) (yi.moved ((Below.refl _ _).drew)) hpl.out
                have L2 := fun (W : World) (hbW : Below wr.drew.heap.size wr.drew W) => lFrame_same (fld c 1 1) (fld c 2 1) (fld c 4 4) (fld c 8 8) (fld c 16 2) pg pf ((c.drop 18).take (szOf c)) (szOf c) cg cf W ((zi.moved ((Below.refl _ _).drew)).moved hbW) ((yi.moved ((Below.refl _ _).drew)).moved hbW) hpl.out
                have hqi : (q : Int) < (K : Int) := by omega
                have hq0 : (0 : Int) ≤ (q : Int) := by omega
                have sw := hbX.size
                clear rf36 it36 rf16 it16 rf6 it6 hz0 hv0 hz1 hv1 hg hl0 hl1 hd1 hd2 H0 H1 hgood hflv htv HTL hgq HNN HKK hbq hfitT hNle xi yi zi hpl hcq
                generalize fld c 1 1 = v1 at *
                generalize fld c 2 1 = v2 at *
                generalize fld c 4 4 = v3 at *
                generalize fld c 8 8 = v4 at *
                generalize fld c 16 2 = v5 at *
                generalize (c.drop 18).take (szOf c) = ys9 at *
                generalize szOf c = n9 at *
                have S18 : ∀ W : World, Below wr.heap.size wr W → (fun w' => w'.cell? ⟨ga, q * 6, none⟩ = some (.int .i64 v1) ∧ w'.cell? ⟨ga, q * 6 + 1, none⟩ = some (.int .i64 v2) ∧ w'.cell? ⟨ga, q * 6 + 2, none⟩ = some (.int .u32 v3) ∧ w'.cell? ⟨ga, q * 6 + 3, none⟩ = some (.int .u64 v4) ∧ w'.cell? ⟨ga, q * 6 + 4, none⟩ = some (.int .i64 v5) ∧ w'.cell? ⟨ga, q * 6 + 5, none⟩ = some (.slice pa n9 ca) ∧ w'.cell? ⟨gf, q * 6, none⟩ = some (.int .i64 v1) ∧ w'.cell? ⟨gf, q * 6 + 1, none⟩ = some (.int .i64 v2) ∧ w'.cell? ⟨gf, q * 6 + 2, none⟩ = some (.int .u32 v3) ∧ w'.cell? ⟨gf, q * 6 + 3, none⟩ = some (.int .u64 v4) ∧ w'.cell? ⟨gf, q * 6 + 4, none⟩ = some (.int .i64 v5) ∧ w'.cell? ⟨gf, q * 6 + 5, none⟩ = some (.slice pf n9 cf) ∧ w'.cell? ⟨gg, q * 6, none⟩ = some (.int .i64 v1) ∧ w'.cell? ⟨gg, q * 6 + 1, none⟩ = some (.int .i64 v2) ∧ w'.cell? ⟨gg, q * 6 + 2, none⟩ = some (.int .u32 v3) ∧ w'.cell? ⟨gg, q * 6 + 3, none⟩ = some (.int .u64 v4) ∧ w'.cell? ⟨gg, q * 6 + 4, none⟩ = some (.int .i64 v5) ∧ w'.cell? ⟨gg, q * 6 + 5, none⟩ = some (.slice pg n9 cg)) W := fun W hW => ⟨(hW.cell (World.block_lt_of_cell? wr _ x0)).trans x0, (hW.cell (World.block_lt_of_cell? wr _ x1)).trans x1, (hW.cell (World.block_lt_of_cell? wr _ x2)).trans x2, (hW.cell (World.block_lt_of_cell? wr _ x3)).trans x3, (hW.cell (World.block_lt_of_cell? wr _ x4)).trans x4, (hW.cell (World.block_lt_of_cell? wr _ x5)).trans x5, (hW.cell (World.block_lt_of_cell? wr _ y0)).trans y0, (hW.cell (World.block_lt_of_cell? wr _ y1)).trans y1, (hW.cell (World.block_lt_of_cell? wr _ y2)).trans y2, (hW.cell (World.block_lt_of_cell? wr _ y3)).trans y3, (hW.cell (World.block_lt_of_cell? wr _ y4)).trans y4, (hW.cell (World.block_lt_of_cell? wr _ y5)).trans y5, (hW.cell (World.block_lt_of_cell? wr _ z0)).trans z0, (hW.cell (World.block_lt_of_cell? wr _ z1)).trans z1, (hW.cell (World.block_lt_of_cell? wr _ z2)).trans z2, (hW.cell (World.block_lt_of_cell? wr _ z3)).trans z3, (hW.cell (World.block_lt_of_cell? wr _ z4)).trans z4, (hW.cell (World.block_lt_of_cell? wr _ z5)).trans z5⟩
                have HS18 : Hid _ := S18
                clear S18
                go_wp2
                go_region_held3 (fun w' => w'.cell? ⟨ga, q * 6, none⟩ = some (.int .i64 v1) ∧ w'.cell? ⟨ga, q * 6 + 1, none⟩ = some (.int .i64 v2) ∧ w'.cell? ⟨ga, q * 6 + 2, none⟩ = some (.int .u32 v3) ∧ w'.cell? ⟨ga, q * 6 + 3, none⟩ = some (.int .u64 v4) ∧ w'.cell? ⟨ga, q * 6 + 4, none⟩ = some (.int .i64 v5) ∧ w'.cell? ⟨ga, q * 6 + 5, none⟩ = some (.slice pa n9 ca) ∧ w'.cell? ⟨gf, q * 6, none⟩ = some (.int .i64 v1) ∧ w'.cell? ⟨gf, q * 6 + 1, none⟩ = some (.int .i64 v2) ∧ w'.cell? ⟨gf, q * 6 + 2, none⟩ = some (.int .u32 v3) ∧ w'.cell? ⟨gf, q * 6 + 3, none⟩ = some (.int .u64 v4) ∧ w'.cell? ⟨gf, q * 6 + 4, none⟩ = some (.int .i64 v5) ∧ w'.cell? ⟨gf, q * 6 + 5, none⟩ = some (.slice pf n9 cf) ∧ w'.cell? ⟨gg, q * 6, none⟩ = some (.int .i64 v1) ∧ w'.cell? ⟨gg, q * 6 + 1, none⟩ = some (.int .i64 v2) ∧ w'.cell? ⟨gg, q * 6 + 2, none⟩ = some (.int .u32 v3) ∧ w'.cell? ⟨gg, q * 6 + 3, none⟩ = some (.int .u64 v4) ∧ w'.cell? ⟨gg, q * 6 + 4, none⟩ = some (.int .i64 v5) ∧ w'.cell? ⟨gg, q * 6 + 5, none⟩ = some (.slice pg n9 cg))
                  (first | go_keep | exact ⟨by assumption, by assumption, by assumption, by assumption, by assumption, by assumption, by assumption, by assumption, by assumption, by assumption, by assumption, by assumption, by assumption, by assumption, by assumption, by assumption, by assumption, by assumption⟩)
                  (first
                    | (go_at_call 23; with_reducible (refine Calls.mono L1 ?_); rintro e w8 ⟨rfl, hb8⟩; obtain ⟨x0a, x1a, x2a, x3a, x4a, x5a, y0a, y1a, y2a, y3a, y4a, y5a, z0a, z1a, z2a, z3a, z4a, z5a⟩ := HS18.out w8 (below_undrew hb8))
                    | (go_at_call 23; with_reducible (refine Calls.mono (L2 _ hb8) ?_); rintro e w9 ⟨rfl, hb9⟩; obtain ⟨x0b, x1b, x2b, x3b, x4b, x5b, y0b, y1b, y2b, y3b, y4b, y5b, z0b, z1b, z2b, z3b, z4b, z5b⟩ := HS18.out w9 (below_undrew (hb8.trans (hb9.mono hb8.size)))))
                all_goals
                  have hb10 := hbX.trans ((show Below wr.heap.size wr w9 from ⟨(hb8.trans (hb9.mono hb8.size)).os, (hb8.trans (hb9.mono hb8.size)).tape, (hb8.trans (hb9.mono hb8.size)).output, (hb8.trans (hb9.mono hb8.size)).size, (hb8.trans (hb9.mono hb8.size)).block⟩).mono sw)
                  clear L1 L2 hb8 hb9 hbX hbq2 x0 x1 x2 x3 x4 x5 y0 y1 y2 y3 y4 y5 z0 z1 z2 z3 z4 z5
                  go_wp2
                  go_roundw
                  case rel => exact ⟨q + 1, by omega, by go_num, hb10⟩
                  case measure => simp [intOf]; omega
              · go_wp2
                go_ret
                exact ⟨rfl, hbAll.trans (hbq2.mono hbAll.size)⟩
end Go.Proofs.YthgggmkljnghmaaDoor
