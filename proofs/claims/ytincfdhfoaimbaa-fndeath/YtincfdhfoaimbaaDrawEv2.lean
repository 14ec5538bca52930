import Derived.Test.YtincfdhfoaimbaaDrawEv
import Derived.Test.YtincfdhfoaimbaaLawRow3
namespace Go.Proofs.Ytincfdhfoaimbaa
open Go.ChangeShapes Go.WideShapes Go.ChangeAt Go.RowKit
set_option linter.unusedVariables false

theorem wrap32_fits (x : Int) : 0 ≤ IntKind.u32.wrap x ∧ IntKind.u32.wrap x ≤ 4294967295 := by
  rw [IntKind.wrap_u32]
  omega
theorem Drawing.below {w0 w w' : World} {b : Nat} {a : Option Addr} {n cap : Nat} (h : Drawing w0 w b a n cap) (hb : Below w.heap.size w w') : Drawing w0 w' b a n cap := by
  obtain ⟨pos, st, hh, rest⟩ := h.src
  exact ⟨h.bel.trans (hb.mono h.bel.size), h.new, pos, st, (hb.block b h.lt).trans hh, rest⟩

set_option maxHeartbeats 2000000 in
set_option maxRecDepth 100000 in
theorem drawEvents_any (w0 w : World) (b : Nat) (a : Option Addr) (zs : List Int) (cap : Nat) (hd : Drawing w0 w b a zs.length cap) (hz : Ints .u8 w0 a zs) (hv : ∀ x ∈ zs, 0 ≤ x ∧ x ≤ 255) (hl : zs.length ≤ 1048576) (c : Cf) (hc : c.Ok) (hi : 0 ≤ c.isn ∧ c.isn ≤ 4294967295) (N : Nat) (hN : N ≤ 800000) :
    Calls Try.prog 39 #[.pointer (some ⟨b, 0, none⟩), cfV c, .int .i64 N] w fun e w' => ∃ av cp es, e = .returned (.slice av N cp) ∧ es.length = N ∧ w'.ownsRow w.heap.size 43 3 (.slice av N cp) N (flat3 .i64 .i64 .u32 es) ∧ (∀ e ∈ es, 0 ≤ e.2.2 ∧ e.2.2 ≤ 4294967295) ∧ Drawing w0 w' b a zs.length cap ∧ Gr w w' b := by
  have hbw := hd.lt
  have hs0 := hd.bel.size
  obtain ⟨W1, hW1⟩ : ∃ W, W = (w.alloc (.cells (cfC c) 35)).alloc (.cells #[] 43) := ⟨_, rfl⟩
  have hdW : Drawing w0 W1 b a zs.length cap := by rw [hW1]; exact (hd.alloc _).alloc _
  have hGW : Gr w W1 b := by rw [hW1]; exact ((Gr.refl w b).alloc _).alloc _
  have hCW : W1.heap[w.heap.size]? = some (.cells (cfC c) 35) := by rw [hW1]; exact (Below.heap_alloc _ _ _ (by simp)).trans (box_new _ _ _ rfl)
  have hmade : W1.ownsRow w.heap.size 43 3 (.slice (some ⟨w.heap.size + 1, 0, none⟩) 0 0) 0 (flat3 .i64 .i64 .u32 []) := by
    rw [hW1]
    have := World.ownsRow_made (w.alloc (.cells (cfC c) 35)) (base := w.heap.size) (e := 43) (size := 3) #[] 0 (by simp) (by unfold maxLen; omega) rfl
    simpa [flat3] using this
  have hsW : W1.heap.size = w.heap.size + 2 := by rw [hW1]; simp
  obtain ⟨⟨c0, c1, c2, c3, c4, c5⟩, cf⟩ := cells6 hCW
  go_enter Try.func39, Try.ntmps39
  go_wp2_with fail
  rw [← hW1]
  clear hW1
  refine (l4Begin_any c W1).mono ?_
  rintro e w2 ⟨rfl, hb2⟩
  have s2 := hb2.size
  have hd2 := hdW.below hb2
  have hG2 := hGW.below hb2 (by omega)
  have hC2 := (hb2.block _ (by omega)).trans hCW
  have hr2 := owned_kept hmade hb2
  obtain ⟨V, hV⟩ : ∃ V, V = w2.alloc (.cells #[.int .u32 c.isn, .int .i64 c.win, .int .i64 c.rto, .int .i64 c.mrto, .int .i64 c.da, .int .i64 c.pe, .slice none 0 0, .int .i64 0, .int .i64 0, .int .i64 c.rto, .int .i64 0, .int .i64 0, .bool false] 85) := ⟨_, rfl⟩
  have hB3 : V.heap[w2.heap.size]? = some (.cells #[.int .u32 c.isn, .int .i64 c.win, .int .i64 c.rto, .int .i64 c.mrto, .int .i64 c.da, .int .i64 c.pe, .slice none 0 0, .int .i64 0, .int .i64 0, .int .i64 c.rto, .int .i64 0, .int .i64 0, .bool false] 85) := by rw [hV]; exact box_new _ _ _ rfl
  have hE0 : Ev w0 w b a zs.length cap w2.heap.size c (startF c) (.slice none 0 0) [] (.slice (some ⟨w.heap.size + 1, 0, none⟩) 0 0) [] V :=
    ⟨by rw [hV]; exact hd2.alloc _, ⟨by rw [hB3]; simp [spCells, startF], Tags.nil _ _, rfl, rfl, by simp [Value.ownBlock]⟩, by rw [hV]; exact own_alloc hr2 _, by rw [hV]; exact (Below.heap_alloc _ _ _ (by omega)).trans hC2, by rw [hV]; exact hG2.alloc _, hbw, by omega, hs0⟩
  clear hd2 hG2 hC2 hr2 hB3 hmade hCW hGW hdW c0 c1 c2 c3 c4 c5 cf hb2
  have HB : Hid (w.heap.size + 2 ≤ w2.heap.size) := by unfold Hid; omega
  go_wp2_with fail
  rw [← hV]
  clear hV
  refine (drawNext_any w0 V b a zs cap 3 hE0.dr hz hv hl (by omega) (by omega)).mono ?_
  rintro e w3 ⟨way, rfl, lw, uw, hd3, g3⟩
  have hE3 := hE0.next hd3 g3
  obtain ⟨B, hB⟩ : ∃ B, B = w2.heap.size := ⟨_, rfl⟩
  rw [← hB] at hE3 ⊢
  clear hE0 hd3 g3 hB HB
  go_wp2_with fail
  go_loopw [7, 10] (fun ov i wr => ∃ (k : Nat) (av : Option Addr) (cp : Nat) (s : St) (v : Value) (all : List Int) (es : Triples), k ≤ N ∧ i = .int .i64 k ∧ ov = .slice av k cp ∧ es.length = k ∧ Good c s k ∧ (∀ e ∈ es, 0 ≤ e.2.2 ∧ e.2.2 ≤ 4294967295) ∧ Ev w0 w b a zs.length cap B c s v all (.slice av k cp) es wr) (fun _ i _ => N - (intOf i).toNat)
  case atStart => exact ⟨0, _, _, _, _, _, [], Nat.zero_le _, rfl, rfl, rfl, good_start c hc, by simp, hE3⟩
  case round =>
    clear hE3
    obtain ⟨k, av, cp, s, v, all, es, hk, rfl, rfl, hes, hg, hxs, hE⟩ := hrel
    have HES : Hid (es.length = k) := hes
    clear hes
    by_cases hlt : k < N
    · have hd1 := hE.dr
      go_wp2_with fail
      refine (drawNext_any w0 wr b a zs cap 100 hd1 hz hv hl (by omega) (by omega)).mono ?_
      rintro e w4 ⟨r1, rfl, l1, u1, hd4, g4⟩
      have hE4 := hE.next hd4 g4
      clear hd1 hd4 g4 hE
      go_upto_if 26 with fail
      go_cut [11] from 18 to 83 (fun kk wx => ∃ q : Int, 0 ≤ q ∧ q ≤ 99 ∧ kk = .int .i64 q ∧ Ev w0 w b a zs.length cap B c s v all (.slice av k cp) es wx)
      case first =>
        by_cases hw : way = 1
        · subst hw
          go_wp2_with fail
          go_meet
          case rel => exact ⟨_, by omega, by omega, rfl, hE4⟩
        · have hwb : (way == 1) = false := by simpa using hw
          go_wp2_with fail
          go_meet
          case rel => exact ⟨_, by omega, by omega, rfl, hE4⟩
      case rest =>
        obtain ⟨q, q0, q1, rfl, hEc⟩ := hcut
        clear hE4
        have hbx := hEc.box 1 ((k : Int) + 10) 0 (by omega) (by omega)
        obtain ⟨E, hEe⟩ : ∃ E, E = wc.heap.size := ⟨_, rfl⟩
        rw [← hEe] at hbx
        go_upto_region 11 with fail
        rw [← hEe]
        clear hEe
        go_cut [39] from 18 to 83 (fun p wx => p = .bool (decide (45 ≤ q ∧ q < 60)) ∧ EvE w0 w b a zs.length cap B c s v all (.slice av k cp) es E 1 ((k : Int) + 10) 0 wx)
        case first =>
          by_cases h45 : 45 ≤ q
          · by_cases h60 : q < 60
            · have d1 : decide (45 ≤ q) = true := by simpa using h45
              have d2 : decide (q < 60) = true := by simpa using h60
              go_wp2_with fail
              go_meet
              case rel => exact ⟨by simp [h45, h60], hbx⟩
            · have d1 : decide (45 ≤ q) = true := by simpa using h45
              have d2 : decide (q < 60) = false := by simpa using h60
              go_wp2_with fail
              go_meet
              case rel => exact ⟨by simp; omega, hbx⟩
          · have d1 : decide (45 ≤ q) = false := by simpa using h45
            go_wp2_with fail
            go_meet
            case rel => exact ⟨by simp; omega, hbx⟩
        case rest =>
          obtain ⟨rfl, hE5⟩ := hcut
          clear hbx hEc
          go_upto_if 39 with fail
          go_cut [39] from 18 to 83 (fun p wx => ∃ kk tt xx : Int, EvE w0 w b a zs.length cap B c s v all (.slice av k cp) es E kk tt xx wx)
          case first =>
            by_cases hak : 45 ≤ q ∧ q < 60
            · have dk : decide (45 ≤ q ∧ q < 60) = true := by simpa using hak
              obtain ⟨e0, e1, e2, ef⟩ := cell3 hE5.box
              have ef0 := ef 0
              have ef1 := ef 1
              have ef2 := ef 2
              obtain ⟨⟨k0, k1, k2, k3, k4, k5⟩, _⟩ := cells6 hE5.ev.cfg
              obtain ⟨⟨b0, b1, b2, b3, b4, b5, b6, b7, b8, b9, b10, b11, b12⟩, _⟩ := cells13 hE5.ev.sp.blk
              clear ef
              have hal := hg.all
              have hln : all.length ≤ 1000000 := by have := hE5.ev.sp.len; omega
              have hd6 : s.done ≤ 1000000 := by omega
              have ht6 : s.tags.length ≤ 1000000 := by omega
              have hEgt := hE5.hE
              have m1 : ¬ w.heap.size = E := by omega
              have m2 : ¬ E = w.heap.size := by omega
              have m3 : ¬ B = E := hE5.nB
              have m4 : ¬ E = B := fun e => hE5.nB e.symm
              obtain ⟨T, hT⟩ : ∃ T, Hid (T = s.tags.length) := ⟨_, rfl⟩
              rw [← hT.out] at ht6
              obtain ⟨y, hy⟩ : ∃ y, IntKind.u32.wrap (c.isn + (s.done : Int)) = y := ⟨_, rfl⟩
              have hwd : IntKind.u32.wrap (s.done : Int) = (s.done : Int) := by rw [IntKind.wrap_u32]; omega
              have L1 := l4Out_any B w.heap.size c s v all wc.drew hE5.drew.ev.sp hln
              rw [← hT.out] at L1
              have L2 := fun nn => drawNext_any w0 (wc.drewN (1 + nn)) b a zs cap ((T : Int) + 1) ((hE5.drewN (1 + nn)).ev.dr) hz hv hl (by omega) (by omega)
              have HK : Hid (∀ (w8 : World) nn, (wc.drewN (1 + nn)).grownBy w8 (some b) → Drawing w0 w8 b a zs.length cap → EvE w0 w b a zs.length cap B c s v all (.slice av k cp) es E 1 ((k : Int) + 10) 0 w8) := by
                unfold Hid
                intro w8 nn g8 hd8
                exact (hE5.drewN (1 + nn)).next hd8 g8
              have hwT : IntKind.i64.wrap ((T : Int) + 1) = (T : Int) + 1 := wrap_fit _ (by omega) (by omega)
              have HKC : Hid (∀ nn, (wc.drewN (1 + nn)).cell? ⟨w.heap.size, 0, none⟩ = some (.int .u32 c.isn) ∧ (wc.drewN (1 + nn)).cell? ⟨B, 7, none⟩ = some (.int .i64 s.done)) := fun nn => ⟨k0, b7⟩
              clear hal hln hEgt
              have k0' : wc.drew.cell? ⟨w.heap.size, 0, none⟩ = some (.int .u32 c.isn) := k0
              have b7' : wc.drew.cell? ⟨B, 7, none⟩ = some (.int .i64 s.done) := b7
              have hdn : ∀ nn (p : Addr), (wc.drew.drewN nn).cell? p = wc.cell? p := fun _ _ => rfl
              go_wp2_with fail
              go_region_held3 (fun w' => w'.cell? ⟨w.heap.size, 0, none⟩ = some (.int .u32 c.isn) ∧ w'.cell? ⟨B, 7, none⟩ = some (.int .i64 s.done))
                (first | (go_keep; done) | exact ⟨by assumption, by assumption⟩)
                (first
                  | (go_at_call 53; with_reducible (refine Calls.mono L1 ?_); rintro e w7 ⟨nn, rfl, rfl⟩; have L3 := L2 nn; obtain ⟨k0n, b7n⟩ := HKC.out nn)
                  | (go_at_call 38; with_reducible (refine Calls.mono L3 ?_); rintro e w8 ⟨r8, rfl, l8, u8, hd8, g8⟩; have hE8 := HK.out w8 nn g8 hd8; obtain ⟨⟨j0, _⟩, _⟩ := cells6 hE8.ev.cfg; obtain ⟨⟨_, _, _, _, _, _, _, j7, _⟩, _⟩ := cells13 hE8.ev.sp.blk; obtain ⟨x0', x1', x2', xf⟩ := cell3 hE8.box; have xf0 := xf 0; have xf1 := xf 1; have xf2 := xf 2; have hwr : IntKind.u32.wrap r8 = r8 := (by rw [IntKind.wrap_u32]; omega); obtain ⟨x', hx'⟩ : ∃ x', IntKind.u32.wrap (y + r8) = x' := ⟨_, rfl⟩))
              have hxb := wrap32_fits (y + r8)
              rw [hx'] at hxb
              have hE9 := hE8.put3 2 0 x' hxb.1 hxb.2
              clear L1 L2 L3 HK HKC k0n b7n xf x0' x1' x2' xf0 xf1 xf2 hE8 hd8 g8 j0 j7 hxb k0 k1 k2 k3 k4 k5 b0 b1 b2 b3 b4 b5 b6 b7 b8 b9 b10 b11 b12 k0' b7' hdn e0 e1 e2 ef0 ef1 ef2
              obtain ⟨W9, hW9, hE9⟩ : ∃ W, W = (((w8.setCell ⟨E, 0, none⟩ (.int .i64 2)).setCell ⟨E, 1, none⟩ (.int .i64 0)).setCell ⟨E, 2, none⟩ (.int .u32 x')) ∧ EvE w0 w b a zs.length cap B c s v all (.slice av k cp) es E 2 0 x' W := ⟨_, rfl, hE9⟩
              have hd9 := hE9.ev.dr
              go_wp2_with fail
              rw [← hW9]
              clear hW9
              refine (drawNext_any w0 _ b a zs cap 4 hd9 hz hv hl (by omega) (by omega)).mono ?_
              rintro e w10 ⟨r10, rfl, l10, u10, hd10, g10⟩
              have hE10 := hE9.next hd10 g10
              clear hE9 hd9 g10
              by_cases h10 : r10 = 0
              · subst h10
                obtain ⟨⟨k0, k1, k2, k3, k4, k5⟩, _⟩ := cells6 hE10.ev.cfg
                obtain ⟨⟨b0, b1, b2, b3, b4, b5, b6, b7, b8, b9, b10, b11, b12⟩, _⟩ := cells13 hE10.ev.sp.blk
                obtain ⟨y2, hy2⟩ : ∃ y2, IntKind.u32.wrap (y - 2) = y2 := ⟨_, rfl⟩
                have L4 := drawNext_any w0 w10.drew b a zs cap 8 hE10.drew.ev.dr hz hv hl (by omega) (by omega)
                have HK : Hid (∀ (w8 : World), w10.drew.grownBy w8 (some b) → Drawing w0 w8 b a zs.length cap → EvE w0 w b a zs.length cap B c s v all (.slice av k cp) es E 2 0 x' w8) := by
                  unfold Hid
                  intro w8 g8 hd8
                  exact hE10.drew.next hd8 g8
                clear k1 k2 k3 k4 k5 b0 b1 b2 b3 b4 b5 b6 b8 b9 b10 b11 b12
                go_wp2_with fail
                go_region_held3 (fun w' => w'.cell? ⟨w.heap.size, 0, none⟩ = some (.int .u32 c.isn) ∧ w'.cell? ⟨B, 7, none⟩ = some (.int .i64 s.done))
                  (first | (go_keep; done) | exact ⟨by assumption, by assumption⟩)
                  (first
                    | (go_at_call 38; with_reducible (refine Calls.mono L4 ?_); rintro e w12 ⟨r12, rfl, l12, u12, hd12, g12⟩; have hE12 := HK.out w12 g12 hd12; obtain ⟨⟨j0, _⟩, _⟩ := cells6 hE12.ev.cfg; obtain ⟨⟨_, _, _, _, _, _, _, j7, _⟩, _⟩ := cells13 hE12.ev.sp.blk; obtain ⟨x0', x1', x2', xf⟩ := cell3 hE12.box; have xf2 := xf 2; have hwr2 : IntKind.u32.wrap r12 = r12 := (by rw [IntKind.wrap_u32]; omega); obtain ⟨x3, hx3⟩ : ∃ x', IntKind.u32.wrap (y2 + r12) = x' := ⟨_, rfl⟩))
                have hxb := wrap32_fits (y2 + r12)
                rw [hx3] at hxb
                have hE13 := hE12.put (k' := 2) (t' := 0) (x' := x3) 2 (.int .u32 x3) rfl hxb.1 hxb.2
                go_wp2_with fail
                go_meet
                case rel => exact ⟨_, _, _, hE13⟩
              · have h10b : (r10 == 0) = false := by simpa using h10
                go_wp2_with fail
                go_meet
                case rel => exact ⟨_, _, _, hE10⟩
            · have dk : decide (45 ≤ q ∧ q < 60) = false := by simpa using hak
              have hE5b := hE5.box
              obtain ⟨e0, e1, e2, ef⟩ := cell3 hE5b
              have ef0 := ef 0
              have ef1 := ef 1
              have ef2 := ef 2
              clear ef
              by_cases h6 : 60 ≤ q
              · have d6 : decide (60 ≤ q) = true := by simpa using h6
                have hE6 := hE5.put3 3 0 0 (by omega) (by omega)
                go_wp2_with fail
                go_meet
                case rel => exact ⟨_, _, _, hE6⟩
              · have d6 : decide (60 ≤ q) = false := by simpa using h6
                go_wp2_with fail
                go_meet
                case rel => exact ⟨_, _, _, hE5⟩
          case rest =>
            obtain ⟨kk, tt, xx, hE6⟩ := hcut
            clear hE5
            have hd6 := hE6.ev.dr
            go_wp2_with fail
            refine (drawNext_any w0 _ b a zs cap 60 hd6 hz hv hl (by omega) (by omega)).mono ?_
            rintro e w7 ⟨r7, rfl, l7, u7, hd7, g7⟩
            have hE7 := hE6.next hd7 g7
            clear hE6 hd6 g7
            go_upto_if 73 with fail
            go_cut [73] from 18 to 83 (fun p wx => ∃ k2 : Int, EvE w0 w b a zs.length cap B c s v all (.slice av k cp) es E k2 tt xx wx)
            case first =>
              by_cases h7 : r7 = 0
              · subst h7
                go_wp2_with fail
                refine (drawNext_any w0 _ b a zs cap 2 hd7 hz hv hl (by omega) (by omega)).mono ?_
                rintro e w8 ⟨r8, rfl, l8, u8, hd8, g8⟩
                have hE8 := hE7.next hd8 g8
                obtain ⟨e0, e1, e2, ef⟩ := cell3 hE8.box
                have ef0 := ef 0
                have hE9 := hE8.put (k' := 4 * r8) (t' := tt) (x' := xx) 0 (.int .i64 (4 * r8)) rfl hE8.x0 hE8.x1
                clear ef
                go_wp2_with fail
                go_meet
                case rel => exact ⟨_, hE9⟩
              · have h7b : (r7 == 0) = false := by simpa using h7
                go_wp2_with fail
                go_meet
                case rel => exact ⟨_, hE7⟩
            case rest =>
              obtain ⟨k2, hE8⟩ := hcut
              clear hE7 hd7
              obtain ⟨e0, e1, e2, ef⟩ := cell3 hE8.box
              have hst := l4Step_any B w.heap.size c hc s v all _ k hg (by omega) hi (by have := hE8.ev.gr.size; omega) hE8.ev.sp k2 tt xx hE8.x0 hE8.x1
              have hgs := good_step hc hg (k2, tt, xx)
              obtain ⟨Q, hQ⟩ : ∃ Q, Q = stepF c s (k2, tt, xx) := ⟨_, rfl⟩
              rw [← hQ] at hst hgs
              clear hQ ef
              go_wp2_with fail
              refine hst.mono ?_
              rintro e w9 ⟨fv, ak, v', all', rfl, hs⟩
              have hE9 := hE8.step hs
              clear hst hs hE8 e0 e1 e2
              obtain ⟨e0, e1, e2, ef⟩ := cell3 hE9.box
              clear ef
              have hrow := hE9.ev.row
              rw [HES.out] at hrow
              have hsz9 := hE9.ev.gr.size
              have hA9 := hE9.alloc (.cells #[.int .i64 k2, .int .i64 tt, .int .u32 xx] 43)
              have hn9 : (w9.alloc (.cells #[.int .i64 k2, .int .i64 tt, .int .u32 xx] 43)).heap[w9.heap.size]? = some (.cells #[.int .i64 k2, .int .i64 tt, .int .u32 xx] 43) := box_new _ _ _ rfl
              go_wp2_with (at_builtin; refine wpList_app3 _ (by rfl) _ _ 36 43 (by rfl) .i64 .i64 .u32 24 Try.underlying36 info_ev (by omega) w.heap.size av k cp es HES.out k2 tt xx (by rfl) (own_alloc hrow _) w9.heap.size (by rfl) (Go.Joins.cell_of_block hn9 0) (Go.Joins.cell_of_block hn9 1) (Go.Joins.cell_of_block hn9 2) (by omega) (by simp; omega) ?_; intro g cap' wz ho hgz)
              have hlen : (es ++ [(k2, tt, xx)]).length = k + 1 := by rw [List.length_append, HES.out]; rfl
              have hP := hA9.push (g := g) (cp := cap') hgz (by rw [hlen]; exact ho)
              rw [hlen] at hP
              have hxs2 : ∀ e ∈ es ++ [(k2, tt, xx)], 0 ≤ e.2.2 ∧ e.2.2 ≤ 4294967295 := by
                intro e he
                rcases List.mem_append.1 he with h | h
                · exact hxs e h
                · simp only [List.mem_singleton] at h
                  subst h
                  exact ⟨hE9.x0, hE9.x1⟩
              go_roundw
              case rel => exact ⟨k + 1, _, _, Q.2, v', all', _, by omega, by go_num, rfl, hlen, hgs, hxs2, hP⟩
              case measure => simp [intOf]; omega
    · obtain rfl : k = N := by omega
      go_wp2
      go_ret
      exact ⟨av, cp, es, rfl, HES.out, by have := hE.row; rw [HES.out] at this; exact this, hxs, hE.dr, hE.gr⟩
end Go.Proofs.Ytincfdhfoaimbaa
