import Derived.Test.YtpeecjoadgefjaaJ7
import Derived.Deep.RegionHeld3
import Derived.Deep.RegionWith
import Derived.Deep.RegionLaw
namespace Go.Proofs.Ytpeecjoadgefjaa
open Go.ChangeShapes Go.WideShapes Go.ChangeAt Go.RowKit
set_option linter.unusedVariables false

/-- An event on the way: its box E, its bytes in a row that is new. -/
structure EvBox (lim E : Nat) (e : REv) (da : Option Addr) (dc : Nat) (wr : World) : Prop where
  box : wr.heap[E]? = some (.cells #[.int .i64 e.kd, .int .u64 e.off, .slice da e.dat.length dc, .int .i64 e.n] 48 (0, 0))
  row : wr.ownsRow lim 5 1 (.slice da e.dat.length dc) e.dat.length (e.dat.map (.int .u8))
  hE : lim ≤ E
section
variable {lim E : Nat} {e : REv} {da : Option Addr} {dc : Nat} {wr w' : World}
theorem EvBox.ne (h : EvBox lim E e da dc wr) : ∀ k, (Value.slice da e.dat.length dc).ownBlock = some k → k ≠ E := fun k hk => by
  obtain ⟨cs, hcs⟩ := row_block h.row hk
  exact type_ne hcs h.box (by decide)
theorem EvBox.next (h : EvBox lim E e da dc wr) {b : Nat} (hg : wr.grownBy w' (some b)) (hb : b < lim) : EvBox lim E e da dc w' :=
  ⟨(hg.block E (Array.getElem?_eq_some_iff.1 h.box).1 (fun e2 => by have := Option.some.inj e2; have := h.hE; omega)).trans h.box, row_stays h.row fun k hk => hg.block k (h.row.lt k hk).2 (fun e2 => by have := Option.some.inj e2; have := (h.row.lt k hk).1; omega), h.hE⟩
theorem EvBox.drew (h : EvBox lim E e da dc wr) : EvBox lim E e da dc wr.drew := ⟨h.box, h.row, h.hE⟩
theorem EvBox.kd (h : EvBox lim E e da dc wr) (x : Int) : EvBox lim E { e with kd := x } da dc (wr.setCell ⟨E, 0, none⟩ (.int .i64 x)) :=
  ⟨heap_setCell_same wr E 0 _ _ _ h.box, row_stays h.row fun k hk => heap_setCell_other _ _ _ _ (h.ne k hk), h.hE⟩
theorem EvBox.off (h : EvBox lim E e da dc wr) (x : Int) : EvBox lim E { e with off := x } da dc (wr.setCell ⟨E, 1, none⟩ (.int .u64 x)) :=
  ⟨heap_setCell_same wr E 1 _ _ _ h.box, row_stays h.row fun k hk => heap_setCell_other _ _ _ _ (h.ne k hk), h.hE⟩
theorem EvBox.n (h : EvBox lim E e da dc wr) (x : Int) : EvBox lim E { e with n := x } da dc (wr.setCell ⟨E, 3, none⟩ (.int .i64 x)) :=
  ⟨heap_setCell_same wr E 3 _ _ _ h.box, row_stays h.row fun k hk => heap_setCell_other _ _ _ _ (h.ne k hk), h.hE⟩
end

theorem EvBox.step {lim E : Nat} {e : REv} {da : Option Addr} {dc : Nat} {wr w' : World} {B base : Nat} {x : Int} {z : Nat} {s : RB} {v dv v' : Value} {got got' : List Int} {Q : ROut × RB} (h : EvBox lim E e da dc wr) (hb : SpB wr B base x z s v got) (hs : SStep wr B base x z v Q w' dv v' got') : EvBox lim E e da dc w' := by
  have hk : ∀ {k : Nat} {cs : Array Value} {t : TypeId}, wr.heap[k]? = some (.cells cs t (0, 0)) → t ≠ 83 → t ≠ 2 → w'.heap[k]? = wr.heap[k]? := fun {k cs t} hc h1 h2 => hs.mv.block k (Array.getElem?_eq_some_iff.1 hc).1 (type_ne hc hb.blk h1) (fun e9 => by
    obtain ⟨c9, hc9⟩ := row_block hb.row e9.symm
    exact type_ne hc hc9 h2 rfl)
  refine ⟨(hk h.box (by decide) (by decide)).trans h.box, row_stays h.row fun k hk' => ?_, h.hE⟩
  obtain ⟨cs, hcs⟩ := row_block h.row hk'
  exact hk hcs (by decide) (by decide)
theorem DrawB.step {w0 w : World} {b : Nat} {a : Option Addr} {n cap : Nat} {x : Int} {z : Nat} {B : Nat} {s : RB} {v : Value} {got : List Int} {ev : Value} {G : Evs} {σ : Src} {wr w' : World} {dv v' : Value} {got' : List Int} {Q : ROut × RB} (h : DrawB w0 w b a n cap x z B s v got ev G σ wr) (hs : SStep wr B w.heap.size x z v Q w' dv v' got') : DrawB w0 w b a n cap x z B Q.2 v' got' ev G σ w' := by
  have hbB : b ≠ B := by have := h.hb; have := h.hB; omega
  have hbv : some b ≠ v.ownBlock := fun e9 => by have := (h.bf.row.lt b e9.symm).1; have := h.hb; omega
  have hk : ∀ {k : Nat} {cs : Array Value} {t : TypeId}, wr.heap[k]? = some (.cells cs t (0, 0)) → t ≠ 83 → t ≠ 2 → w'.heap[k]? = wr.heap[k]? := fun {k cs t} hc h1 h2 => hs.mv.block k (Array.getElem?_eq_some_iff.1 hc).1 (type_ne hc h.bf.blk h1) (fun e9 => by
    obtain ⟨c9, hc9⟩ := row_block h.bf.row e9.symm
    exact type_ne hc hc9 h2 rfl)
  have hlow : ∀ k, k < w.heap.size → w'.heap[k]? = wr.heap[k]? := fun k hk' => hs.mv.block k (Nat.lt_of_lt_of_le hk' h.size) (by have := h.hB; omega) (fun e9 => by have := (h.bf.row.lt k e9.symm).1; omega)
  refine ⟨⟨⟨hs.mv.os.trans h.dr.bel.os, hs.mv.tape.trans h.dr.bel.tape, hs.mv.output.trans h.dr.bel.output, Nat.le_trans h.dr.bel.size hs.mv.size, fun k hk' => (hlow k (by have := h.dr.new; have := h.hb; omega)).trans (h.dr.bel.block k hk')⟩, h.dr.new, (hlow b h.hb).trans h.dr.src, h.dr.pos, h.dr.s0, h.dr.s1⟩, hs.buf, ⟨row_stays h.ev.row fun k hk' => ?_, fun p hp => row_stays (h.ev.dat p hp) fun k hk' => ?_, h.ev.apart⟩, ⟨hs.mv.os.trans h.gr.os, hs.mv.tape.trans h.gr.tape, hs.mv.output.trans h.gr.output, Nat.le_trans h.gr.size hs.mv.size, fun k hk' hne => (hlow k hk').trans (h.gr.block k hk' hne)⟩, h.hb, h.hB⟩
  · obtain ⟨cs, hcs⟩ := row_block h.ev.row hk'
    exact hk hcs (by decide) (by decide)
  · obtain ⟨cs, hcs⟩ := row_block (h.ev.dat p hp) hk'
    exact hk hcs (by decide) (by decide)

set_option maxHeartbeats 2000000 in
set_option maxRecDepth 100000 in
theorem drawEvents_at (w0 w : World) (b : Nat) (a : Option Addr) (zs : List Int) (cap : Nat) (σ : Src) (hd : DrawAt w0 w b a zs.length cap σ) (hz : Ints .u8 w0 a zs) (hv : ∀ x ∈ zs, 0 ≤ x ∧ x ≤ 255) (hl : zs.length ≤ 2000000) (x : Int) (z m : Nat) (x0 : 0 ≤ x) (x1 : x ≤ 4611686018427387904) (z1 : 1 ≤ z) (z2 : z ≤ 60) (hm : m ≤ 200) :
    Calls Try.prog 51 #[.pointer (some ⟨b, 0, none⟩), .int .u64 x, .int .i64 (z : Int), .int .i64 (m : Int), .bool true] w fun e w' => ∃ (av : Option Addr) (cp : Nat) (G : Evs), e = .returned (.slice av m cp) ∧ G.length = m ∧ G.map (·.1) = (evsFn zs x z (20 + (nextF zs σ 200).1) (nextF zs σ 200).2 m).1 ∧ (∀ p ∈ G, DrawnE x p.1) ∧ EvsR w' w.heap.size (.slice av m cp) G ∧ w.grownBy w' (some b) := by
  have hx : OkR x z := ⟨x1, by omega, by omega⟩
  have hgs := gotAt_start x0 hx
  have hbl := hd.lt
  have hb0 : Below w.heap.size w (w.alloc (.cells #[] 48)) := (Below.refl _ _).alloc (Nat.le_refl _) _
  have hbg := l5Begin_any x z (w.alloc (.cells #[] 48))
  have hrow0 : (w.alloc (.cells #[] 48)).ownsRow w.heap.size 48 4 (.slice (some ⟨w.heap.size, 0, none⟩) 0 0) 0 [] := World.ownsRow_made w #[] 0 (Nat.le_refl _) (by unfold maxLen; omega) rfl
  have HNX : Hid (∀ (w1 : World) (σ1 : Src) (n : Int), DrawAt w0 w1 b a zs.length cap σ1 → 0 < n → n ≤ 1000 → Calls Try.prog 50 #[.pointer (some ⟨b, 0, none⟩), .int .i64 n] w1 fun e w' => ∃ (r : Int) (σ' : Src), e = .returned (.int .i64 r) ∧ Hid (nextF zs σ1 n = (r, σ')) ∧ 0 ≤ r ∧ r < n ∧ DrawAt w0 w' b a zs.length cap σ' ∧ w1.grownBy w' (some b)) := fun w1 σ1 n h1 h2 h3 => next_at w0 w1 b a zs cap σ1 n h1 hz hv hl h2 (by omega)
  obtain ⟨EN, hEN⟩ : ∃ EN, Hid (EN = 20 + (nextF zs σ 200).1) := ⟨_, rfl⟩
  obtain ⟨σ1, hσ1⟩ : ∃ σ1, Hid (σ1 = (nextF zs σ 200).2) := ⟨_, rfl⟩
  rw [← hEN.out, ← hσ1.out]
  go_enter Try.func51, Try.ntmps51
  go_wp2_with fail
  refine hbg.mono ?_
  rintro e w2 ⟨rfl, hb2⟩
  have hB2 := hb0.trans (hb2.mono hb0.size)
  have s2 := hb2.size
  obtain ⟨W, hW⟩ : ∃ W, W = w2.alloc (.cells #[.int .u64 x, .int .i64 (z : Int), .slice none 0 0, .int .i64 0, .int .u64 0, .bool false] 83) := ⟨_, rfl⟩
  obtain ⟨B, hBe⟩ : ∃ B, B = w2.heap.size := ⟨_, rfl⟩
  have hBW : W.heap[B]? = some (.cells #[.int .u64 x, .int .i64 (z : Int), .slice none 0 0, .int .i64 0, .int .u64 0, .bool false] 83 (0, 0)) := by rw [hW, hBe]; exact heap_alloc_new _ _
  have hbW : Below w.heap.size w W := by rw [hW]; exact hB2.alloc hB2.size _
  have hw1s : (w.alloc (.cells #[] 48)).heap.size = w.heap.size + 1 := by simp
  have hBw : w.heap.size ≤ B := by omega
  have hrowW : W.ownsRow w.heap.size 48 4 (.slice (some ⟨w.heap.size, 0, none⟩) 0 0) 0 [] := row_stays hrow0 fun k hk => by
    have h1 := (hrow0.lt k hk).2
    have h2 := hb2.block k h1
    rw [hW]
    exact (Below.heap_alloc _ _ _ (by omega)).trans h2
  have HD0 : Hid (DrawB w0 w b a zs.length cap x z B (startR x) (.slice none 0 0) [] (.slice (some ⟨w.heap.size, 0, none⟩) 0 0) [] σ W) := by
    refine ⟨⟨hd.bel.trans (hbW.mono hd.bel.size), hd.new, (hbW.block b hbl).trans hd.src, hd.pos, hd.s0, hd.s1⟩, ⟨hBW.trans (by simp [bufCells, startR]), ⟨rfl, .inl ⟨rfl, rfl⟩⟩, hgs⟩, ⟨hrowW, by simp, by simp⟩, ⟨hbW.os, hbW.tape, hbW.output, hbW.size, fun k hk _ => hbW.block k hk⟩, hbl, hBw⟩
  go_upto_region 3 with fail
  rw [← hW, ← hBe]
  have hn0 := HNX.out W σ 200 HD0.out.dr (by omega) (by omega)
  clear hW hBe hgs hbg hrow0 hb0 hB2 hb2 hbW hrowW hBW hw1s hd hz hv
  go_wp2_with fail
  refine hn0.mono ?_
  rintro e w3 ⟨en, σ1', rfl, H1, en0, en1, hd3, hg3⟩
  obtain rfl : σ1 = σ1' := by rw [hσ1.out, H1.out]
  have HD1 : Hid _ := HD0.out.next hd3 hg3
  have hENw : IntKind.i64.wrap (20 + en) = EN := by rw [IntKind.wrap_i64, hEN.out, H1.out]; simp only; omega
  have hEN2 : 20 ≤ EN ∧ EN ≤ 300 := by rw [hEN.out, H1.out]; simp only; omega
  have hENe : 20 + en = EN := by rw [hEN.out, H1.out]
  clear HD0 hn0 hd3 hg3
  go_wp2_with fail
  go_loopw [11, 14] (fun ov iv wr => ∃ (k : Nat) (av : Option Addr) (cp : Nat) (G : Evs) (s : RB) (v : Value) (got : List Int) (σk : Src), k ≤ m ∧ iv = .int .i64 (k : Int) ∧ ov = .slice av k cp ∧ Hid (G.length = k) ∧ Hid (evsFn zs x z EN σ1 k = (G.map (·.1), σk)) ∧ Hid (s = stateR z x (G.map (·.1))) ∧ Hid (∀ p ∈ G, DrawnE x p.1) ∧ Hid (DrawB w0 w b a zs.length cap x z B s v got (.slice av k cp) G σk wr)) (fun _ iv _ => m - (intOf iv).toNat)
  case atStart => exact ⟨0, _, _, [], startR x, _, _, σ1, Nat.zero_le _, rfl, rfl, rfl, rfl, rfl, by unfold Hid; simp, HD1⟩
  case round =>
  clear HD1
  obtain ⟨k, av, cp, G, s, v, got, σk, hk, rfl, rfl, HGK, HEVS, HST, HDR, HD⟩ := hrel
  by_cases hlt : k < m
  case neg =>
    obtain rfl : k = m := by omega
    have hkk : ¬ (k : Int) < (k : Int) := by omega
    go_wp2_with fail
    go_ret
    exact ⟨av, cp, rfl, G, HGK.out, by rw [HEVS.out], fun e d c h => HDR.out _ h, HD.out.ev, HD.out.gr⟩
  case pos =>
  have hkm : (k : Int) < (m : Int) := by omega
  have h100 := HNX.out wr σk 100 HD.out.dr (by omega) (by omega)
  go_wp2_with fail
  refine h100.mono ?_
  rintro e w4 ⟨q, σa, rfl, HA1, q0, q1, hd4, hg4⟩
  have HD4 : Hid _ := HD.out.next hd4 hg4
  clear h100 HD hd4 hg4
  obtain ⟨lim, hlim⟩ : ∃ lim, lim = w4.heap.size := ⟨_, rfl⟩
  have HLT : Hid (B < lim ∧ (∀ k, v.ownBlock = some k → k < lim) ∧ (∀ j, (Value.slice av k cp).ownBlock = some j → j < lim) ∧ (∀ p ∈ G, ∀ j, (evP p).ownBlock = some j → j < lim) ∧ w.heap.size ≤ lim) := by
    rw [hlim]
    exact ⟨HD4.out.bf.lt, fun k hk => (HD4.out.bf.row.lt k hk).2, fun j hj => (HD4.out.ev.row.lt j hj).2, fun p hp j hj => ((HD4.out.ev.dat p hp).lt j hj).2, HD4.out.size⟩
  obtain ⟨W5, hW5⟩ : ∃ W, W = w4.alloc (.cells #[.int .i64 1, .int .u64 0, .slice none 0 0, .int .i64 0] 48) := ⟨_, rfl⟩
  have HD5 : Hid (DrawB w0 w b a zs.length cap x z B s v got (.slice av k cp) G σa W5) := by rw [hW5]; exact HD4.out.alloc _
  have HE5 : Hid (EvBox lim lim ⟨1, 0, [], 0⟩ none 0 W5) := ⟨by rw [hW5, hlim]; exact heap_alloc_new _ _, ⟨rfl, .inl ⟨rfl, rfl⟩⟩, Nat.le_refl _⟩
  go_upto_if 36 with fail
  rw [← hW5, ← hlim]
  clear hW5 hlim HD4
  go_cut [17, 18, 19] from 35 to 114 (fun p9 m9 x9 wx => ∃ (e : REv) (da : Option Addr) (dc : Nat) (σb : Src), Hid (evFn zs x z EN s σk = (e, σb)) ∧ DrawnE x e ∧ EvBox lim lim e da dc wx ∧ DrawB w0 w b a zs.length cap x z B s v got (.slice av k cp) G σb wx)
  case first =>
    obtain ⟨lB, lv, le, lp, lw⟩ := HLT.out
    have hblim : b < lim := by omega
    have HSETD : Hid (∀ (σ9 : Src) (W : World) (j : Nat) (u : Value), DrawB w0 w b a zs.length cap x z B s v got (.slice av k cp) G σ9 W → DrawB w0 w b a zs.length cap x z B s v got (.slice av k cp) G σ9 (W.setCell ⟨lim, j, none⟩ u)) := fun σ9 W j u h => h.set (Nat.le_refl _) lw lB lv le lp j u
    obtain ⟨⟨c0, c1, c2, c3, c4, c5⟩, cf⟩ := HD5.out.bf.cells
    have hlo := HD5.out.bf.got.lo
    have hhi := HD5.out.bf.got.hi
    obtain ⟨ρ, hρ⟩ : ∃ ρ, Hid (ρ = s.read - x) := ⟨_, rfl⟩
    rw [← hρ.out] at c3
    have hρ0 : 0 ≤ ρ := by rw [hρ.out]; omega
    have hρ1 : ρ ≤ 20000000 := by rw [hρ.out]; omega
    obtain ⟨⟨e0, e1, e2, e3⟩, ef0, ef1, ef2, ef3⟩ := cells4r HE5.out.box
    simp only [List.length_nil] at e0 e1 e2 e3
    clear lB lv le lp cf c0 c1 c2 c4 c5 hlo hhi
    by_cases q60 : q < 60
    case pos =>
      have d60 : decide (q < 60) = true := by rw [decide_eq_true_iff]; exact q60
      have HEV0 : Hid (∀ (p r : Int) (σp σq : Src), placeF zs x z s σa = (p, σp) → nextF zs σp 12 = (r, σq) → evFn zs x z EN s σk = (⟨1, x + posF p, dataF EN (posF p) (1 + r), 0⟩, σq)) := by
        intro p r σp σq h1 h2
        unfold evFn
        rw [HA1.out]
        simp only
        rw [if_pos q60, h1]
        simp only
        rw [h2]
      have HQ : Hid _ := q60
      clear q60 e0 e1 e2 e3 ef0 ef1 ef2 ef3
      have hzw : IntKind.i64.wrap ((z : Int) + 2) = (z : Int) + 2 := by rw [IntKind.wrap_i64]; omega
      have HC3 : Hid (∀ (σ9 : Src) (W : World), DrawB w0 w b a zs.length cap x z B s v got (.slice av k cp) G σ9 W → W.cell? ⟨B, 3, none⟩ = some (.int .i64 ρ)) := fun σ9 W h => by rw [h.bf.cells.1.2.2.2.1, hρ.out]
      have L1 := HNX.out W5.drew σa ((z : Int) + 2) HD5.out.drew.dr (by omega) (by omega)
      rw [d60]
      go_upto_region 10 with fail
      go_cut [17] from 37 to 46 (fun pv wx => ∃ (r1 r2 : Int) (σb σc : Src), pv = .int .i64 (ρ + r1 - r2) ∧ Hid (nextF zs σa (z + 2) = (r1, σb)) ∧ Hid (nextF zs σb 6 = (r2, σc)) ∧ (0 ≤ r1 ∧ r1 < z + 2) ∧ (0 ≤ r2 ∧ r2 < 6) ∧ EvBox lim lim ⟨1, 0, [], 0⟩ none 0 wx ∧ DrawB w0 w b a zs.length cap x z B s v got (.slice av k cp) G σc wx)
      case first =>
        go_region_held3 (fun w' => w'.cell? ⟨B, 3, none⟩ = some (.int .i64 ρ)) (first | with_reducible assumption | go_keep | assumption)
          (first
            | (go_at_call 50; with_reducible (refine Calls.mono L1 ?_); rintro e w6 ⟨r1, σb, rfl, HR1, r10, r11, hd6, hg6⟩; have hD6 := HD5.out.drew.next hd6 hg6; have hE6 := HE5.out.drew.next hg6 hblim; have k3 := HC3.out _ _ hD6; have L2 := HNX.out w6 σb 6 hd6 (by omega) (by omega))
            | (go_at_call 50; with_reducible (refine Calls.mono L2 ?_); rintro e w7 ⟨r2, σc, rfl, HR2, r20, r21, hd7, hg7⟩; have hD7 := hD6.next hd7 hg7; have hE7 := hE6.next hg7 hblim; have k4 := HC3.out _ _ hD7; have hwa : IntKind.i64.wrap (ρ + r1) = ρ + r1 := (by rw [IntKind.wrap_i64]; omega); have hwb : IntKind.i64.wrap (ρ + r1 - r2) = ρ + r1 - r2 := (by rw [IntKind.wrap_i64]; omega)))
        go_wp2_with fail
        go_meet
        case rel => exact ⟨r1, r2, σb, σc, rfl, HR1, HR2, ⟨r10, r11⟩, ⟨r20, r21⟩, hE7, hD7⟩
      case rest =>
      obtain ⟨r1, r2, σb, σc, rfl, HR1, HR2, hr1, hr2, hE7, hD7⟩ := hcut
      have h2 := HNX.out _ σc 2 hD7.dr (by omega) (by omega)
      have HD7 : Hid _ := hD7
      have HE7 : Hid _ := hE7
      clear hD7 hE7 L1 c3
      go_wp2_with fail
      refine h2.mono ?_
      rintro e w8 ⟨r3, σd, rfl, HR3, r30, r31, hd8, hg8⟩
      have HD8 : Hid _ := HD7.out.next hd8 hg8
      have HE8 : Hid _ := HE7.out.next hg8 hblim
      clear h2 hd8 hg8 HD7 HE7
      have hzl : (runLen s.f z s.read : Int) ≤ z := by have := runLen_le s.f z s.read; omega
      go_upto_if 49 with fail
      go_cut [17] from 48 to 53 (fun pv wx => ∃ (p : Int) (σp : Src), pv = .int .i64 p ∧ Hid (placeF zs x z s σa = (p, σp)) ∧ (-10 ≤ p ∧ p ≤ 30000000) ∧ EvBox lim lim ⟨1, 0, [], 0⟩ none 0 wx ∧ DrawB w0 w b a zs.length cap x z B s v got (.slice av k cp) G σp wx)
      case first =>
        by_cases e3 : r3 = 0
        · have b3 : (r3 == 0) = true := by simpa using e3
          have hnx := l5Next_any w8 B _ x z s v got HD8.out.bf
          rw [← hρ.out] at hnx
          obtain ⟨ℓ, hℓ⟩ : ∃ ℓ : Nat, Hid (ℓ = runLen s.f z s.read) := ⟨_, rfl⟩
          rw [← hℓ.out] at hnx hzl
          have h3 := HNX.out _ σd 3 HD8.out.dr (by omega) (by omega)
          have HPL : Hid (∀ (r4 : Int) (σe : Src), nextF zs σd 3 = (r4, σe) → placeF zs x z s σa = (ρ + (ℓ : Int) - r4, σe)) := by
            intro r4 σe h4
            unfold placeF
            rw [HR1.out]
            simp only
            rw [HR2.out]
            simp only
            rw [HR3.out]
            simp only
            rw [if_pos e3, h4, hρ.out, hℓ.out]
          have HQ3 : Hid _ := e3
          clear e3
          rw [b3]
          go_wp2_with fail
          refine hnx.mono ?_
          rintro e w9 ⟨rfl, hw9⟩
          subst hw9
          go_wp2_with fail
          refine h3.mono ?_
          rintro e w10 ⟨r4, σe, rfl, HR4, r40, r41, hd10, hg10⟩
          have hD10 := HD8.out.next hd10 hg10
          have hE10 := HE8.out.next hg10 hblim
          have hwc : IntKind.i64.wrap (ρ + (ℓ : Int) - r4) = ρ + (ℓ : Int) - r4 := by rw [IntKind.wrap_i64]; omega
          have HPP : Hid _ := HPL.out r4 σe HR4.out
          clear h3 hnx
          go_wp2_with fail
          go_meet
          case rel => exact ⟨_, σe, rfl, HPP, ⟨by omega, by omega⟩, hE10, hD10⟩
        · have b3 : (r3 == 0) = false := by simpa using e3
          have HPP : Hid (placeF zs x z s σa = (ρ + r1 - r2, σd)) := by
            unfold Hid placeF
            rw [HR1.out]
            simp only
            rw [HR2.out]
            simp only
            rw [HR3.out]
            simp only
            rw [if_neg e3, hρ.out]
          have HQ3 : Hid _ := e3
          clear e3
          rw [b3]
          go_wp2_with fail
          go_meet
          case rel => exact ⟨_, σd, rfl, HPP, ⟨by omega, by omega⟩, HE8.out, HD8.out⟩
      case rest =>
      obtain ⟨p, σp, rfl, HPP, hpb, hE9, hD9⟩ := hcut
      have HD9 : Hid _ := hD9
      have HE9 : Hid _ := hE9
      obtain ⟨P, hP⟩ : ∃ P : Nat, Hid ((P : Int) = posF p) := ⟨(posF p).toNat, by unfold Hid posF; split <;> omega⟩
      have hP3 : P ≤ 30000000 := by have h := hP.out; unfold posF at h; split at h <;> omega
      clear hD9 hE9 HD8 HE8 HR1 HR2 HR3 hr1 hr2 r30 r31
      go_upto_if 55 with fail
      go_cut [17] from 54 to 55 (fun pv wx => pv = .int .i64 (P : Int) ∧ wc = wx)
      case first =>
        by_cases hp0 : p < 0
        · have dp : decide (p < 0) = true := by rw [decide_eq_true_iff]; exact hp0
          have hPz : P = 0 := by have h := hP.out; unfold posF at h; rw [if_pos hp0] at h; omega
          rw [dp]
          go_wp2_with fail
          go_meet
          case rel => exact ⟨by rw [hPz]; rfl, rfl⟩
        · have dp : decide (p < 0) = false := by rw [decide_eq_false_iff_not]; exact hp0
          have hPz : p = (P : Int) := by have h := hP.out; unfold posF at h; rw [if_neg hp0] at h; omega
          have HPZ : Hid _ := hPz
          clear hPz
          rw [dp]
          go_wp2_with fail
          go_meet
          case rel => exact ⟨by rw [HPZ.out], rfl⟩
      case rest =>
      obtain ⟨rfl, hwe⟩ := hcut
      subst hwe
      have h12 := HNX.out _ σp 12 HD9.out.dr (by omega) (by omega)
      go_wp2_with fail
      refine h12.mono ?_
      rintro e w11 ⟨r5, σq, rfl, HR5, r50, r51, hd11, hg11⟩
      have HD11 : Hid _ := HD9.out.next hd11 hg11
      have HE11 : Hid _ := HE9.out.next hg11 hblim
      obtain ⟨M, hM⟩ : ∃ M : Nat, Hid ((M : Int) = 1 + r5) := ⟨(1 + r5).toNat, by unfold Hid; omega⟩
      have hMw : IntKind.i64.wrap (1 + r5) = (M : Int) := by rw [IntKind.wrap_i64, hM.out]; omega
      have hMe : 1 + r5 = (M : Int) := by rw [hM.out]
      have hM3 : M ≤ 12 := by have := hM.out; omega
      obtain ⟨T, hT⟩ : ∃ T : Nat, Hid (T = (min ((P : Int) + (1 + r5)) EN - P).toNat) := ⟨_, rfl⟩
      have hT3 : T ≤ 12 := by have := hT.out; have := hM.out; omega
      have hPM : IntKind.i64.wrap ((P : Int) + (M : Int)) = (P : Int) + (M : Int) := by rw [IntKind.wrap_i64]; omega
      have HEV1 : Hid _ := HEV0.out p r5 σp σq HPP.out HR5.out
      clear h12 hd11 hg11 HD9 HE9 HEV0 HPP
      go_wp2_with fail
      go_loopw [19] (fun xv wr => ∃ (j : Nat) (da : Option Addr) (dc : Nat), j ≤ T ∧ xv = .int .i64 ((P + j : Nat) : Int) ∧ Hid (EvBox lim lim ⟨1, 0, (List.range j).map (fun (i : Nat) => byteF ((P : Int) + i)), 0⟩ da dc wr) ∧ Hid (DrawB w0 w b a zs.length cap x z B s v got (.slice av k cp) G σq wr)) (fun xv _ => P + T - (intOf xv).toNat)
      case atStart => exact ⟨0, none, 0, Nat.zero_le _, by simp, HE11, HD11⟩
      case round =>
      clear HD11 HE11
      obtain ⟨j, da, dc, hj, rfl, HEJ, HDJ⟩ := hrel
      obtain ⟨⟨f0, f1, f2, f3⟩, ff0, ff1, ff2, ff3⟩ := cells4r HEJ.out.box
      simp only [List.length_map, List.length_range] at f0 f1 f2 f3
      obtain ⟨X, hX⟩ : ∃ X, Hid (X = P + j) := ⟨_, rfl⟩
      rw [← hX.out]
      have hX3 : X ≤ 40000000 := by have := hX.out; omega
      by_cases hjT : j < T
      case pos =>
        have g1 : decide ((X : Int) < (P : Int) + (M : Int)) = true := by rw [decide_eq_true_iff]; have := hX.out; have := hT.out; have := hM.out; omega
        have g2 : decide ((X : Int) < EN) = true := by rw [decide_eq_true_iff]; have := hX.out; have := hT.out; omega
        have hyf := byteF_fits (X : Int)
        obtain ⟨y, hy⟩ : ∃ y, Hid (y = byteF (X : Int)) := ⟨_, rfl⟩
        rw [← hy.out] at hyf
        have hrow := HEJ.out.row
        simp only [List.length_map, List.length_range] at hrow
        have hrow5 : (wr.alloc (.cells #[.int .u8 y] 5)).drew.ownsRow lim 5 1 (.slice da j dc) j (((List.range j).map fun (i : Nat) => byteF ((P : Int) + i)).map (.int .u8)) := own_drew (own_alloc hrow _)
        have ht5 : (wr.alloc (.cells #[.int .u8 y] 5)).drew.cell? ⟨wr.heap.size, 0, none⟩ = some (.int .u8 y) := Go.Joins.cell_of_block (box_new wr (.cells #[.int .u8 y] 5) wr.heap.size rfl) 0
        have hElt : lim < wr.heap.size := (Array.getElem?_eq_some_iff.1 HEJ.out.box).1
        have hb5 : lim ≤ (wr.alloc (.cells #[.int .u8 y] 5)).drew.heap.size := by simp; omega
        have HKEEP : Hid (∀ (w4 : World), (wr.alloc (.cells #[.int .u8 y] 5)).drew.grownBy w4 (Value.slice da j dc).ownBlock → w4.heap[lim]? = some (.cells #[.int .i64 1, .int .u64 0, .slice da j dc, .int .i64 0] 48 (0, 0))) := by
          intro w4 hg4
          have hb := HEJ.out.box
          simp only [List.length_map, List.length_range] at hb
          refine (hg4.block lim (by simp; omega) (fun e => ?_)).trans ((Below.heap_alloc _ _ _ hElt).trans hb)
          obtain ⟨c2, hc2⟩ := row_block hrow e.symm
          exact type_ne hb hc2 (by decide) rfl
        have HPUSH : Hid (∀ (w4 : World) (g4 cap4 : Nat), w4.ownsRow lim 5 1 (.slice (some ⟨g4, 0, none⟩) (j + 1) cap4) (j + 1) ((((List.range j).map fun (i : Nat) => byteF ((P : Int) + i)) ++ [y]).map (.int .u8)) → (wr.alloc (.cells #[.int .u8 y] 5)).drew.grownBy w4 (Value.slice da j dc).ownBlock → EvBox lim lim ⟨1, 0, (List.range (j + 1)).map (fun (i : Nat) => byteF ((P : Int) + i)), 0⟩ (some ⟨g4, 0, none⟩) cap4 (w4.setCell ⟨lim, 2, none⟩ (.slice (some ⟨g4, 0, none⟩) (j + 1) cap4)) ∧ DrawB w0 w b a zs.length cap x z B s v got (.slice av k cp) G σq (w4.setCell ⟨lim, 2, none⟩ (.slice (some ⟨g4, 0, none⟩) (j + 1) cap4))) := by
          intro w4 g4 cap4 ho4 hg4
          have hb4 := HKEEP.out w4 hg4
          obtain ⟨c2, hc2⟩ := row_block ho4 (k := g4) rfl
          have hne : g4 ≠ lim := type_ne hc2 hb4 (by decide)
          have hlist : (List.range (j + 1)).map (fun (i : Nat) => byteF ((P : Int) + i)) = ((List.range j).map fun (i : Nat) => byteF ((P : Int) + i)) ++ [y] := by
            rw [List.range_succ, List.map_append, hy.out, hX.out]
            simp
          refine ⟨⟨?_, ?_, Nat.le_refl _⟩, ?_⟩
          · rw [heap_setCell_same w4 lim 2 _ _ _ hb4]
            simp
          · simp only [List.length_map, List.length_range]
            rw [hlist]
            refine row_stays ho4 fun k' hk' => ?_
            have e : g4 = k' := by simpa [Value.ownBlock] using hk'
            exact heap_setCell_other _ _ _ _ (by rw [← e]; exact hne)
          · refine HSETD.out _ _ 2 _ ?_
            refine ((HDJ.out.alloc (.cells #[.int .u8 y] 5)).drew).grown hg4 fun k' hk' => ?_
            obtain ⟨lB, lv, le, lp, lw⟩ := HLT.out
            have h1 := (hrow.lt k' hk').1
            exact ⟨by omega, by omega, fun e => by have := lv _ e; omega, fun e => by have := le _ e; omega, fun p' hp' e => by have := lp p' hp' _ e; omega⟩
        have HC4 : Hid (∀ (w4 : World), (wr.alloc (.cells #[.int .u8 y] 5)).drew.grownBy w4 (Value.slice da j dc).ownBlock → w4.cell? ⟨lim, 2, none⟩ = some (.slice da j dc) ∧ w4.frozen? ⟨lim, 2, none⟩ = false) := fun w4 hg4 => ⟨Go.Joins.cell_of_block (HKEEP.out w4 hg4) 2, Go.Joins.unfrozen_of_block (HKEEP.out w4 hg4) _⟩
        have hl5 : j ≤ 1048576 := by omega
        clear hrow f0 f1 f3 ff0 ff1 ff3
        go_wp2_with fail
        go_region_law (first
          | (refine step_byte _ (by rfl) _ (by rfl) (X : Int) (by rfl) (by omega) (by omega) ?_; rw [← hy.out])
          | (refine step_app8 (wr.alloc (.cells #[.int .u8 y] 5)).drew (by rfl) _ _ (by rfl) lim da j dc ((List.range j).map fun (i : Nat) => byteF ((P : Int) + i)) y (by rfl) hrow5 ⟨wr.heap.size, 0, none⟩ (by rfl) ht5 hl5 hb5 ?_; intro g4 cap4 w4 ho4 hg4; obtain ⟨qc, qf⟩ := HC4.out w4 hg4))
        all_goals
          obtain ⟨hEn, hDn⟩ := HPUSH.out w4 g4 cap4 ho4 hg4
          go_wp2_with fail
          go_roundw
          case rel => exact ⟨j + 1, _, _, by omega, by rw [hX.out]; go_num, hEn, hDn⟩
          case measure => simp [intOf]; have := hX.out; omega
      case neg =>
        obtain rfl : j = T := by omega
        have hxw : IntKind.u64.wrap (x + (P : Int)) = x + (P : Int) := by rw [IntKind.wrap_u64]; omega
        have hPw : IntKind.u64.wrap (P : Int) = (P : Int) := by rw [IntKind.wrap_u64]; omega
        have HEF : Hid _ := HEJ.out.off (x + (P : Int))
        have HDF : Hid _ := HSETD.out _ _ 1 (.int .u64 (x + (P : Int))) HDJ.out
        have hdt : (List.range j).map (fun (i : Nat) => byteF ((P : Int) + i)) = dataF EN (P : Int) (1 + r5) := by unfold dataF; rw [← hT.out]
        have HEVF : Hid (evFn zs x z EN s σk = (⟨1, x + (P : Int), (List.range j).map (fun (i : Nat) => byteF ((P : Int) + i)), 0⟩, σq)) := by
          unfold Hid
          rw [HEV1.out, hdt, ← hP.out]
        have HDRN : Hid (DrawnE x ⟨1, x + (P : Int), (List.range j).map (fun (i : Nat) => byteF ((P : Int) + i)), 0⟩) := by
          unfold Hid
          rw [hdt]
          exact drawn_piece x0 x1 (by omega) (by omega) (by omega) (by omega)
        clear hdt
        by_cases h1 : (X : Int) < (P : Int) + (M : Int)
        · have g1 : decide ((X : Int) < (P : Int) + (M : Int)) = true := by rw [decide_eq_true_iff]; exact h1
          have g2 : decide ((X : Int) < EN) = false := by rw [decide_eq_false_iff_not]; have := hX.out; have := hT.out; have := hM.out; omega
          go_wp2_with fail
          go_meet
          case rel => exact ⟨_, da, dc, σq, HEVF, HDRN.out, HEF.out, HDF.out⟩
        · have g1 : decide ((X : Int) < (P : Int) + (M : Int)) = false := by rw [decide_eq_false_iff_not]; exact h1
          go_wp2_with fail
          go_meet
          case rel => exact ⟨_, da, dc, σq, HEVF, HDRN.out, HEF.out, HDF.out⟩
    case neg =>
    have d60 : decide (q < 60) = false := by rw [decide_eq_false_iff_not]; exact q60
    by_cases q90 : q < 90
    case pos =>
      have d90 : decide (q < 90) = true := by rw [decide_eq_true_iff]; exact q90
      have hD6 := HSETD.out _ _ 0 (.int .i64 2) HD5.out
      have hE6 := HE5.out.kd 2
      have h20 := HNX.out _ σa 20 hD6.dr (by omega) (by omega)
      have HD6 : Hid _ := hD6
      have HE6 : Hid _ := hE6
      clear hD6 hE6 c3
      go_wp2_with fail
      refine h20.mono ?_
      rintro e w6 ⟨r, σb, rfl, HR, r0, r1, hd6, hg6⟩
      have hD7 := HD6.out.next hd6 hg6
      have hE7 := HE6.out.next hg6 hblim
      obtain ⟨⟨f0, f1, f2, f3⟩, ff0, ff1, ff2, ff3⟩ := cells4r hE7.box
      have hD8 := HSETD.out _ _ 3 (.int .i64 (r - 1)) hD7
      have hE8 := hE7.n (r - 1)
      have HEV : Hid (evFn zs x z EN s σk = (⟨2, 0, [], r - 1⟩, σb)) := by unfold Hid evFn; rw [HA1.out]; simp only; rw [if_neg (by omega), if_pos (by omega), HR.out]
      have hw1 : IntKind.i64.wrap (r - 1) = r - 1 := by rw [IntKind.wrap_i64]; omega
      clear h20 hD7 hE7 e0 e1 e2 e3 ef0 ef1 ef2 ef3
      go_wp2_with fail
      go_meet
      case rel => exact ⟨_, _, _, _, HEV, drawn_plain (.inr (.inl rfl)) (by omega) (by omega) (by omega) (by omega), hE8, hD8⟩
    case neg =>
    have d90 : decide (q < 90) = false := by rw [decide_eq_false_iff_not]; exact q90
    have hw2 : IntKind.i64.wrap (ρ + (z : Int)) = ρ + (z : Int) := by rw [IntKind.wrap_i64]; omega
    have HEND : Hid ((q < 96 ∧ EN ≤ s.read - x + z) ∨ q = 96 → evFn zs x z EN s σk = (⟨3, x + EN, [], 0⟩, σa)) := fun h => by unfold evFn; rw [HA1.out]; simp only; rw [if_neg q60, if_neg q90, if_pos h]
    have HNOT : Hid (¬ ((q < 96 ∧ EN ≤ s.read - x + z) ∨ q = 96) → evFn zs x z EN s σk = (⟨1, 0, [], 0⟩, σa)) := fun h => by unfold evFn; rw [HA1.out]; simp only; rw [if_neg q60, if_neg q90, if_neg h]
    have HD7 : Hid _ := HSETD.out _ _ 1 (.int .u64 (x + EN)) (HSETD.out _ _ 0 (.int .i64 3) HD5.out)
    have HE7 : Hid _ := (HE5.out.kd 3).off (x + EN)
    have hw3 : IntKind.u64.wrap EN = EN := by rw [IntKind.wrap_u64]; omega
    have hw4 : IntKind.u64.wrap (x + EN) = x + EN := by rw [IntKind.wrap_u64]; omega
    by_cases q96 : q < 96
    · have d96 : decide (q < 96) = true := by rw [decide_eq_true_iff]; exact q96
      by_cases hen : EN ≤ ρ + z
      · have den : decide (EN ≤ ρ + (z : Int)) = true := by rw [decide_eq_true_iff]; exact hen
        have HEV : Hid _ := HEND.out (.inl ⟨q96, by rw [← hρ.out]; exact hen⟩)
        go_wp2_with fail
        go_meet
        case rel => exact ⟨_, _, _, _, HEV, drawn_plain (.inr (.inr rfl)) (by omega) (by omega) (by omega) (by omega), HE7.out, HD7.out⟩
      · have den : decide (EN ≤ ρ + (z : Int)) = false := by rw [decide_eq_false_iff_not]; exact hen
        have d96' : (q == 96) = false := by simp; omega
        have HEV : Hid _ := HNOT.out (fun h => by rw [← hρ.out] at h; omega)
        go_wp2_with fail
        go_meet
        case rel => exact ⟨_, _, _, _, HEV, drawn_plain (.inl rfl) (by omega) (by omega) (by omega) (by omega), HE5.out, HD5.out⟩
    · have d96 : decide (q < 96) = false := by rw [decide_eq_false_iff_not]; exact q96
      by_cases e96 : q = 96
      · have d96' : (q == 96) = true := by simpa using e96
        have HEV : Hid _ := HEND.out (.inr e96)
        have HQ : Hid _ := e96
        clear e96
        go_wp2_with fail
        go_meet
        case rel => exact ⟨_, _, _, _, HEV, drawn_plain (.inr (.inr rfl)) (by omega) (by omega) (by omega) (by omega), HE7.out, HD7.out⟩
      · have d96' : (q == 96) = false := by simpa using e96
        have HEV : Hid _ := HNOT.out (fun h => by omega)
        go_wp2_with fail
        go_meet
        case rel => exact ⟨_, _, _, _, HEV, drawn_plain (.inl rfl) (by omega) (by omega) (by omega) (by omega), HE5.out, HD5.out⟩
  case rest =>
  obtain ⟨e, da, dc, σb, HEV, hDE, hEB, hDB⟩ := hcut
  have hin := rinv_at (z := z) x0 (G.map (·.1)) (by
    intro e' he' v hv
    obtain ⟨p, hp, rfl⟩ := List.mem_map.1 he'
    exact (HDR.out p hp).ok.dv v hv)
  rw [List.length_map, HGK.out, ← HST.out] at hin
  have hso := stepOk_of hin x0 x1 (by omega) (by omega) hDE.ok
  have hr9 : s.read + z ≤ x + 20000000 := by
    have h1 : k * z ≤ 200 * 60 := Nat.mul_le_mul (by omega) (by omega)
    have h2 := hin.hi
    rw [← Int.natCast_mul] at h2
    omega
  have hcall := l5Step_any wc B w.heap.size x z s v got hDB.bf hDB.size e hso hr9 da dc (Ints.ofRow hEB.row) (fun b' o' ha => by
    have hob : (Value.slice da e.dat.length dc).ownBlock = some b' := by simp only [Value.ownBlock, ha]
    obtain ⟨cs, hcs⟩ := row_block hEB.row hob
    refine ⟨type_ne hcs hDB.bf.blk (by decide), fun e9 => ?_, (hEB.row.lt b' hob).2⟩
    obtain ⟨c9, hc9⟩ := row_block hDB.bf.row e9
    exact type_ne hcs hc9 (by decide) rfl)
  obtain ⟨⟨f0, f1, f2, f3⟩, _⟩ := cells4r hEB.box
  have HDB : Hid _ := hDB
  have HEB : Hid _ := hEB
  have HDE : Hid _ := hDE
  obtain ⟨Q, hQ⟩ : ∃ Q, Hid (Q = stepR z s e) := ⟨_, rfl⟩
  rw [← hQ.out] at hcall
  obtain ⟨kd, off, dat, nn⟩ := e
  simp only [evV] at hcall f0 f1 f2 f3
  obtain ⟨dl, hdl⟩ : ∃ dl, Hid (dl = dat.length) := ⟨_, rfl⟩
  rw [← hdl.out] at hcall f2
  clear hDB hEB hDE hin hso hr9
  go_wp2_with fail
  refine hcall.mono ?_
  rintro e9 w12 ⟨dva, dvc, v', got', rfl, hs12⟩
  have hD12 := HDB.out.step hs12
  have hE12 := HEB.out.step HDB.out.bf hs12
  obtain ⟨⟨g0, g1, g2, g3⟩, _⟩ := cells4r hE12.box
  simp only at g0 g1 g2 g3
  rw [← hdl.out] at g2
  have HD12 : Hid _ := hD12
  have HE12 : Hid _ := hE12
  have hrow := hD12.ev.row
  rw [HGK.out] at hrow
  have hsz12 := hD12.size
  have hnb := box_new w12 (.cells #[.int .i64 kd, .int .u64 off, .slice da dl dc, .int .i64 nn] 48) _ rfl
  clear hcall hs12 hD12 hE12 f0 f1 f2 f3
  go_wp2_with (at_builtin; refine wpList_appE _ (by rfl) _ _ (by rfl) w.heap.size av k cp (flatE G) (by rfl) (own_alloc hrow _) w12.heap.size _ _ _ _ (by rfl) hnb (by simp [Value.oneCell']) (by omega) (by simp; omega) ?_; intro g9 cap' w13 ho13 hg13)
  obtain ⟨lB, lv, le, lp, lw⟩ := HLT.out
  have hP := EvsR.push (p := (⟨kd, off, dat, nn⟩, da, dc)) (lim := lim) (base := w.heap.size) (ov := .slice av k cp) (G := G) (g := g9) (cap := cap') (w := w12.alloc (.cells #[.int .i64 kd, .int .u64 off, .slice da dl dc, .int .i64 nn] 48)) (w' := w13)
    (HD12.out.alloc _).ev lw (own_alloc HE12.out.row _) lp hg13 (by rw [HGK.out]; simp only [evP]; rw [← hdl.out]; exact ho13)
  rw [HGK.out] at hP
  have hD13 : DrawB w0 w b a zs.length cap x z B Q.2 v' got' (.slice (some ⟨g9, 0, none⟩) (k + 1) cap') (G ++ [(⟨kd, off, dat, nn⟩, da, dc)]) σb w13 := by
    have hA := HD12.out.alloc (.cells #[.int .i64 kd, .int .u64 off, .slice da dl dc, .int .i64 nn] 48)
    have hevb : ∀ j, (Value.slice av k cp).ownBlock = some j → w.heap.size ≤ j := fun j hj => (hrow.lt j hj).1
    have hk : ∀ {j : Nat} {cs : Array Value} {t : TypeId}, (w12.alloc (.cells #[.int .i64 kd, .int .u64 off, .slice da dl dc, .int .i64 nn] 48)).heap[j]? = some (.cells cs t (0, 0)) → t ≠ 48 → w13.heap[j]? = (w12.alloc (.cells #[.int .i64 kd, .int .u64 off, .slice da dl dc, .int .i64 nn] 48)).heap[j]? := fun {j cs t} hc ht => hg13.block j (Array.getElem?_eq_some_iff.1 hc).1 (fun e9 => by
      obtain ⟨c9, hc9⟩ := row_block hA.ev.row e9.symm
      exact type_ne hc hc9 ht rfl)
    refine ⟨hA.dr.grown hg13 fun j hj => ⟨by have := hevb j hj; have := hA.dr.new; have := hA.hb; omega, by have := hevb j hj; have := hA.hb; omega⟩, hA.bf.kept (hk hA.bf.blk (by decide)) fun j hj => ?_, hP, grown_past hA.gr hg13 hevb, hA.hb, hA.hB⟩
    obtain ⟨c9, hc9⟩ := row_block hA.bf.row hj
    exact hk hc9 (by decide)
  have HD13 : Hid _ := hD13
  clear hP hD13 hrow hg13 ho13 lB lv le lp lw g0 g1 g2 g3
  go_roundw
  case rel =>
    refine ⟨k + 1, _, _, G ++ [(⟨kd, off, dat, nn⟩, da, dc)], Q.2, v', got', σb, by omega, by go_num, rfl, ?_, ?_, ?_, ?_, HD13⟩
    · unfold Hid; rw [List.length_append, HGK.out]; rfl
    · unfold Hid
      rw [evsFn, HEVS.out]
      simp only
      rw [← HST.out, HEV.out, List.map_append]
      rfl
    · unfold Hid
      rw [List.map_append, show List.map (·.1) [((⟨kd, off, dat, nn⟩ : REv), da, dc)] = [⟨kd, off, dat, nn⟩] from rfl, stateR_snoc, ← HST.out, ← hQ.out]
    · unfold Hid
      intro p hp
      rcases List.mem_append.1 hp with hp | hp
      · exact HDR.out p hp
      · simp at hp; rw [hp]; exact HDE.out
  case measure => simp [intOf]; omega
end Go.Proofs.Ytpeecjoadgefjaa
