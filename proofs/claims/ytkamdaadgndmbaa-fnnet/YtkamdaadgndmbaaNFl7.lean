import Derived.Test.YtkamdaadgndmbaaNFl6
namespace Go.Proofs.Ytkamdaadgndmbaa
open Go.ChangeShapes Go.WideShapes Go.ChangeAt Go.RowKit
set_option linter.unusedVariables false

/-- What is told of the first m bags. -/
def toldU (s : NS) (m : Nat) : List (Int × Int × Int × List (List Int)) := (List.range m).map fun j => (((j / 2 : Nat) : Int), ((j % 2 : Nat) : Int), s.cut ((j / 2 : Nat) : Int), s.bag ((j / 2 : Nat) : Int) ((j % 2 : Nat) : Int))
theorem toldU_succ (s : NS) (i d : Nat) (hd : d < 2) : toldU s (2 * i + d + 1) = toldU s (2 * i + d) ++ [((i : Int), (d : Int), s.cut i, s.bag i d)] := by
  unfold toldU
  rw [List.range_succ, List.map_append, List.map_singleton]
  have e1 : (2 * i + d) / 2 = i := by omega
  have e2 : (2 * i + d) % 2 = d := by omega
  rw [e1, e2]
theorem own_ne9 {w : World} {base : Nat} {e t : TypeId} {size : Nat} {u : Value} {n k : Nat} {xs : List Value} {cs : Array Value} {f : Nat × Nat} (h : w.ownsRow base e size u n xs) (hk : w.heap[k]? = some (.cells cs t f)) (hne : e ≠ t) : u.ownBlock ≠ some k := fun e' => by
  obtain ⟨cs', h'⟩ := row_block h e'
  exact type_ne h' hk hne rfl
theorem idx0 (a b : Value) (w : World) : (Instr.index 90 (.agg #[a, b]) (.int .i64 0)).run Try.prog w = .ok (.agg #[a]) w := by kernel_rfl
theorem idx1 (a b : Value) (w : World) : (Instr.index 90 (.agg #[a, b]) (.int .i64 1)).run Try.prog w = .ok (.agg #[b]) w := by kernel_rfl
theorem slice_none {w : World} {base : Nat} {e : TypeId} {size n c : Nat} {xs : List Value} (h : w.ownsRow base e size (.slice none n c) n xs) : c = 0 := by
  rcases h.2 with ⟨e1, _⟩ | ⟨g, cap, cur, e1, _⟩
  · simp only [Value.slice.injEq] at e1; exact e1.2.2
  · simp at e1
set_option maxHeartbeats 2000000 in
set_option maxRecDepth 100000 in
theorem flight_any (NB X base n : Nat) (s : NS) (L : List Lk) (w : World) (h : NetAt w X base s L) (hinv : InvN s) (hnb : w.heap[NB]? = some (.cells #[.slice (some ⟨X, 0, none⟩) n n] 62 (0, 0))) (hL : L.length = n) (hn8 : n ≤ 8) :
    Calls Try.prog 26 #[.pointer (some ⟨NB, 0, none⟩)] w fun e w' => ∃ oa oc F, e = .returned (.slice oa (2 * n) oc) ∧ F.length = 2 * n ∧ OutsF w' w.heap.size (.slice oa (2 * n) oc) F ∧ F.map FB.told = toldU s (2 * n) ∧ Below w.heap.size w w' := by
  have n0 : w.cell? ⟨NB, 0, none⟩ = some (.slice (some ⟨X, 0, none⟩) n n) := Go.Joins.cell_of_block hnb 0
  have HL : Hid _ := hL
  have hX := h.blk
  have H : Hid _ := h
  clear hL h
  go_enter Try.func26, Try.ntmps26
  go_wp2_with fail
  go_loopw [3, 16] (fun ov iv wr => ∃ (i : Nat) (oa : Option Addr) (oc : Nat) (F : List FB), i ≤ n ∧ iv = .int .i64 (i : Int) ∧ ov = .slice oa (2 * i) oc ∧ Hid (F.length = 2 * i) ∧ OutsF wr w.heap.size (.slice oa (2 * i) oc) F ∧ Hid (F.map FB.told = toldU s (2 * i)) ∧ Below w.heap.size w wr) (fun _ iv _ => n - (intOf iv).toNat)
  case atStart => exact ⟨0, none, 0, [], Nat.zero_le _, rfl, rfl, rfl, ⟨World.ownsRow_nil _ _ _ _, ⟨by simp [bgs], by simp [bgs], by simp [bgs], by simp [bgs]⟩⟩, rfl, Below.refl _ _⟩
  case round =>
  obtain ⟨i, oa, oc, F, hi, rfl, rfl, hFl, hF, hFt, hb⟩ := hrel
  by_cases hlt : i < n
  · have hii : (i : Int) < (n : Int) := by omega
    have hiL : i < L.length := by have := HL.out; omega
    have hXr := (hb.block X (Array.getElem?_eq_some_iff.1 hX).1).trans hX
    obtain ⟨f0, f1, f2⟩ := flatL_at hiL
    have x0 : wr.cell? ⟨X, i * 3, none⟩ = some (.int .i64 (L[i]).cut) := by rw [Go.Joins.cell_of_block hXr, List.getElem?_toArray, f0]
    have x1 : wr.cell? ⟨X, i * 3 + 1, none⟩ = some (L[i]).b0.1 := by rw [Go.Joins.cell_of_block hXr, List.getElem?_toArray, f1]
    have x2 : wr.cell? ⟨X, i * 3 + 2, none⟩ = some (L[i]).b1.1 := by rw [Go.Joins.cell_of_block hXr, List.getElem?_toArray, f2]
    obtain ⟨v0a, v0c, e0⟩ := own_shape (H.out.row hiL (d := 0) (by omega))
    obtain ⟨v1a, v1c, e1⟩ := own_shape (H.out.row hiL (d := 1) (by omega))
    obtain ⟨m0, hm0'⟩ : ∃ m, ((L[i]).bag 0).2.length = m := ⟨_, rfl⟩
    have hm0 : Hid _ := hm0'
    obtain ⟨m1, hm1'⟩ : ∃ m, ((L[i]).bag 1).2.length = m := ⟨_, rfl⟩
    have hm1 : Hid _ := hm1'
    rw [hm0.out] at e0
    rw [hm1.out] at e1
    have e0' : (L[i]).b0.1 = .slice v0a m0 v0c := e0
    have e1' : (L[i]).b1.1 = .slice v1a m1 v1c := e1
    rw [e0'] at x1
    rw [e1'] at x2
    obtain ⟨ct, hct'⟩ : ∃ ct, (L[i]).cut = ct := ⟨_, rfl⟩
    have hct : Hid _ := hct'
    rw [hct.out] at x0
    clear f0 f1 f2 hm0' hm1' hct'
    have HSEL : Hid (∀ d : Nat, d < 2 → ∃ va mm vc, ((L[i]).bag d).1 = .slice va mm vc ∧ ((L[i]).bag d).2.length = mm ∧ ∀ w, (Instr.index 90 (.agg #[.slice v0a m0 v0c, .slice v1a m1 v1c]) (.int .i64 (d : Int))).run Try.prog w = .ok (.agg #[.slice va mm vc]) w) := by
      intro d hd
      rcases (show d = 0 ∨ d = 1 by omega) with rfl | rfl
      · exact ⟨v0a, m0, v0c, e0, hm0.out, fun w => idx0 _ _ w⟩
      · exact ⟨v1a, m1, v1c, e1, hm1.out, fun w => idx1 _ _ w⟩
    go_upto_region 5 with fail
    obtain ⟨b5, hb5⟩ : ∃ b, b = wr.heap.size := ⟨_, rfl⟩
    obtain ⟨V5, hV5⟩ : ∃ V, V = wr.alloc (.cells #[.int .i64 ct, .slice v0a m0 v0c, .slice v1a m1 v1c] 92) := ⟨_, rfl⟩
    have h50 : V5.heap[b5]? = some (.cells #[.int .i64 ct, .slice v0a m0 v0c, .slice v1a m1 v1c] 92 (0, 0)) := by rw [hV5, hb5]; exact heap_alloc_new _ _
    have hbV : Below w.heap.size w V5 := by rw [hV5]; exact hb.alloc hb.size _
    have hFV : OutsF V5 w.heap.size (.slice oa (2 * i) oc) F := by rw [hV5]; exact hF.keep fun k _ hk => Below.heap_alloc _ _ _ hk
    have hwr5 : w.heap.size ≤ b5 := by rw [hb5]; exact hb.size
    rw [← hV5, ← hb5]
    clear hV5 hb5 hF hb x0 x1 x2 hXr
    obtain ⟨⟨y0, y1, y2⟩, _⟩ := cells3r h50
    go_wp2_with fail
    go_loopw [3, 23] (fun ov dv w5 => ∃ (d : Nat) (oa : Option Addr) (oc : Nat) (F : List FB), d ≤ 2 ∧ dv = .int .i64 (d : Int) ∧ ov = .slice oa (2 * i + d) oc ∧ Hid (F.length = 2 * i + d) ∧ OutsF w5 w.heap.size (.slice oa (2 * i + d) oc) F ∧ Hid (F.map FB.told = toldU s (2 * i + d)) ∧ Below w.heap.size w w5 ∧ w5.heap[b5]? = some (.cells #[.int .i64 ct, .slice v0a m0 v0c, .slice v1a m1 v1c] 92 (0, 0))) (fun _ dv _ => 2 - (intOf dv).toNat)
    case atStart => exact ⟨0, oa, oc, F, by omega, rfl, rfl, hFl, hFV, hFt, hbV, h50⟩
    case round =>
    clear h50 hbV hFV y0 y1 y2 hFl hFt
    obtain ⟨d, oa2, oc2, F2, hd, rfl, rfl, hFl, hF, hFt, hb, h5⟩ := hrel
    by_cases hdlt : d < 2
    · have hdi : (d : Int) < 2 := by omega
      obtain ⟨va, mm, vc, ed, hmd', iX⟩ := HSEL.out d hdlt
      have hmd : Hid _ := hmd'
      clear hmd'
      obtain ⟨W6, rfl⟩ : ∃ W6, W6 = wr := ⟨_, rfl⟩
      have hrow0 := H.out.row hiL (d := d) hdlt
      have hdat0 := H.out.dat hiL (d := d) hdlt
      have hbag0 : ((L[i]).bag d).2.map (·.1) = s.bag (i : Int) (d : Int) := H.out.bag i hiL d hdlt
      obtain ⟨gg, hgg⟩ : ∃ gg, ((L[i]).bag d).2 = gg := ⟨_, rfl⟩
      rw [hgg] at hrow0 hdat0 hbag0
      rw [ed] at hrow0
      have hml : gg.length = mm := by rw [← hgg]; exact hmd.out
      have hm64 : mm ≤ 64 := by
        have h1 := hinv.len (i : Int) (d : Int)
        have h2 := congrArg List.length hbag0
        rw [List.length_map] at h2
        omega
      have hd64 : ∀ q ∈ gg, q.1.length ≤ 64 := fun q hq => (hinv.dat (i : Int) (d : Int) q.1 (by rw [← hbag0]; exact List.mem_map.2 ⟨q, hq, rfl⟩)).1
      rw [hml] at hrow0
      have HML : Hid _ := hml
      have HB0 : Hid _ := hbag0
      have HD64 : Hid _ := hd64
      clear hml hbag0 hd64 hgg
      go_upto_region 8 with fail
      obtain ⟨b7, hb7⟩ : ∃ b, b = W6.heap.size := ⟨_, rfl⟩
      obtain ⟨V7, hV7⟩ : ∃ V, V = W6.alloc (.cells #[.slice va mm vc] 89) := ⟨_, rfl⟩
      have h7 : V7.heap[b7]? = some (.cells #[.slice va mm vc] 89 (0, 0)) := by rw [hV7, hb7]; exact heap_alloc_new _ _
      have hs7 : Hid (V7.heap.size = W6.heap.size + 1) := by rw [hV7]; unfold Hid; simp
      have hB7 : Below W6.heap.size W6 V7 := by rw [hV7]; exact (Below.refl _ _).alloc (Nat.le_refl _) _
      have HLIM : Hid (b7 = W6.heap.size) := hb7
      rw [← hV7, ← hb7]
      clear hV7 hb7
      have h57 := (hB7.block b5 (Array.getElem?_eq_some_iff.1 h5).1).trans h5
      have y0 : V7.cell? ⟨b5, 0, none⟩ = some (.int .i64 ct) := Go.Joins.cell_of_block h57 0
      go_upto_region 9 with fail
      obtain ⟨T, hT⟩ : ∃ b, b = V7.heap.size := ⟨_, rfl⟩
      obtain ⟨V8, hV8⟩ : ∃ V, V = V7.alloc (.cells #[.int .i64 (i : Int), .int .i64 (d : Int), .int .i64 ct, .slice none 0 0] 41) := ⟨_, rfl⟩
      have h8 : V8.heap[T]? = some (.cells #[.int .i64 (i : Int), .int .i64 (d : Int), .int .i64 ct, .slice none 0 0] 41 (0, 0)) := by rw [hV8, hT]; exact heap_alloc_new _ _
      have hB8 : Below V7.heap.size V7 V8 := by rw [hV8]; exact (Below.refl _ _).alloc (Nat.le_refl _) _
      have hTl : W6.heap.size ≤ T := by have := hs7.out; omega
      have hB78 : Below W6.heap.size W6 V8 := hB7.trans (hB8.mono hB7.size)
      have hT0 : ToldB V8 W6.heap.size T (i : Int) (d : Int) ct none 0 [] := ⟨h8, ⟨World.ownsRow_nil _ _ _ _, by simp⟩, by simp, hTl⟩
      have h78 := (hB8.block b7 (Array.getElem?_eq_some_iff.1 h7).1).trans h7
      have y7 : V8.cell? ⟨b7, 0, none⟩ = some (.slice va mm vc) := Go.Joins.cell_of_block h78 0
      rw [← hV8, ← hT]
      clear hV8 hT h8 h7 hB8 hB7 h57 y0 hs7
      go_wp2_with fail
      have hsrc : ∀ wx, Below W6.heap.size W6 wx → Below w.heap.size w wx := fun wx hx => hb.trans (hx.mono hb.size)
      have HSRC : Hid _ := hsrc
      clear hsrc
      go_loopw [35] (fun kv wx => ∃ (kk : Nat) (ta : Option Addr) (tc : Nat) (G : Bg), kk ≤ mm ∧ kv = .int .i64 (kk : Int) ∧ Hid (G.length = kk) ∧ Hid (G.map (·.1) = (gg.take kk).map (·.1)) ∧ ToldB wx W6.heap.size T (i : Int) (d : Int) ct ta tc G ∧ Below W6.heap.size W6 wx) (fun kv _ => mm - (intOf kv).toNat)
      case atStart => exact ⟨0, none, 0, [], Nat.zero_le _, rfl, rfl, rfl, hT0, hB78⟩
      case round =>
      clear hT0 hB78 h78 y7
      obtain ⟨kk, ta, tc, G, hkk, rfl, hGl, hGm, hTo, hBx⟩ := hrel
      by_cases hkm : kk < mm
      · have hki : (kk : Int) < (mm : Int) := by omega
        have hkg : kk < gg.length := by have := HML.out; omega
        rcases hrow0.2 with ⟨e, _⟩ | ⟨g0, c0', cur, e, rest⟩
        · simp only [Value.slice.injEq] at e; omega
        simp only [Value.slice.injEq] at e
        obtain ⟨rfl, -, e9⟩ := e
        subst e9
        clear rest
        have hbx := HSRC.out wr hBx
        have c0 : w.cell? ⟨g0, kk, none⟩ = some (gg[kk]).2 := by rw [hrow0.cellAt kk (by omega), List.getElem?_map, List.getElem?_eq_getElem hkg]; rfl
        have hdk := hdat0 _ (List.getElem_mem hkg)
        have hd6 := HD64.out _ (List.getElem_mem hkg)
        have htake : (gg.take (kk + 1)).map (·.1) = (gg.take kk).map (·.1) ++ [(gg[kk]).1] := by rw [List.take_succ_eq_append_getElem hkg, List.map_append]; rfl
        obtain ⟨⟨y, dv⟩, hy0⟩ : ∃ q, gg[kk] = q := ⟨_, rfl⟩
        rw [hy0] at c0 hdk hd6 htake
        simp only at c0 hdk hd6 htake
        obtain ⟨dl, hdl⟩ : ∃ dl, y.length = dl := ⟨_, rfl⟩
        obtain ⟨da, dc, rfl⟩ := own_shape hdk
        rw [hdl] at c0 hdk hd6
        have c0 := (hbx.cell (World.block_lt_of_cell? _ _ c0)).trans c0
        have hnone : da = none → dc = 0 := fun e => by subst e; exact slice_none hdk
        have LC := copyB da y dl dc hdl wr.drew ((Ints.ofRow hdk).moved hbx.drew) (by omega) hnone
        have t3 := (cells4r hTo.box).1.2.2.2
        rw [hGl.out] at t3
        have t3d : wr.drew.cell? ⟨T, 3, none⟩ = some (.slice ta kk tc) := t3
        have hszx := hBx.size
        have HTO : Hid (∀ w9, Below wr.drew.heap.size wr.drew w9 → ToldB w9 W6.heap.size T (i : Int) (d : Int) ct ta tc G ∧ Below W6.heap.size W6 w9) := by
          unfold Hid
          intro w9 hb9
          have hb9' : Below wr.heap.size wr w9 := ⟨hb9.os, hb9.tape, hb9.output, hb9.size, hb9.block⟩
          exact ⟨hTo.below hb9', hBx.trans (hb9'.mono hBx.size)⟩
        have HT : Hid _ := htake
        have HLT : Hid (∀ q ∈ G, ∀ k, q.2.ownBlock = some k → k < wr.drew.heap.size) := fun q hq k hk => ((hTo.row.dat q hq).lt k hk).2
        have HDL : Hid _ := hdl
        clear htake hdl hdk hy0 hTo
        go_wp2_with fail
        go_region_law (first
          | (refine step_appB (w9.alloc (.cells #[.slice ya dl yc] 22)) (by rfl) _ _ (by rfl) W6.heap.size ta kk tc (G.map (·.2)) (by rfl) (own_alloc hrow9 _) w9.heap.size _ (by rfl) (heap_alloc_new w9 _) (by rfl) (by omega) (by simp; omega) ?_; intro g11 cap11 w11 ho11 hg11; have hi11 := (hg11.block T (by simp; omega) (fun e => own_ne9 hrow9 hT9.box (by decide) e.symm)).trans ((Below.heap_alloc w9 _ T hT9l).trans hT9.box); have s3 := Go.Joins.cell_of_block hi11 3; have sf := Go.Joins.unfrozen_of_block hi11 3)
          | (go_simp; go_at_call 43; with_reducible (refine Calls.mono LC ?_); rintro e w9 ⟨ya, yc, rfl, hyo, hb9⟩; dsimp only; obtain ⟨hT9, hB9⟩ := HTO.out w9 hb9; have u3 := (cells4r hT9.box).1.2.2.2; rw [hGl.out] at u3; have hT9l : T < w9.heap.size := (Array.getElem?_eq_some_iff.1 hT9.box).1; have hTn : ¬ T = w9.heap.size := (by omega); have hrow9 := hT9.row.row; rw [hGl.out] at hrow9; have hsz9 : W6.heap.size ≤ w9.heap.size := hB9.size))
        all_goals
          obtain ⟨hT7, _⟩ := hT9.push hGl.out (L := wr.drew.heap.size) (y := y) (dv := .slice ya dl yc) (by rw [HDL.out]; exact hyo) hszx HLT.out hg11 ho11
          have hB7 := ((hB9.alloc hsz9 _).grown hg11 (by simp; omega) (fun k hk => (hrow9.lt k hk).1)).setCell (p := ⟨T, 3, none⟩) hT9.ge (.slice (some ⟨g11, 0, none⟩) (kk + 1) cap11)
          go_wp2_with fail
          go_roundw
          case rel => exact ⟨kk + 1, some ⟨g11, 0, none⟩, cap11, G ++ [(y, .slice ya dl yc)], by omega, by go_num, by unfold Hid; rw [List.length_append, hGl.out]; rfl, by unfold Hid; rw [HT.out, List.map_append, hGm.out]; rfl, hT7, hB7⟩
          case measure => simp [intOf]; omega
      · obtain rfl : kk = mm := by omega
        have hkk' : ¬ (kk : Int) < (kk : Int) := by omega
        have hbx := HSRC.out wr hBx
        have hszx := hBx.size
        have hFx := hF.keep (w' := wr) fun k _ hk => hBx.block k hk
        obtain ⟨⟨q0, q1, q2, q3⟩, _⟩ := cells4r hTo.box
        rw [hGl.out] at q3
        have h5x := (hBx.block b5 (Array.getElem?_eq_some_iff.1 h5).1).trans h5
        have hrowF := hFx.row
        rw [hFl.out] at hrowF
        have HTOLD : Hid (FB.told ⟨(i : Int), (d : Int), ct, .slice ta G.length tc, G⟩ = ((i : Int), (d : Int), s.cut i, s.bag i (d : Int))) := by
          unfold Hid FB.told
          simp only
          rw [hGm.out, List.take_of_length_le (by have := HML.out; omega), HB0.out, ← hct.out, H.out.cut i hiL]
        have hFW : Hid (OutsF W6 w.heap.size (.slice oa2 (2 * i + d) oc2) F2) := hF
        clear hF q0 q1 q2
        obtain ⟨⟨q0, q1, q2, _⟩, _⟩ := cells4r hTo.box
        go_wp2_with (at_builtin; refine wpList_appF _ (by rfl) _ _ (by rfl) w.heap.size oa2 (2 * i + d) oc2 (flatF F2) (by rfl) (own_alloc hrowF _) wr.heap.size _ _ _ _ (by rfl) (heap_alloc_new wr _) (by simp [Value.oneCell']) (by omega) (by have := hbx.size; simp; omega) ?_; intro g9 cap9 w4 ho4 hg4)
        have hBa : Below wr.heap.size wr (wr.alloc (.cells #[.int .i64 (i : Int), .int .i64 (d : Int), .int .i64 ct, .slice ta kk tc] 41)) := (Below.refl _ _).alloc (Nat.le_refl _) _
        have hadd := OutsF.add (hFx.keep fun k _ hk => hBa.block k hk) hb.size (fun k cs t ht hbk ⟨b, hbm, hk⟩ hc => by
          rcases hk with hk | ⟨q, hq, hk⟩
          · exact ((hFW.out.bags.row b hbm).lt k hk).2
          · exact ((hFW.out.bags.dat b hbm q hq).lt k hk).2) (hTo.below hBa) hg4 (by rw [hFl.out, hGl.out]; exact ho4)
        rw [hFl.out] at hadd
        have hbw4 : Below w.heap.size w w4 := below_grown (hbx.alloc hbx.size _) (own_alloc hrowF _) hg4 (Nat.le_refl _) (by have := hbx.size; simp; omega)
        have h54 : w4.heap[b5]? = some (.cells #[.int .i64 ct, .slice v0a m0 v0c, .slice v1a m1 v1c] 92 (0, 0)) := by
          have hl5 := (Array.getElem?_eq_some_iff.1 h5x).1
          exact (hg4.block b5 (by simp; omega) (fun e => own_ne9 hrowF h5x (by decide) e.symm)).trans ((Below.heap_alloc _ _ _ hl5).trans h5x)
        go_wp2_with fail
        go_roundw
        case rel => exact ⟨d + 1, some ⟨g9, 0, none⟩, cap9, F2 ++ [⟨(i : Int), (d : Int), ct, .slice ta G.length tc, G⟩], by omega, by go_num, rfl, by unfold Hid; rw [List.length_append, hFl.out]; rfl, hadd, by unfold Hid; rw [List.map_append, hFt.out, ← Nat.add_assoc, toldU_succ s i d hdlt, List.map_singleton, HTOLD.out], hbw4, h54⟩
        case measure => simp [intOf]; omega
    · obtain rfl : d = 2 := by omega
      have hdd : ¬ ((2 : Nat) : Int) < 2 := by omega
      go_wp2_with fail
      go_roundw
      case rel => exact ⟨i + 1, oa2, oc2, F2, by omega, by go_num, rfl, hFl, hF, hFt, hb⟩
      case measure => simp [intOf]; omega
  · obtain rfl : i = n := by omega
    have hkk : ¬ (i : Int) < (i : Int) := by omega
    go_wp2_with fail
    go_ret
    exact ⟨oa, oc, rfl, F, hFl.out, hF, hFt.out, hb⟩
end Go.Proofs.Ytkamdaadgndmbaa
