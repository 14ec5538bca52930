import Derived.Test.YtpeecjoadgefjaaJ2
import Derived.Maps.AppendAt
namespace Go.Proofs.Ytpeecjoadgefjaa
open Go.ChangeShapes Go.WideShapes Go.ChangeAt Go.RowKit
set_option linter.unusedVariables false

theorem info_i64 : (Try.prog.info? 2).map (fun i => (i.zero, i.size, i.bytes)) = some (some (.int .i64 0), 1, 8) := by kernel_rfl
/-- One more number behind the row: where it lies. -/
theorem wpList_app1b (w : World) {ops : Array Oper} {rest : List Oper} {o : Oper} {a : Act} {Q : Exit → Act → World → Prop} (hgd : o.guard = none) (s x : Operand)
    (ho : o.op = .call { callee := .builtin .append, args := #[s, x], argTypes := #[81, 81] })
    (base : Nat) (av : Option Addr) (n cap : Nat) (zs : List Int) (c : Int) (hs : a.eval s = .slice av n cap) (hown : w.ownsRow base 2 1 (.slice av n cap) n (zs.map (.int .i64)))
    (ad : Addr) (hx : a.eval x = .slice (some ad) 1 1) (hnew : w.cell? ad = some (.int .i64 c)) (hl : n ≤ 4294967296) (hbase : base ≤ w.heap.size)
    (h : ∀ g cap' w', w'.ownsRow base 2 1 (.slice (some ⟨g, 0, none⟩) (n + 1) cap') (n + 1) ((zs ++ [c]).map (.int .i64)) → w.grownBy w' (Value.slice av n cap).ownBlock → ((Value.slice av n cap).ownBlock = some g ∨ g = w.heap.size) →
      wpList Try.prog ops Q rest (a.put o.dst (.slice (some ⟨g, 0, none⟩) (n + 1) cap')) w') : wpList Try.prog ops Q (o :: rest) a w := by
  obtain ⟨i0, hi, hz0, hz1, hz2⟩ := info_parts info_i64
  refine wpList_append_own_at w hgd s x 81 ho base 2 i0 (.int .i64 0) 1 8 Try.underlying81 hi hz0 hz1 hz2 rfl (by decide) (.slice av n cap) n (zs.map (.int .i64)) hs hown ad 1 1 [.int .i64 c] hx rfl ?_ ?_ ?_ ?_ hbase ?_
  · intro j u hj
    match j, hj with
    | 0, hj => simp at hj; subst hj; rw [← hnew]; congr 1
  · intro u hu; simp at hu; subst hu; rfl
  · unfold maxLen; omega
  · omega
  · intro v' w' h2 h3 h4 h5
    rcases h2.2 with ⟨rfl, h0⟩ | ⟨g, cap', cur, rfl, rest⟩
    · omega
    · refine h g cap' w' (by simpa using h2) h3 ?_
      rcases h5 with h5 | h5
      · exact .inl h5.symm
      · exact .inr (by simpa [Value.ownBlock] using h5)
theorem put_row {w : World} {base : Nat} {e : TypeId} {size g n cap : Nat} {xs ys : List Value} (h : w.ownsRow base e size (.slice (some ⟨g, 0, none⟩) n cap) n xs) (j : Nat) (v : Value) (he : xs.set j v = ys) : (w.setCell ⟨g, j, none⟩ v).ownsRow base e size (.slice (some ⟨g, 0, none⟩) n cap) n ys := by
  have h1 := (h.stored j v).1
  rw [he] at h1
  exact h1
def lenOf : Option Value → Nat
  | some (.slice _ n _) => n
  | _ => 0
/-- What comes of an event, on the specification's side. -/
structure SStep (w : World) (B base : Nat) (x : Int) (z : Nat) (v : Value) (Q : ROut × RB) (w' : World) (dv v' : Value) (got' : List Int) : Prop where
  buf : SpB w' B base x z Q.2 v' got'
  blk : v'.ownBlock = v.ownBlock ∨ ∀ k, v'.ownBlock = some k → w.heap.size ≤ k
  row : w'.ownsRow w.heap.size 5 1 dv Q.1.dat.length (Q.1.dat.map (.int .u8))
  mv : Mv w w' B v.ownBlock
def SStepsTo (w : World) (B base : Nat) (x : Int) (z : Nat) (v : Value) (Q : ROut × RB) (e : Ending) (w' : World) : Prop :=
  ∃ av cp v' got', e = .returned (.agg #[.int .i64 Q.1.code, .int .i64 Q.1.n, .slice av Q.1.dat.length cp]) ∧ SStep w B base x z v Q w' (.slice av Q.1.dat.length cp) v' got'

/-- The buffer on the way of a call that began in w0; the answer's box is R. -/
structure AtB (w0 : World) (R B base : Nat) (x : Int) (z : Nat) (s : RB) (o : Option Nat) (v : Value) (got : List Int) (w : World) : Prop where
  buf : SpB w B base x z s v got
  blk : v.ownBlock = o ∨ ∀ k, v.ownBlock = some k → w0.heap.size ≤ k
  mv : Mv w0 w B o
  hB : B < w0.heap.size
  hR : w0.heap.size ≤ R
  vR : v.ownBlock ≠ some R
section
variable {w0 w : World} {R B base : Nat} {x : Int} {z : Nat} {s : RB} {o : Option Nat} {v : Value} {got : List Int} {g cap : Nat}
theorem AtB.begin (h : SpB w B base x z s v got) (hR : w.heap.size ≤ R) : AtB w R B base x z s v.ownBlock v got w := ⟨h, .inl rfl, Mv.refl _ _ _, h.lt, hR, fun e => by have := (h.row.lt _ e).2; omega⟩
theorem AtB.alloc (h : AtB w0 R B base x z s o v got w) (ob : Obj) : AtB w0 R B base x z s o v got (w.alloc ob) := ⟨h.buf.alloc ob, h.blk, h.mv.alloc ob, h.hB, h.hR, h.vR⟩
theorem AtB.drewN (h : AtB w0 R B base x z s o v got w) (m : Nat) : AtB w0 R B base x z s o v got (w.drewN m) := ⟨h.buf.drewN m, h.blk, h.mv.drewN m, h.hB, h.hR, h.vR⟩
theorem AtB.drew (h : AtB w0 R B base x z s o v got w) : AtB w0 R B base x z s o v got w.drew := ⟨⟨h.buf.blk, h.buf.row, h.buf.got⟩, h.blk, h.mv.drew, h.hB, h.hR, h.vR⟩
theorem AtB.box (h : AtB w0 R B base x z s o v got w) (i : Nat) (u : Value) : AtB w0 R B base x z s o v got (w.setCell ⟨R, i, none⟩ u) :=
  ⟨h.buf.far R i u (by have := h.hB; have := h.hR; omega) h.vR, h.blk, h.mv.far R i h.hR u, h.hB, h.hR, h.vR⟩
theorem AtB.fill (h : AtB w0 R B base x z s o v got w) (a b c : Value) : AtB w0 R B base x z s o v got (((w.setCell ⟨R, 0, none⟩ a).setCell ⟨R, 1, none⟩ b).setCell ⟨R, 2, none⟩ c) := ((h.box 0 a).box 1 b).box 2 c
/-- One more place: the row behind an append, stored back. -/
theorem AtB.pad (h : AtB w0 R B base x z s o v got w) (hl : (got.length : Int) + 1 ≤ s.read - x + z) (hbs : base ≤ w.heap.size) (c0 : Value) {w2 : World} {g cap : Nat}
    (hrow : w2.ownsRow base 2 1 (.slice (some ⟨g, 0, none⟩) (got.length + 1) cap) (got.length + 1) ((got ++ [-1]).map (.int .i64))) (hg : (w.alloc (.cells #[c0] 2)).grownBy w2 v.ownBlock) (hgR : g ≠ R)
    (hgn : v.ownBlock = some g ∨ w.heap.size < g) :
    AtB w0 R B base x z s o (.slice (some ⟨g, 0, none⟩) (got.length + 1) cap) (got ++ [-1]) (w2.setCell ⟨B, 2, none⟩ (.slice (some ⟨g, 0, none⟩) (got.length + 1) cap)) := by
  have hsz := h.mv.size
  have hBl := h.buf.lt
  have hB2 : w2.heap[B]? = some (.cells (bufCells x z s v) 83 (0, 0)) := (hg.block B (by simp; omega) (Ne.symm h.buf.ne)).trans ((Below.heap_alloc _ _ _ hBl).trans h.buf.blk)
  obtain ⟨cs, hcs⟩ := row_block hrow (k := g) rfl
  have hgB : g ≠ B := type_ne hcs hB2 (by decide)
  have hown : (w2.setCell ⟨B, 2, none⟩ (.slice (some ⟨g, 0, none⟩) (got.length + 1) cap)).ownsRow base 2 1 (.slice (some ⟨g, 0, none⟩) (got ++ [-1]).length cap) (got ++ [-1]).length ((got ++ [-1]).map (.int .i64)) := by
    have hle : (got ++ [(-1 : Int)]).length = got.length + 1 := by simp
    rw [hle]
    exact row_stays hrow fun k hk => heap_setCell_other _ _ _ _ (by have e : g = k := by simpa [Value.ownBlock] using hk
                                                                    rw [← e]; exact hgB)
  refine ⟨⟨?_, ?_, h.buf.got.pad hl⟩, ?_, ?_, h.hB, h.hR, ?_⟩
  · rw [Go.Joins.block_setCell hB2 _]
    rfl
  · simpa using hown
  · rcases hgn with e | e
    · rcases h.blk with e2 | e2
      · exact .inl (by rw [← e2, e]; rfl)
      · exact .inr fun k hk => e2 k (by rw [e]; exact hk)
    · exact .inr fun k hk => by have e3 : g = k := by simpa [Value.ownBlock] using hk
                                omega
  · refine Mv.set ?_ 2 _
    refine (h.mv.alloc (.cells #[c0] 2)).grown hg ?_
    rcases h.blk with e2 | e2
    · exact .inl e2
    · exact .inr (.inr e2)
  · simp only [Value.ownBlock]
    exact fun e => hgR (Option.some.inj e)
theorem AtB.put (h : AtB w0 R B base x z s o (.slice (some ⟨g, 0, none⟩) got.length cap) got w) {t y : Int} (ht : s.read ≤ t) {k : Nat} (hk : (t - x).toNat = k) (hl : k < got.length) (v0 : 0 ≤ y) (v1 : y ≤ 255) :
    AtB w0 R B base x z { s with f := upd s.f t y } o (.slice (some ⟨g, 0, none⟩) got.length cap) (got.set k y) (w.setCell ⟨g, k, none⟩ (.int .i64 y)) := by
  subst hk
  have hne : B ≠ g := fun e => h.buf.ne (by rw [e]; rfl)
  refine ⟨⟨(heap_setCell_other _ _ _ _ hne).trans h.buf.blk, ?_, h.buf.got.put ht hl v0 v1⟩, h.blk, ?_, h.hB, h.hR, h.vR⟩
  · have := put_row h.buf.row (t - x).toNat (.int .i64 y) (ys := (got.set (t - x).toNat y).map (.int .i64)) (by rw [List.map_set])
    simpa using this
  · refine h.mv.grown (grown_set1 _ _ _ _) ?_
    rcases h.blk with e | e
    · exact .inl e
    · exact .inr (.inr e)
end

set_option maxHeartbeats 2000000 in
set_option maxRecDepth 100000 in
theorem l5Put_any (w : World) (B base : Nat) (x : Int) (z : Nat) (s : RB) (v : Value) (got : List Int) (h : SpB w B base x z s v got) (hbs : base ≤ w.heap.size) (off : Int) (o0 : 0 ≤ off) (o1 : off ≤ 18446744073709551615) (da : Option Addr) (dat : List Int) (dc : Nat) (hd : Ints .u8 w da dat) (hv : ∀ v ∈ dat, 0 ≤ v ∧ v ≤ 255) (hdl : dat.length ≤ 9223372036854775807) (hdb : ∀ b o, da = some ⟨b, o, none⟩ → b ≠ B ∧ v.ownBlock ≠ some b ∧ b < w.heap.size) :
    Calls Try.prog 85 #[.pointer (some ⟨B, 0, none⟩), .int .u64 off, .slice da dat.length dc] w (SStepsTo w B base x z v (putR z s off dat)) := by
  have hb0 : Below w.heap.size w (w.alloc (.cells #[.int .i64 0, .int .i64 0, .slice none 0 0] 50)) := (Below.refl _ _).alloc (Nat.le_refl _) _
  have hR0 := heap_alloc_new w (.cells #[.int .i64 0, .int .i64 0, .slice none 0 0] 50)
  have hA0 := (AtB.begin h (Nat.le_refl _)).alloc (.cells #[.int .i64 0, .int .i64 0, .slice none 0 0] 50)
  obtain ⟨V, hV⟩ : ∃ V, V = w.alloc (.cells #[.int .i64 0, .int .i64 0, .slice none 0 0] 50) := ⟨_, rfl⟩
  have hs0 : Hid (V.heap.size = w.heap.size + 1) := by rw [hV]; unfold Hid; simp
  rw [← hV] at hb0 hR0 hA0
  have HD : Hid (Ints .u8 w da dat) := hd
  obtain ⟨R, hR⟩ : ∃ R, R = w.heap.size := ⟨_, rfl⟩
  rw [← hR] at hR0 hA0
  obtain ⟨N, hN⟩ : ∃ N, Hid (N = dat.length) := ⟨_, rfl⟩
  rw [← hN.out] at hdl ⊢
  have e1 : IntKind.u64.wrap (N : Int) = (N : Int) := by rw [IntKind.wrap_u64]; omega
  have hz1 := h.got.z1
  have hz2 := h.got.z2
  have hx0 := h.got.x0
  have hx1 := h.got.x1
  have hlo := h.got.lo
  have hhi := h.got.hi
  have hf := h.got.hf
  have f0 := h.got.f0
  have f1 := h.got.f1
  clear h hd hb0
  have hR2 : R < V.heap.size := by have := hs0.out; omega
  obtain ⟨r, hr⟩ : ∃ r, Hid (r = s.read) := ⟨_, rfl⟩
  rw [← hr.out] at hlo hhi
  obtain ⟨ob, hob⟩ : ∃ ob, Hid (ob = v.ownBlock) := ⟨_, rfl⟩
  rw [← hob.out] at hA0
  have HA : Hid (AtB w R B base x z s ob v got V) := hA0
  have HFIN : Hid (∀ (s' : RB) (v' : Value) (got' : List Int) (W : World) (c n : Int), AtB w R B base x z s' ob v' got' W → putR z s off dat = (⟨c, n, []⟩, s') → SStepsTo w B base x z v (putR z s off dat) (.returned (.agg #[.int .i64 c, .int .i64 n, .slice none 0 0])) (((W.setCell ⟨R, 0, none⟩ (.int .i64 c)).setCell ⟨R, 1, none⟩ (.int .i64 n)).setCell ⟨R, 2, none⟩ (.slice none 0 0))) := by
    intro s' v' got' W c n hAt hE
    have h3 := hAt.fill (.int .i64 c) (.int .i64 n) (.slice none 0 0)
    rw [hE]
    exact ⟨none, 0, v', got', rfl, h3.buf, by rw [← hob.out]; exact h3.blk, ⟨rfl, .inl ⟨rfl, rfl⟩⟩, by rw [← hob.out]; exact h3.mv⟩
  clear hA0
  by_cases hA : N < 1 ∨ 32 < N
  case pos =>
    have HE : Hid (putR z s off dat = (⟨1, 0, []⟩, s)) := by unfold Hid putR; rw [if_pos (by rw [← hN.out]; exact hA)]
    have hfin := HFIN.out s v got V 1 0 HA.out HE.out
    have hdd : (decide ((N : Int) < 1) = true) ∨ (decide ((N : Int) < 1) = false ∧ decide (32 < (N : Int)) = true) := by
      rcases hA with hA | hA
      · left; rw [decide_eq_true_iff]; omega
      · right; rw [decide_eq_false_iff_not, decide_eq_true_iff]; omega
    obtain ⟨⟨k0, k1, k2⟩, kf0, kf1, kf2⟩ := cells3r hR0
    obtain ⟨⟨z0, z1, z2⟩, _⟩ := cells3r (set3r hR0 (.int .i64 1) (.int .i64 0) (.slice none 0 0))
    clear hA
    rcases hdd with d1 | ⟨d1, d2⟩
    · go_enter Try.func85, Try.ntmps85
      go_upto_if 20 with fail
      rw [← hV, ← hR]
      clear hV hR
      go_wp2_with fail
      exact bodyPost_ret (v := .agg #[.int .i64 1, .int .i64 0, .slice none 0 0]) (by simp [results, Try.results85, go_sem, z0, z1, z2]) rfl hfin
    · go_enter Try.func85, Try.ntmps85
      go_upto_if 20 with fail
      rw [← hV, ← hR]
      clear hV hR
      go_wp2_with fail
      exact bodyPost_ret (v := .agg #[.int .i64 1, .int .i64 0, .slice none 0 0]) (by simp [results, Try.results85, go_sem, z0, z1, z2]) rfl hfin
  case neg =>
  have d1 : decide ((N : Int) < 1) = false := by rw [decide_eq_false_iff_not]; omega
  have d2 : decide (32 < (N : Int)) = false := by rw [decide_eq_false_iff_not]; omega
  have hrd := fun m => l5Read_any (V.drewN m) B base x z s v got (HA.out.buf.drewN m)
  rw [← hr.out] at hrd
  obtain ⟨T, hT⟩ : ∃ T, r + (z : Int) = T := ⟨_, rfl⟩
  have hTw : IntKind.u64.wrap (r + (z : Int)) = T := by rw [IntKind.wrap_u64]; omega
  have hzw : IntKind.u64.wrap (z : Int) = (z : Int) := by rw [IntKind.wrap_u64]; omega
  obtain ⟨⟨c0, c1, c2, c3, c4, c5⟩, cf⟩ := HA.out.buf.cells
  go_enter Try.func85, Try.ntmps85
  go_upto_region 3 with fail
  rw [← hV, ← hR]
  clear hV hR
  go_quiet ((go_at_call 71; exact Calls.quiet_of (hrd _)))
  obtain ⟨W, hW⟩ : ∃ W, W = V.drewN nq := ⟨_, rfl⟩
  have hX : W.heap[R]? = some (.cells #[.int .i64 0, .int .i64 0, .slice none 0 0] 50 (0, 0)) := by rw [hW]; exact hR0
  have HW : Hid (AtB w R B base x z s ob v got W) := by rw [hW]; exact HA.out.drewN _
  have hWR : R < W.heap.size := by rw [hW]; exact hR2
  rw [← hW]
  clear hW HA hrd c0 c1 c2 c3 c4 c5 cf hTw hzw hR0
  by_cases hB1 : T < off
  case pos =>
    have d3 : decide (T < off) = true := by rw [decide_eq_true_iff]; exact hB1
    have HE : Hid (putR z s off dat = (⟨4, 0, []⟩, s)) := by unfold Hid putR; rw [if_neg (by rw [← hN.out]; exact hA), if_pos (by rw [← hr.out, hT]; exact .inl hB1)]
    have hfin := HFIN.out s v got W 4 0 HW.out HE.out
    obtain ⟨⟨k0, k1, k2⟩, kf0, kf1, kf2⟩ := cells3r hX
    obtain ⟨⟨z0, z1, z2⟩, _⟩ := cells3r (set3r hX (.int .i64 4) (.int .i64 0) (.slice none 0 0))
    go_wp2_with fail
    exact bodyPost_ret (v := .agg #[.int .i64 4, .int .i64 0, .slice none 0 0]) (by simp [results, Try.results85, go_sem, z0, z1, z2]) rfl hfin
  case neg =>
  have d3 : decide (T < off) = false := by rw [decide_eq_false_iff_not]; exact hB1
  have hTo : IntKind.u64.wrap (T - off) = T - off := by rw [IntKind.wrap_u64]; omega
  by_cases hB2 : T - off < N
  case pos =>
    have d4 : decide (T - off < (N : Int)) = true := by rw [decide_eq_true_iff]; exact hB2
    have HE : Hid (putR z s off dat = (⟨4, 0, []⟩, s)) := by unfold Hid putR; rw [if_neg (by rw [← hN.out]; exact hA), if_pos (by rw [← hr.out, hT, ← hN.out]; exact .inr hB2)]
    have hfin := HFIN.out s v got W 4 0 HW.out HE.out
    obtain ⟨⟨k0, k1, k2⟩, kf0, kf1, kf2⟩ := cells3r hX
    obtain ⟨⟨z0, z1, z2⟩, _⟩ := cells3r (set3r hX (.int .i64 4) (.int .i64 0) (.slice none 0 0))
    go_wp2_with fail
    exact bodyPost_ret (v := .agg #[.int .i64 4, .int .i64 0, .slice none 0 0]) (by simp [results, Try.results85, go_sem, z0, z1, z2]) rfl hfin
  case neg =>
  have d4 : decide (T - off < (N : Int)) = false := by rw [decide_eq_false_iff_not]; exact hB2
  have hsum : IntKind.u64.wrap (off + (N : Int)) = off + (N : Int) := by rw [IntKind.wrap_u64]; omega
  obtain ⟨⟨c0, c1, c2, c3, c4, c5⟩, cf⟩ := HW.out.buf.cells
  obtain ⟨fin, hfin⟩ : ∃ fin, Hid (fin = s.fin) := ⟨_, rfl⟩
  rw [← hfin.out] at c4 f0 f1
  by_cases hC : s.hf = 1 ∧ fin < off + N
  case pos =>
    have d5 : decide (s.hf = 1) = true := by rw [decide_eq_true_iff]; exact hC.1
    rw [d5] at c5
    have d6 : decide (fin < off + (N : Int)) = true := by rw [decide_eq_true_iff]; exact hC.2
    have HE : Hid (putR z s off dat = (⟨12, 0, []⟩, s)) := by unfold Hid putR; rw [if_neg (by rw [← hN.out]; exact hA), if_neg (by rw [← hr.out, hT, ← hN.out]; omega), if_pos (by rw [← hfin.out, ← hN.out]; exact hC)]
    have HC : Hid _ := hC
    clear hC
    have hfin := HFIN.out s v got W 12 0 HW.out HE.out
    obtain ⟨⟨k0, k1, k2⟩, kf0, kf1, kf2⟩ := cells3r hX
    obtain ⟨⟨z0, z1, z2⟩, _⟩ := cells3r (set3r hX (.int .i64 12) (.int .i64 0) (.slice none 0 0))
    go_wp2_with fail
    exact bodyPost_ret (v := .agg #[.int .i64 12, .int .i64 0, .slice none 0 0]) (by simp [results, Try.results85, go_sem, z0, z1, z2]) rfl hfin
  case neg =>
  have HE0 : Hid (putR z s off dat = (⟨0, (putRun s.read off dat s.f 0).1, []⟩, { s with f := (putRun s.read off dat s.f 0).2 })) := by unfold Hid putR; rw [if_neg (by rw [← hN.out]; exact hA), if_neg (by rw [← hr.out, hT, ← hN.out]; omega), if_neg (by rw [← hfin.out, ← hN.out]; exact hC)]
  have HC : Hid _ := hC
  have HF : Hid _ := hf
  clear hC hf
  go_upto_region 7 with fail
  go_cut [59] from 48 to 58 (fun v wx => v = .bool false ∧ W = wx)
  case first =>
    by_cases h1 : s.hf = 1
    · have d5 : decide (s.hf = 1) = true := by rw [decide_eq_true_iff]; exact h1
      rw [d5] at c5
      have d6 : decide (fin < off + (N : Int)) = false := by rw [decide_eq_false_iff_not]; exact fun h => HC.out ⟨h1, h⟩
      have H1 : Hid _ := h1
      clear h1
      go_wp2_with fail
      go_meet
      case rel => exact ⟨rfl, rfl⟩
    · have d5 : decide (s.hf = 1) = false := by rw [decide_eq_false_iff_not]; exact h1
      rw [d5] at c5
      have H1 : Hid _ := h1
      clear h1
      go_wp2_with fail
      go_meet
      case rel => exact ⟨rfl, rfl⟩
  case rest =>
  obtain ⟨rfl, hwe⟩ := hcut
  subst hwe
  clear c0 c1 c2 c3 c4 c5 cf
  go_wp2_with fail
  go_loopw [9, 10] (fun kv iv wr => ∃ (i : Nat) (kp : Int) (f' : Int → Option Int) (v' : Value) (got' : List Int), i ≤ N ∧ iv = .int .i64 (i : Int) ∧ kv = .int .i64 kp ∧ (0 ≤ kp ∧ kp ≤ i) ∧ Hid (putRun s.read off dat s.f 0 = putRun s.read (off + i) (dat.drop i) f' kp) ∧ Hid (AtB w R B base x z { s with f := f' } ob v' got' wr) ∧ Hid (wr.heap[R]? = some (.cells #[.int .i64 0, .int .i64 0, .slice none 0 0] 50 (0, 0)))) (fun _ iv _ => N - (intOf iv).toNat)
  case atStart => exact ⟨0, 0, s.f, v, got, Nat.zero_le _, rfl, rfl, ⟨Int.le_refl _, by simp⟩, by unfold Hid; simp, HW, hX⟩
  case round =>
  obtain ⟨i, kp, f', v', got', hi, rfl, rfl, hkp, HP, HR, HX⟩ := hrel
  by_cases hlt : i < N
  case neg =>
    obtain rfl : i = N := by omega
    have hkk : ¬ (i : Int) < (i : Int) := by omega
    have hdn : dat.drop i = [] := List.drop_eq_nil_of_le (by rw [← hN.out]; exact Nat.le_refl _)
    have HE : Hid (putR z s off dat = (⟨0, kp, []⟩, { s with f := f' })) := by unfold Hid; rw [HE0.out, HP.out, hdn, putRun]
    have hfin := HFIN.out _ v' got' wr 0 kp HR.out HE.out
    obtain ⟨⟨k0, k1, k2⟩, kf0, kf1, kf2⟩ := cells3r HX.out
    obtain ⟨⟨z0, z1, z2⟩, _⟩ := cells3r (set3r HX.out (.int .i64 0) (.int .i64 kp) (.slice none 0 0))
    go_wp2_with fail
    exact bodyPost_ret (v := .agg #[.int .i64 0, .int .i64 kp, .slice none 0 0]) (by simp [results, Try.results85, go_sem, z0, z1, z2]) rfl hfin
  case pos =>
  have hii : (i : Int) < (N : Int) := by omega
  have hil : i < dat.length := by rw [← hN.out]; exact hlt
  obtain ⟨db, dof, hde, hdc⟩ : ∃ b o, da = some ⟨b, o, none⟩ ∧ ∀ i, i < dat.length → w.cell? ⟨b, o + i, none⟩ = some (.int .u8 (dat.getD i 0)) := by
    rcases HD.out with h0 | h0
    · rw [h0] at hil; simp at hil
    · exact h0
  subst hde
  obtain ⟨db1, db2, db3⟩ := hdb db dof rfl
  obtain ⟨y, hye⟩ : ∃ y, Hid (dat.getD i 0 = y) := ⟨_, rfl⟩
  have d0 := hdc i hil
  rw [hye.out] at d0
  have hyb : 0 ≤ y ∧ y ≤ 255 := by
    have e : dat.getD i 0 = dat[i] := by simp [hil]
    rw [← hye.out, e]
    exact hv _ (List.getElem_mem hil)
  have HDA : Hid (∀ (s2 : RB) (v2 : Value) (g2 : List Int) (W2 : World), AtB w R B base x z s2 ob v2 g2 W2 → W2.cell? ⟨db, dof + i, none⟩ = some (.int .u8 y)) := by
    intro s2 v2 g2 W2 hA2
    exact (World.cell?_of_block (a := ⟨db, dof + i, none⟩) (hA2.mv.block db db3 db1 (fun e => db2 (by rw [← hob.out, ← e])))).trans d0
  have hdrop : dat.drop i = y :: dat.drop (i + 1) := by
    rw [List.drop_eq_getElem_cons hil, ← hye.out]
    simp [hil]
  obtain ⟨q, hq⟩ : ∃ q, off + (i : Int) = q := ⟨_, rfl⟩
  have hqw : IntKind.u64.wrap (off + (i : Int)) = q := by rw [IntKind.wrap_u64, ← hq]; omega
  have hiw : IntKind.u64.wrap (i : Int) = (i : Int) := by rw [IntKind.wrap_u64]; omega
  have hqT : q < T := by omega
  have hq0 : 0 ≤ q := by omega
  have hqn : Hid (off + ((i + 1 : Nat) : Int) = q + 1) := by unfold Hid; omega
  have HP2 : Hid (putRun s.read off dat s.f 0 = putRun s.read q (y :: dat.drop (i + 1)) f' kp) := by unfold Hid; rw [HP.out, hdrop, hq]
  have hwk : IntKind.i64.wrap (kp + 1) = kp + 1 := by rw [IntKind.wrap_i64]; omega
  have hrd := l5Read_any wr B base x z _ v' got' HR.out.buf
  simp only at hrd
  rw [← hr.out] at hrd
  clear d0 hdc HP hdrop hq hdb
  by_cases hrq : q < r
  case pos =>
    have d7 : decide (q < r) = true := by rw [decide_eq_true_iff]; exact hrq
    have HE : Hid (putRun s.read off dat s.f 0 = putRun s.read (off + ((i + 1 : Nat) : Int)) (dat.drop (i + 1)) f' kp) := by
      unfold Hid
      rw [HP2.out, putRun, if_neg (by rw [← hr.out]; omega), hqn.out]
    go_wp2_with fail
    refine hrd.mono ?_
    rintro e w1 ⟨rfl, m1, rfl⟩
    go_wp2_with fail
    go_roundw
    case rel => exact ⟨i + 1, kp, f', v', got', by omega, by go_num, rfl, ⟨hkp.1, by omega⟩, HE, HR.out.drewN m1, HX⟩
    case measure => simp [intOf]; omega
  case neg =>
  have d7 : decide (q < r) = false := by rw [decide_eq_false_iff_not]; exact hrq
  obtain ⟨K, hK⟩ : ∃ K : Nat, Hid ((K : Int) = q - x) := ⟨(q - x).toNat, by unfold Hid; omega⟩
  have hKw : IntKind.u64.wrap (q - x) = (K : Int) := by rw [IntKind.wrap_u64, hK.out]; omega
  have hK3 : K ≤ 30000000 := by have := hK.out; omega
  have hKz : Hid ((K : Int) < r - x + z) := by unfold Hid; have := hK.out; omega
  go_wp2_with fail
  refine hrd.mono ?_
  rintro e w1 ⟨rfl, m1, rfl⟩
  obtain ⟨W1, hW1⟩ : ∃ W, W = wr.drewN m1 := ⟨_, rfl⟩
  have HR1 : Hid (AtB w R B base x z { s with f := f' } ob v' got' W1) := by rw [hW1]; exact HR.out.drewN m1
  have HX1 : Hid (W1.heap[R]? = some (.cells #[.int .i64 0, .int .i64 0, .slice none 0 0] 50 (0, 0))) := by rw [hW1]; exact HX
  rw [← hW1]
  clear hW1 HR HX hrd
  obtain ⟨⟨c0, c1, c2, c3, c4, c5⟩, cf⟩ := HR1.out.buf.cells
  go_wp2_with fail
  clear c0 c1 c2 c3 c4 c5 cf
  go_loopw [] (fun w2 => ∃ (v2 : Value) (got2 : List Int), Hid (AtB w R B base x z { s with f := f' } ob v2 got2 w2) ∧ Hid (w2.heap[R]? = some (.cells #[.int .i64 0, .int .i64 0, .slice none 0 0] 50 (0, 0)))) (fun w2 => K + 1 - lenOf (w2.cell? ⟨B, 2, none⟩))
  case atStart => exact ⟨v', got', HR1, HX1⟩
  case round =>
  obtain ⟨v2, got2, HR2, HX2⟩ := hrel
  obtain ⟨⟨c0, c1, c2, c3, c4, c5⟩, cf⟩ := HR2.out.buf.cells
  obtain ⟨a2, cap2, rfl, hin⟩ := HR2.out.buf.shape
  obtain ⟨L, hL⟩ : ∃ L, Hid (L = got2.length) := ⟨_, rfl⟩
  have hlen := HR2.out.buf.got.len
  have hrow2 := HR2.out.buf.row
  simp only at hlen
  rw [← hL.out, ← hr.out] at hlen
  rw [← hL.out] at c2 hrow2
  have hL3 : L ≤ 30000000 := by omega
  have hR9 : R < wr.heap.size := (Array.getElem?_eq_some_iff.1 HX2.out).1
  have hwsz := HR2.out.mv.size
  clear hin c0 c1 c3 c4 c5 cf hlen
  by_cases hLK : L ≤ K
  case pos =>
    have d8 : decide ((L : Int) ≤ (K : Int)) = true := by rw [decide_eq_true_iff]; omega
    have hrowA := own_alloc hrow2 (.cells #[.int .i64 (-1)] 2)
    have hnew := cell_alloc1 wr (.int .i64 (-1)) 2 wr.heap.size rfl
    have hbsA : base ≤ (wr.alloc (.cells #[.int .i64 (-1)] 2)).heap.size := by simp; omega
    have HB4 : Hid (∀ w4, (wr.alloc (.cells #[.int .i64 (-1)] 2)).grownBy w4 (Value.slice a2 L cap2).ownBlock → w4.cell? ⟨B, 2, none⟩ = some (.slice a2 L cap2) ∧ w4.frozen? ⟨B, 2, none⟩ = false ∧ w4.heap[R]? = some (.cells #[.int .i64 0, .int .i64 0, .slice none 0 0] 50 (0, 0))) := by
      intro w4 hg4
      have e : (Value.slice a2 L cap2).ownBlock = (Value.slice a2 got2.length cap2).ownBlock := by rw [hL.out]
      rw [e] at hg4
      have h1 := (hg4.block B (by have := HR2.out.buf.lt; simp; omega) (Ne.symm HR2.out.buf.ne)).trans ((Below.heap_alloc _ _ _ HR2.out.buf.lt).trans HR2.out.buf.blk)
      rw [hL.out]
      exact ⟨Go.Joins.cell_of_block h1 2, Go.Joins.unfrozen_of_block h1 _, (hg4.block R (by simp; omega) (Ne.symm HR2.out.vR)).trans ((Below.heap_alloc _ _ _ hR9).trans HX2.out)⟩
    go_wp2_with (at_builtin; refine wpList_app1b _ (by rfl) _ _ (by rfl) base a2 L cap2 got2 (-1) (by rfl) hrowA ⟨wr.heap.size, 0, none⟩ (by rfl) hnew (by omega) hbsA ?_; intro g cap' w4 ho4 hg4 hgn; obtain ⟨k2, kf2, hX4⟩ := HB4.out w4 hg4)
    have hsA : (wr.alloc (.cells #[.int .i64 (-1)] 2)).heap.size = wr.heap.size + 1 := by simp
    rw [hsA] at hgn
    have hLe := hL.out
    subst hLe
    have hP := HR2.out.pad (by simp only; rw [← hr.out]; have := hKz.out; omega) (by omega) (.int .i64 (-1)) ho4 hg4 (by
      rcases hgn with e | e
      · exact fun e2 => HR2.out.vR (by rw [e, e2])
      · omega) (by
      rcases hgn with e | e
      · exact .inl e
      · exact .inr (by omega))
    have hBR : R ≠ B := by have := HR2.out.hB; have := HR2.out.hR; omega
    go_roundw
    case rel => exact ⟨_, _, hP, (heap_setCell_other _ _ _ _ hBR).trans hX4⟩
    case measure =>
      have h2 := hP.buf.cells.1.2.2.1
      rw [h2, c2]
      simp only [lenOf]
      omega
  case neg =>
  have d8 : decide ((L : Int) ≤ (K : Int)) = false := by rw [decide_eq_false_iff_not]; omega
  have hKL : K < L := by omega
  have hKL2 : (K : Int) < (L : Int) := by omega
  obtain ⟨g, hg⟩ : ∃ g, a2 = some ⟨g, 0, none⟩ := by
    rcases hrow2.2 with ⟨h', h0⟩ | ⟨g, cap', cur, h', _⟩
    · omega
    · simp only [Value.slice.injEq] at h'
      exact ⟨g, h'.1⟩
  subst hg
  have hKg : K < got2.length := by rw [← hL.out]; exact hKL
  obtain ⟨u, hu⟩ : ∃ u, Hid (got2.getD K (-1) = u) := ⟨_, rfl⟩
  have x0 : wr.cell? ⟨g, K, none⟩ = some (.int .i64 u) := by
    rw [hrow2.cellAt K (by omega)]
    simp only [List.getElem?_map, List.getElem?_eq_getElem hKg, Option.map_some, Option.some.injEq, Value.int.injEq, true_and]
    rw [← hu.out, List.getD_eq_getElem?_getD, List.getElem?_eq_getElem hKg]
    rfl
  have xf := hrow2.frozenAt K
  have hqK : (q - x).toNat = K := by have := hK.out; omega
  have hiff : f' q = none ↔ u < 0 := by
    have h1 := HR2.out.buf.got.none_iff (t := q) (by simp only; rw [← hr.out]; omega)
    simp only [hqK] at h1
    rw [hu.out] at h1
    exact h1
  by_cases hu0 : u < 0
  case neg =>
    have d9 : decide (u < 0) = false := by rw [decide_eq_false_iff_not]; exact hu0
    have HE : Hid (putRun s.read off dat s.f 0 = putRun s.read (off + ((i + 1 : Nat) : Int)) (dat.drop (i + 1)) f' kp) := by
      unfold Hid
      rw [HP2.out, putRun, if_neg (fun h => hu0 (hiff.1 h.2)), hqn.out]
    clear hiff
    go_wp2_with fail
    go_roundw
    case rel => exact ⟨i + 1, kp, f', _, got2, by omega, by go_num, rfl, ⟨hkp.1, by omega⟩, HE, HR2, HX2⟩
    case measure => simp [intOf]; omega
  case pos =>
    have d9 : decide (u < 0) = true := by rw [decide_eq_true_iff]; exact hu0
    have HE : Hid (putRun s.read off dat s.f 0 = putRun s.read (off + ((i + 1 : Nat) : Int)) (dat.drop (i + 1)) (upd f' q y) (kp + 1)) := by
      unfold Hid
      rw [HP2.out, putRun, if_pos ⟨by rw [← hr.out]; omega, hiff.2 hu0⟩, hqn.out]
    have hcd := HDA.out _ _ _ _ HR2.out
    clear hiff
    go_wp2_with fail
    go_region
    have hP := (HR2.out.put (t := q) (y := y) (by simp only; rw [← hr.out]; omega) hqK hKg hyb.1 hyb.2).drew
    have hgR : R ≠ g := fun e => HR2.out.vR (by rw [e]; rfl)
    have hX3 : (wr.setCell ⟨g, K, none⟩ (.int .i64 y)).drew.heap[R]? = some (.cells #[.int .i64 0, .int .i64 0, .slice none 0 0] 50 (0, 0)) := (heap_setCell_other _ _ _ _ hgR).trans HX2.out
    go_wp2_with fail
    go_roundw
    case rel => exact ⟨i + 1, kp + 1, upd f' q y, _, got2.set K y, by omega, by go_num, rfl, ⟨by omega, by omega⟩, HE, hP, hX3⟩
    case measure => simp [intOf]; omega
end Go.Proofs.Ytpeecjoadgefjaa
