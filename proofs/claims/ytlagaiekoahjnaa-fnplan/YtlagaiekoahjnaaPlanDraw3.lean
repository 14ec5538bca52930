import Derived.Test.YtlagaiekoahjnaaPlanDraw2
namespace Go.Proofs.Ytlagaiekoahjnaa
open Go.ChangeShapes Go.WideShapes Go.ChangeAt Go.RowKit
set_option linter.unusedVariables false

section
variable (S : Mps) (j : Nat) (hj : j < S.length) (y : Int)
theorem flatM_off : (flatM S).set (j * 5) (.int .u64 y) = flatM (S.set j ⟨y, (S[j]).len, (S[j]).fin, (S[j]).car, (S[j]).que⟩) := by
  obtain ⟨h0, h1, h2, h3, h4⟩ := flatM_at hj
  rw [← flatM_set S j _ hj]
  show _ = ((((((flatM S).set (j * 5) (.int .u64 y)).set (j * 5 + 1) (.int .i64 (S[j]).len)).set (j * 5 + 2) (.int .i64 (S[j]).fin)).set (j * 5 + 3) (.int .i64 (S[j]).car)).set (j * 5 + 4) (.int .i64 (S[j]).que))
  have g1 : ((flatM S).set (j * 5) (.int .u64 y))[j * 5 + 1]? = some (.int .i64 (S[j]).len) := by rw [List.getElem?_set_ne (by omega)]; exact h1
  have g2 : ((flatM S).set (j * 5) (.int .u64 y))[j * 5 + 2]? = some (.int .i64 (S[j]).fin) := by rw [List.getElem?_set_ne (by omega)]; exact h2
  have g3 : ((flatM S).set (j * 5) (.int .u64 y))[j * 5 + 3]? = some (.int .i64 (S[j]).car) := by rw [List.getElem?_set_ne (by omega)]; exact h3
  have g4 : ((flatM S).set (j * 5) (.int .u64 y))[j * 5 + 4]? = some (.int .i64 (S[j]).que) := by rw [List.getElem?_set_ne (by omega)]; exact h4
  rw [set_same g1, set_same g2, set_same g3, set_same g4]
theorem flatM_len : (flatM S).set (j * 5 + 1) (.int .i64 y) = flatM (S.set j ⟨(S[j]).off, y, (S[j]).fin, (S[j]).car, (S[j]).que⟩) := by
  obtain ⟨h0, h1, h2, h3, h4⟩ := flatM_at hj
  rw [← flatM_set S j _ hj]
  show _ = ((((((flatM S).set (j * 5) (.int .u64 (S[j]).off)).set (j * 5 + 1) (.int .i64 y)).set (j * 5 + 2) (.int .i64 (S[j]).fin)).set (j * 5 + 3) (.int .i64 (S[j]).car)).set (j * 5 + 4) (.int .i64 (S[j]).que))
  have g2 : ((flatM S).set (j * 5 + 1) (.int .i64 y))[j * 5 + 2]? = some (.int .i64 (S[j]).fin) := by rw [List.getElem?_set_ne (by omega)]; exact h2
  have g3 : ((flatM S).set (j * 5 + 1) (.int .i64 y))[j * 5 + 3]? = some (.int .i64 (S[j]).car) := by rw [List.getElem?_set_ne (by omega)]; exact h3
  have g4 : ((flatM S).set (j * 5 + 1) (.int .i64 y))[j * 5 + 4]? = some (.int .i64 (S[j]).que) := by rw [List.getElem?_set_ne (by omega)]; exact h4
  rw [set_same h0, set_same g2, set_same g3, set_same g4]
theorem flatM_fin : (flatM S).set (j * 5 + 2) (.int .i64 y) = flatM (S.set j ⟨(S[j]).off, (S[j]).len, y, (S[j]).car, (S[j]).que⟩) := by
  obtain ⟨h0, h1, h2, h3, h4⟩ := flatM_at hj
  rw [← flatM_set S j _ hj]
  show _ = ((((((flatM S).set (j * 5) (.int .u64 (S[j]).off)).set (j * 5 + 1) (.int .i64 (S[j]).len)).set (j * 5 + 2) (.int .i64 y)).set (j * 5 + 3) (.int .i64 (S[j]).car)).set (j * 5 + 4) (.int .i64 (S[j]).que))
  have g3 : ((flatM S).set (j * 5 + 2) (.int .i64 y))[j * 5 + 3]? = some (.int .i64 (S[j]).car) := by rw [List.getElem?_set_ne (by omega)]; exact h3
  have g4 : ((flatM S).set (j * 5 + 2) (.int .i64 y))[j * 5 + 4]? = some (.int .i64 (S[j]).que) := by rw [List.getElem?_set_ne (by omega)]; exact h4
  rw [set_same h0, set_same h1, set_same g3, set_same g4]
theorem flatM_car : (flatM S).set (j * 5 + 3) (.int .i64 y) = flatM (S.set j ⟨(S[j]).off, (S[j]).len, (S[j]).fin, y, (S[j]).que⟩) := by
  obtain ⟨h0, h1, h2, h3, h4⟩ := flatM_at hj
  rw [← flatM_set S j _ hj]
  show _ = ((((((flatM S).set (j * 5) (.int .u64 (S[j]).off)).set (j * 5 + 1) (.int .i64 (S[j]).len)).set (j * 5 + 2) (.int .i64 (S[j]).fin)).set (j * 5 + 3) (.int .i64 y)).set (j * 5 + 4) (.int .i64 (S[j]).que))
  have g4 : ((flatM S).set (j * 5 + 3) (.int .i64 y))[j * 5 + 4]? = some (.int .i64 (S[j]).que) := by rw [List.getElem?_set_ne (by omega)]; exact h4
  rw [set_same h0, set_same h1, set_same h2, set_same g4]
theorem flatM_que : (flatM S).set (j * 5 + 4) (.int .i64 y) = flatM (S.set j ⟨(S[j]).off, (S[j]).len, (S[j]).fin, (S[j]).car, y⟩) := by
  obtain ⟨h0, h1, h2, h3, h4⟩ := flatM_at hj
  rw [← flatM_set S j _ hj]
  show _ = ((((((flatM S).set (j * 5) (.int .u64 (S[j]).off)).set (j * 5 + 1) (.int .i64 (S[j]).len)).set (j * 5 + 2) (.int .i64 (S[j]).fin)).set (j * 5 + 3) (.int .i64 (S[j]).car)).set (j * 5 + 4) (.int .i64 y))
  rw [set_same h0, set_same h1, set_same h2, set_same h3]
end
theorem fitsM_set {S : Mps} {j : Nat} {p : Mp} (h : FitsM S) (hp : p.ok) : FitsM (S.set j p) := by
  intro m hm
  rcases List.mem_or_eq_of_mem_set hm with h' | h'
  · exact h m h'
  · rw [h']; exact hp
theorem rowM_at {w : World} {base : Nat} {e : TypeId} {g n cap : Nat} {S : Mps} (hn : S.length = n) (h : w.ownsRow base e 5 (.slice (some ⟨g, 0, none⟩) n cap) n (flatM S)) {j : Nat} (hj : j < S.length) :
    w.cell? ⟨g, j * 5, none⟩ = some (.int .u64 (S[j]).off) ∧ w.cell? ⟨g, j * 5 + 1, none⟩ = some (.int .i64 (S[j]).len) ∧ w.cell? ⟨g, j * 5 + 2, none⟩ = some (.int .i64 (S[j]).fin) ∧ w.cell? ⟨g, j * 5 + 3, none⟩ = some (.int .i64 (S[j]).car) ∧ w.cell? ⟨g, j * 5 + 4, none⟩ = some (.int .i64 (S[j]).que) := by
  subst hn
  obtain ⟨h0, h1, h2, h3, h4⟩ := flatM_at hj
  exact ⟨by rw [h.cellAt _ (by omega)]; exact h0, by rw [h.cellAt _ (by omega)]; exact h1, by rw [h.cellAt _ (by omega)]; exact h2, by rw [h.cellAt _ (by omega)]; exact h3, by rw [h.cellAt _ (by omega)]; exact h4⟩
def mAt (S : Mps) (j : Nat) : Mp := S.getD j zeroM
def spoilM (S : Mps) (i : Nat) (k : Int) : Mps :=
  if k = 0 then S.set i ⟨(mAt S i).off, (mAt S i).len, (mAt S i).fin, 0, (mAt S i).que⟩
  else if k = 1 then S.set i ⟨(mAt S i).off, (mAt S i).len, (mAt S i).fin, 256, (mAt S i).que⟩
  else if k = 2 then S.set i ⟨(mAt S i).off, (mAt S i).len, (mAt S i).fin, (mAt S i).car, 2⟩
  else if k = 3 then S.set i ⟨(mAt S i).off, 33, (mAt S i).fin, (mAt S i).car, (mAt S i).que⟩
  else if k = 4 then S.set i ⟨(mAt S i).off, (mAt S i).len, 1, (mAt S i).car, (mAt S i).que⟩
  else if k = 5 then S.set i ⟨4611686018427387905, (mAt S i).len, (mAt S i).fin, (mAt S i).car, (mAt S i).que⟩
  else if k = 6 then S.set i ⟨(IntKind.u64.wrap ((mAt S i).off - 1)), (mAt S i).len, (mAt S i).fin, (mAt S i).car, (mAt S i).que⟩
  else if k = 7 then S.set i ⟨(mAt S i).off, (-1), (mAt S i).fin, (mAt S i).car, (mAt S i).que⟩
  else if k = 8 then S.set i ⟨(mAt S i).off, (mAt S i).len, (-1), (mAt S i).car, (mAt S i).que⟩
  else S
def spoilF (zs : List Int) (S : Mps) (σ : Src) : Mps × Src :=
  if S.length = 0 then (S ++ [⟨3, 1, 0, 0, 0⟩], σ)
  else
    let i := nextF zs σ S.length
    let k := nextF zs i.2 9
    (spoilM S i.1.toNat k.1, k.2)
theorem row_ty {w : World} {base : Nat} {e : TypeId} {size : Nat} {u : Value} {n : Nat} {xs : List Value} (h : w.ownsRow base e size u n xs) {k : Nat} (hk : u.ownBlock = some k) : ∃ cs, w.heap[k]? = some (.cells cs e (0, 0)) := by
  rcases h.2 with ⟨rfl, _⟩ | ⟨g, c, cur, rfl, _, hg, _⟩
  · cases hk
  · obtain rfl : g = k := by simpa [Value.ownBlock] using hk
    exact ⟨cur, hg⟩
theorem ty_ne {w : World} {j k : Nat} {c1 c2 : Array Value} {t1 t2 : TypeId} {f1 f2 : Nat × Nat} (h1 : w.heap[j]? = some (.cells c1 t1 f1)) (h2 : w.heap[k]? = some (.cells c2 t2 f2)) (h : t1 ≠ t2) : j ≠ k := by
  rintro rfl
  rw [h1] at h2
  simp only [Option.some.injEq, Obj.cells.injEq] at h2
  exact h h2.2.1
/-- A row of another type than a block lies elsewhere. -/
theorem own_ne {w : World} {base : Nat} {e t : TypeId} {size : Nat} {u : Value} {n k : Nat} {xs : List Value} {cs : Array Value} {f : Nat × Nat} (h : w.ownsRow base e size u n xs) (hk : w.heap[k]? = some (.cells cs t f)) (hne : e ≠ t) : u.ownBlock ≠ some k := fun e' => by
  obtain ⟨cs', h'⟩ := row_ty h e'
  exact ty_ne h' hk hne rfl
theorem row_keep {w w' : World} {base : Nat} {e : TypeId} {size : Nat} {v : Value} {n : Nat} {xs : List Value} (h : w.ownsRow base e size v n xs) (hk : ∀ k, v.ownBlock = some k → w'.heap[k]? = w.heap[k]?) : w'.ownsRow base e size v n xs := by
  refine ⟨h.1, ?_⟩
  rcases h.2 with hn | ⟨g, cap, cur, rfl, hg, hh, rest⟩
  · exact .inl hn
  · exact .inr ⟨g, cap, cur, rfl, hg, (hk g rfl).trans hh, rest⟩

/-- Nothing but the source and the row has changed. -/
structure Two (w w' : World) (b : Nat) (own : Option Nat) : Prop where
  sz : w.heap.size ≤ w'.heap.size
  bl : ∀ k, k < w.heap.size → k ≠ b → some k ≠ own → w'.heap[k]? = w.heap[k]?
theorem Two.src {w w' : World} {b : Nat} {own : Option Nat} (h : w.grownBy w' (some b)) : Two w w' b own := ⟨h.size, fun k h1 h2 _ => h.block k h1 (fun e => h2 (Option.some.inj e))⟩
theorem Two.row {w w1 w' : World} {b : Nat} {own : Option Nat} (h : Two w w1 b own) (hg : w1.grownBy w' own) : Two w w' b own := ⟨Nat.le_trans h.sz hg.size, fun k h1 h2 h3 => (hg.block k (Nat.lt_of_lt_of_le h1 h.sz) h3).trans (h.bl k h1 h2 h3)⟩

set_option maxHeartbeats 2000000 in
set_option maxRecDepth 100000 in
theorem spoil_at (w0 w : World) (b : Nat) (a : Option Addr) (zs : List Int) (cap : Nat) (σ : Src) (hd : DrawAt w0 w b a zs.length cap σ) (hz : Ints .u8 w0 a zs) (hv : ∀ x ∈ zs, 0 ≤ x ∧ x ≤ 255) (hl : zs.length ≤ 2000000)
    (av : Option Addr) (cp n : Nat) (S : Mps) (hn : S.length = n) (hn6 : n ≤ 6) (hf : FitsM S) (hrow : w.ownsRow w0.heap.size 55 5 (.slice av n cp) n (flatM S)) :
    Calls Try.prog 57 #[.pointer (some ⟨b, 0, none⟩), .slice av n cp] w fun e w' => ∃ (av' : Option Addr) (cp' n' : Nat) (S' : Mps) (τ : Src), e = .returned (.slice av' n' cp') ∧ Hid (spoilF zs S σ = (S', τ)) ∧ S'.length = n' ∧ n' ≤ 6 ∧ FitsM S' ∧
      w'.ownsRow w0.heap.size 55 5 (.slice av' n' cp') n' (flatM S') ∧ DrawAt w0 w' b a zs.length cap τ ∧ Two w w' b (Value.slice av n cp).ownBlock := by
  have HSN : Hid (S.length = n) := hn
  clear hn
  have hs0 := hd.bel.size
  have hbr : (Value.slice av n cp).ownBlock ≠ some b := own_ne hrow hd.src (by decide)
  have HGA : Hid (∀ (wa wb : World) (σ' : Src), DrawAt w0 wa b a zs.length cap σ' → wa.grownBy wb (Value.slice av n cp).ownBlock → DrawAt w0 wb b a zs.length cap σ') := by
    unfold Hid
    intro wa wb σ' h1 h2
    exact h1.grown h2 (fun k hk => ⟨(hrow.lt k hk).1, fun e => hbr (by rw [hk, e])⟩)
  by_cases h0 : n = 0
  case pos =>
    have hS0 : Hid (S.length = 0) := by unfold Hid; rw [HSN.out]; exact h0
    have HE : Hid (spoilF zs S σ = (S ++ [⟨3, 1, 0, 0, 0⟩], σ)) := by unfold Hid spoilF; rw [if_pos hS0.out]
    have hn1 : (w.alloc (.cells #[.int .u64 3, .int .i64 1, .int .i64 0, .int .i64 0, .int .i64 0] 55)).heap[w.heap.size]? = some (.cells #[.int .u64 3, .int .i64 1, .int .i64 0, .int .i64 0, .int .i64 0] 55 (0, 0)) := heap_alloc_new w _
    obtain ⟨e0, e1, e2, e3, e4⟩ := cellsM5 hn1
    have hrow1 := hrow.alloc (.cells #[.int .u64 3, .int .i64 1, .int .i64 0, .int .i64 0, .int .i64 0] 55)
    have hgal : w.grownBy (w.alloc (.cells #[.int .u64 3, .int .i64 1, .int .i64 0, .int .i64 0, .int .i64 0] 55)) (some b) := World.grownBy_alloc w _ _
    have hda := hd.grown (World.grownBy_alloc w (.cells #[.int .u64 3, .int .i64 1, .int .i64 0, .int .i64 0, .int .i64 0] 55) none) (by simp)
    have hni : ((n : Int) == 0) = true := by simp; exact h0
    have H0 : Hid (n = 0) := h0
    clear h0
    go_enter Try.func57, Try.ntmps57
    go_wp2_with (at_builtin; refine wpList_oneM _ rfl _ _ (by rfl) w0.heap.size av n cp S HSN.out 3 1 0 0 0 (by rfl) hrow1 w.heap.size (by rfl) e0 e1 e2 e3 e4 (by omega) (by simp; omega) ?_; intro g9 cap9 w9 ho9 hg9)
    go_ret
    have hft : FitsM (S ++ [⟨3, 1, 0, 0, 0⟩]) := by
      intro p hp
      rcases List.mem_append.1 hp with h | h
      · exact hf p h
      · simp at h; subst h; exact ⟨by simp, by simp, by simp, by simp, by simp⟩
    first
      | exact ⟨_, _, _, _, _, rfl, HE, by rw [List.length_append, HSN.out]; rfl, by have := H0.out; omega, hft, ho9, HGA.out _ _ _ hda hg9, (Two.src hgal).row hg9⟩
      | exact ⟨_, _, _, rfl, _, _, _, HE, by rw [List.length_append, HSN.out]; rfl, by have := H0.out; omega, hft, ho9, HGA.out _ _ _ hda hg9, (Two.src hgal).row hg9⟩
  case neg =>
  have hni : ((n : Int) == 0) = false := by simp; exact h0
  have hn0 : 0 < n := by omega
  obtain ⟨g, rfl⟩ := row_some hrow hn0
  go_enter Try.func57, Try.ntmps57
  go_wp2_with fail
  refine (next_at w0 _ b a zs cap σ (n : Int) hd hz hv hl (by omega) (by omega)).mono ?_
  rintro e w1 ⟨r1, σ1, rfl, N1, l1, u1, hd1, g1⟩
  obtain ⟨I, rfl⟩ : ∃ I : Nat, r1 = (I : Int) := ⟨r1.toNat, by omega⟩
  have hI : I < n := by omega
  have hIi : (I : Int) < (n : Int) := by omega
  have hIl : I < S.length := by rw [HSN.out]; exact hI
  go_wp2_with fail
  refine (next_at w0 _ b a zs cap σ1 9 hd1 hz hv hl (by omega) (by omega)).mono ?_
  rintro e w2 ⟨r2, σ2, rfl, N2, l2, u2, hd2, g2⟩
  have gr2 := grown_trans g1 g2
  have hro2 : w2.ownsRow w0.heap.size 55 5 (.slice (some ⟨g, 0, none⟩) n cp) n (flatM S) := hrow.kept gr2 (by cases hv' : (Value.slice (some ⟨g, 0, none⟩) n cp).ownBlock with | none => exact .inl rfl | some j => exact .inr fun e => hbr (by rw [hv', e]))
  have hT2 : Two w w2 b (some g) := Two.src gr2
  have HE : Hid (spoilF zs S σ = (spoilM S I r2, σ2)) := by
    unfold Hid spoilF
    rw [if_neg (by rw [HSN.out]; omega)]
    simp only [HSN.out, N1.out, N2.out, Int.toNat_natCast]
  obtain ⟨c0, c1, c2, c3, c4⟩ := rowM_at HSN.out hro2 hIl
  have f0 := hro2.frozenAt (I * 5)
  have f1 := hro2.frozenAt (I * 5 + 1)
  have f2 := hro2.frozenAt (I * 5 + 2)
  have f3 := hro2.frozenAt (I * 5 + 3)
  have f4 := hro2.frozenAt (I * 5 + 4)
  have hma : mAt S I = S[I] := by simp [mAt, hIl]
  have hok := hf _ (List.getElem_mem hIl)
  clear N1 N2 hd1 g1 g2 gr2 hrow hd
  by_cases q0 : r2 = 0
  case pos =>
    have b0 : (r2 == 0) = true := by simpa using q0
    have HT : Hid (spoilM S I r2 = S.set I ⟨(S[I]).off, (S[I]).len, (S[I]).fin, 0, (S[I]).que⟩) := by unfold Hid spoilM; rw [if_pos q0, hma]
    have hgs := grown_set w2 g (I * 5 + 3) (.int .i64 0)
    have hrw := put_row hro2 (I * 5 + 3) (.int .i64 0) (flatM_car S I hIl 0)
    have hft : FitsM (S.set I ⟨(S[I]).off, (S[I]).len, (S[I]).fin, 0, (S[I]).que⟩) := fitsM_set hf (⟨hok.1, hok.2.1, hok.2.2.1, by simp only; omega, hok.2.2.2.2⟩)
    have Q0 : Hid (r2 = 0) := q0
    have hD := HGA.out w2 _ σ2 hd2 hgs
    have hT := hT2.row hgs
    clear q0 hma
    go_wp2_with fail
    go_ret
    first
      | exact ⟨_, _, _, _, _, rfl, by unfold Hid; rw [HE.out, HT.out], by rw [List.length_set]; exact HSN.out, hn6, hft, hrw, hD, hT⟩
      | exact ⟨_, _, _, rfl, _, _, _, by unfold Hid; rw [HE.out, HT.out], by rw [List.length_set]; exact HSN.out, hn6, hft, hrw, hD, hT⟩
  case neg =>
  have b0 : (r2 == 0) = false := by simpa using q0
  by_cases q1 : r2 = 1
  case pos =>
    have b1 : (r2 == 1) = true := by simpa using q1
    have HT : Hid (spoilM S I r2 = S.set I ⟨(S[I]).off, (S[I]).len, (S[I]).fin, 256, (S[I]).que⟩) := by unfold Hid spoilM; rw [if_neg q0, if_pos q1, hma]
    have hgs := grown_set w2 g (I * 5 + 3) (.int .i64 256)
    have hrw := put_row hro2 (I * 5 + 3) (.int .i64 256) (flatM_car S I hIl 256)
    have hft : FitsM (S.set I ⟨(S[I]).off, (S[I]).len, (S[I]).fin, 256, (S[I]).que⟩) := fitsM_set hf (⟨hok.1, hok.2.1, hok.2.2.1, by simp only; omega, hok.2.2.2.2⟩)
    have Q1 : Hid (r2 = 1) := q1
    have hD := HGA.out w2 _ σ2 hd2 hgs
    have hT := hT2.row hgs
    clear q1 hma
    go_wp2_with fail
    go_ret
    first
      | exact ⟨_, _, _, _, _, rfl, by unfold Hid; rw [HE.out, HT.out], by rw [List.length_set]; exact HSN.out, hn6, hft, hrw, hD, hT⟩
      | exact ⟨_, _, _, rfl, _, _, _, by unfold Hid; rw [HE.out, HT.out], by rw [List.length_set]; exact HSN.out, hn6, hft, hrw, hD, hT⟩
  case neg =>
  have b1 : (r2 == 1) = false := by simpa using q1
  by_cases q2 : r2 = 2
  case pos =>
    have b2 : (r2 == 2) = true := by simpa using q2
    have HT : Hid (spoilM S I r2 = S.set I ⟨(S[I]).off, (S[I]).len, (S[I]).fin, (S[I]).car, 2⟩) := by unfold Hid spoilM; rw [if_neg q0, if_neg q1, if_pos q2, hma]
    have hgs := grown_set w2 g (I * 5 + 4) (.int .i64 2)
    have hrw := put_row hro2 (I * 5 + 4) (.int .i64 2) (flatM_que S I hIl 2)
    have hft : FitsM (S.set I ⟨(S[I]).off, (S[I]).len, (S[I]).fin, (S[I]).car, 2⟩) := fitsM_set hf (⟨hok.1, hok.2.1, hok.2.2.1, hok.2.2.2.1, by simp only; omega⟩)
    have Q2 : Hid (r2 = 2) := q2
    have hD := HGA.out w2 _ σ2 hd2 hgs
    have hT := hT2.row hgs
    clear q2 hma
    go_wp2_with fail
    go_ret
    first
      | exact ⟨_, _, _, _, _, rfl, by unfold Hid; rw [HE.out, HT.out], by rw [List.length_set]; exact HSN.out, hn6, hft, hrw, hD, hT⟩
      | exact ⟨_, _, _, rfl, _, _, _, by unfold Hid; rw [HE.out, HT.out], by rw [List.length_set]; exact HSN.out, hn6, hft, hrw, hD, hT⟩
  case neg =>
  have b2 : (r2 == 2) = false := by simpa using q2
  by_cases q3 : r2 = 3
  case pos =>
    have b3 : (r2 == 3) = true := by simpa using q3
    have HT : Hid (spoilM S I r2 = S.set I ⟨(S[I]).off, 33, (S[I]).fin, (S[I]).car, (S[I]).que⟩) := by unfold Hid spoilM; rw [if_neg q0, if_neg q1, if_neg q2, if_pos q3, hma]
    have hgs := grown_set w2 g (I * 5 + 1) (.int .i64 33)
    have hrw := put_row hro2 (I * 5 + 1) (.int .i64 33) (flatM_len S I hIl 33)
    have hft : FitsM (S.set I ⟨(S[I]).off, 33, (S[I]).fin, (S[I]).car, (S[I]).que⟩) := fitsM_set hf (⟨hok.1, by simp only; omega, hok.2.2.1, hok.2.2.2.1, hok.2.2.2.2⟩)
    have Q3 : Hid (r2 = 3) := q3
    have hD := HGA.out w2 _ σ2 hd2 hgs
    have hT := hT2.row hgs
    clear q3 hma
    go_wp2_with fail
    go_ret
    first
      | exact ⟨_, _, _, _, _, rfl, by unfold Hid; rw [HE.out, HT.out], by rw [List.length_set]; exact HSN.out, hn6, hft, hrw, hD, hT⟩
      | exact ⟨_, _, _, rfl, _, _, _, by unfold Hid; rw [HE.out, HT.out], by rw [List.length_set]; exact HSN.out, hn6, hft, hrw, hD, hT⟩
  case neg =>
  have b3 : (r2 == 3) = false := by simpa using q3
  by_cases q4 : r2 = 4
  case pos =>
    have b4 : (r2 == 4) = true := by simpa using q4
    have HT : Hid (spoilM S I r2 = S.set I ⟨(S[I]).off, (S[I]).len, 1, (S[I]).car, (S[I]).que⟩) := by unfold Hid spoilM; rw [if_neg q0, if_neg q1, if_neg q2, if_neg q3, if_pos q4, hma]
    have hgs := grown_set w2 g (I * 5 + 2) (.int .i64 1)
    have hrw := put_row hro2 (I * 5 + 2) (.int .i64 1) (flatM_fin S I hIl 1)
    have hft : FitsM (S.set I ⟨(S[I]).off, (S[I]).len, 1, (S[I]).car, (S[I]).que⟩) := fitsM_set hf (⟨hok.1, hok.2.1, by simp only; omega, hok.2.2.2.1, hok.2.2.2.2⟩)
    have Q4 : Hid (r2 = 4) := q4
    have hD := HGA.out w2 _ σ2 hd2 hgs
    have hT := hT2.row hgs
    clear q4 hma
    go_wp2_with fail
    go_ret
    first
      | exact ⟨_, _, _, _, _, rfl, by unfold Hid; rw [HE.out, HT.out], by rw [List.length_set]; exact HSN.out, hn6, hft, hrw, hD, hT⟩
      | exact ⟨_, _, _, rfl, _, _, _, by unfold Hid; rw [HE.out, HT.out], by rw [List.length_set]; exact HSN.out, hn6, hft, hrw, hD, hT⟩
  case neg =>
  have b4 : (r2 == 4) = false := by simpa using q4
  by_cases q5 : r2 = 5
  case pos =>
    have b5 : (r2 == 5) = true := by simpa using q5
    have HT : Hid (spoilM S I r2 = S.set I ⟨4611686018427387905, (S[I]).len, (S[I]).fin, (S[I]).car, (S[I]).que⟩) := by unfold Hid spoilM; rw [if_neg q0, if_neg q1, if_neg q2, if_neg q3, if_neg q4, if_pos q5, hma]
    have hgs := grown_set w2 g (I * 5) (.int .u64 4611686018427387905)
    have hrw := put_row hro2 (I * 5) (.int .u64 4611686018427387905) (flatM_off S I hIl 4611686018427387905)
    have hft : FitsM (S.set I ⟨4611686018427387905, (S[I]).len, (S[I]).fin, (S[I]).car, (S[I]).que⟩) := fitsM_set hf (⟨by simp only; omega, hok.2.1, hok.2.2.1, hok.2.2.2.1, hok.2.2.2.2⟩)
    have Q5 : Hid (r2 = 5) := q5
    have hD := HGA.out w2 _ σ2 hd2 hgs
    have hT := hT2.row hgs
    clear q5 hma
    go_wp2_with fail
    go_ret
    first
      | exact ⟨_, _, _, _, _, rfl, by unfold Hid; rw [HE.out, HT.out], by rw [List.length_set]; exact HSN.out, hn6, hft, hrw, hD, hT⟩
      | exact ⟨_, _, _, rfl, _, _, _, by unfold Hid; rw [HE.out, HT.out], by rw [List.length_set]; exact HSN.out, hn6, hft, hrw, hD, hT⟩
  case neg =>
  have b5 : (r2 == 5) = false := by simpa using q5
  by_cases q6 : r2 = 6
  case pos =>
    have b6 : (r2 == 6) = true := by simpa using q6
    have HT : Hid (spoilM S I r2 = S.set I ⟨(IntKind.u64.wrap ((S[I]).off - 1)), (S[I]).len, (S[I]).fin, (S[I]).car, (S[I]).que⟩) := by unfold Hid spoilM; rw [if_neg q0, if_neg q1, if_neg q2, if_neg q3, if_neg q4, if_neg q5, if_pos q6, hma]
    have hgs := grown_set w2 g (I * 5) (.int .u64 (IntKind.u64.wrap ((S[I]).off - 1)))
    have hrw := put_row hro2 (I * 5) (.int .u64 (IntKind.u64.wrap ((S[I]).off - 1))) (flatM_off S I hIl (IntKind.u64.wrap ((S[I]).off - 1)))
    have hft : FitsM (S.set I ⟨(IntKind.u64.wrap ((S[I]).off - 1)), (S[I]).len, (S[I]).fin, (S[I]).car, (S[I]).que⟩) := fitsM_set hf (⟨wrap64_fits _, hok.2.1, hok.2.2.1, hok.2.2.2.1, hok.2.2.2.2⟩)
    have Q6 : Hid (r2 = 6) := q6
    have hD := HGA.out w2 _ σ2 hd2 hgs
    have hT := hT2.row hgs
    clear q6 hma
    go_wp2_with fail
    go_ret
    first
      | exact ⟨_, _, _, _, _, rfl, by unfold Hid; rw [HE.out, HT.out], by rw [List.length_set]; exact HSN.out, hn6, hft, hrw, hD, hT⟩
      | exact ⟨_, _, _, rfl, _, _, _, by unfold Hid; rw [HE.out, HT.out], by rw [List.length_set]; exact HSN.out, hn6, hft, hrw, hD, hT⟩
  case neg =>
  have b6 : (r2 == 6) = false := by simpa using q6
  by_cases q7 : r2 = 7
  case pos =>
    have b7 : (r2 == 7) = true := by simpa using q7
    have HT : Hid (spoilM S I r2 = S.set I ⟨(S[I]).off, (-1), (S[I]).fin, (S[I]).car, (S[I]).que⟩) := by unfold Hid spoilM; rw [if_neg q0, if_neg q1, if_neg q2, if_neg q3, if_neg q4, if_neg q5, if_neg q6, if_pos q7, hma]
    have hgs := grown_set w2 g (I * 5 + 1) (.int .i64 (-1))
    have hrw := put_row hro2 (I * 5 + 1) (.int .i64 (-1)) (flatM_len S I hIl (-1))
    have hft : FitsM (S.set I ⟨(S[I]).off, (-1), (S[I]).fin, (S[I]).car, (S[I]).que⟩) := fitsM_set hf (⟨hok.1, by simp only; omega, hok.2.2.1, hok.2.2.2.1, hok.2.2.2.2⟩)
    have Q7 : Hid (r2 = 7) := q7
    have hD := HGA.out w2 _ σ2 hd2 hgs
    have hT := hT2.row hgs
    clear q7 hma
    go_wp2_with fail
    go_ret
    first
      | exact ⟨_, _, _, _, _, rfl, by unfold Hid; rw [HE.out, HT.out], by rw [List.length_set]; exact HSN.out, hn6, hft, hrw, hD, hT⟩
      | exact ⟨_, _, _, rfl, _, _, _, by unfold Hid; rw [HE.out, HT.out], by rw [List.length_set]; exact HSN.out, hn6, hft, hrw, hD, hT⟩
  case neg =>
  have b7 : (r2 == 7) = false := by simpa using q7
  by_cases q8 : r2 = 8
  case pos =>
    have b8 : (r2 == 8) = true := by simpa using q8
    have HT : Hid (spoilM S I r2 = S.set I ⟨(S[I]).off, (S[I]).len, (-1), (S[I]).car, (S[I]).que⟩) := by unfold Hid spoilM; rw [if_neg q0, if_neg q1, if_neg q2, if_neg q3, if_neg q4, if_neg q5, if_neg q6, if_neg q7, if_pos q8, hma]
    have hgs := grown_set w2 g (I * 5 + 2) (.int .i64 (-1))
    have hrw := put_row hro2 (I * 5 + 2) (.int .i64 (-1)) (flatM_fin S I hIl (-1))
    have hft : FitsM (S.set I ⟨(S[I]).off, (S[I]).len, (-1), (S[I]).car, (S[I]).que⟩) := fitsM_set hf (⟨hok.1, hok.2.1, by simp only; omega, hok.2.2.2.1, hok.2.2.2.2⟩)
    have Q8 : Hid (r2 = 8) := q8
    have hD := HGA.out w2 _ σ2 hd2 hgs
    have hT := hT2.row hgs
    clear q8 hma
    go_wp2_with fail
    go_ret
    first
      | exact ⟨_, _, _, _, _, rfl, by unfold Hid; rw [HE.out, HT.out], by rw [List.length_set]; exact HSN.out, hn6, hft, hrw, hD, hT⟩
      | exact ⟨_, _, _, rfl, _, _, _, by unfold Hid; rw [HE.out, HT.out], by rw [List.length_set]; exact HSN.out, hn6, hft, hrw, hD, hT⟩
  case neg =>
  have b8 : (r2 == 8) = false := by simpa using q8
  omega
end Go.Proofs.Ytlagaiekoahjnaa
