import Derived.Test.YtpeecjoadgefjaaRDraw3
import Derived.Test.YtpeecjoadgefjaaRMath1
namespace Go.Proofs.Ytpeecjoadgefjaa
open Go.ChangeShapes Go.WideShapes Go.ChangeAt Go.RowKit
set_option linter.unusedVariables false

/-! ### HonestPieces as a function of the code's bytes -/
def honS (zs : List Int) : Src := (startFn zs (0, seedTo zs zs.length)).2
def honX (zs : List Int) : Int := (startFn zs (0, seedTo zs zs.length)).1
def honZ (zs : List Int) : Nat := (1 + (nextF zs (honS zs) 60).1).toNat
def honS3 (zs : List Int) : Src := (nextF zs (nextF zs (honS zs) 60).2 120).2
def honM (zs : List Int) : Nat := (20 + (nextF zs (nextF zs (honS zs) 60).2 120).1).toNat
def honE (zs : List Int) : List REv := (evsFn zs (honX zs) (honZ zs) (20 + (nextF zs (honS3 zs) 200).1) (nextF zs (honS3 zs) 200).2 (honM zs)).1
theorem grown_below {w0 w w' : World} {b : Nat} (h : Below w0.heap.size w0 w) (hg : w.grownBy w' (some b)) (hb : w0.heap.size ≤ b) : Below w0.heap.size w0 w' := h.grown hg h.size (fun k hk => by have := Option.some.inj hk; omega)
set_option maxHeartbeats 1000000 in
theorem honest_at (a : Option Addr) (zs : List Int) (n cap : Nat) (w : World) (hn : zs.length = n) (hz : Ints .u8 w a zs) (hv : ∀ x ∈ zs, 0 ≤ x ∧ x ≤ 255) (hl : n ≤ 1048576) :
    Calls Try.prog 21 #[.slice a n cap] w fun e w' => ∃ (av : Option Addr) (cp : Nat) (G : Evs), e = .returned (.tuple #[.int .u64 (honX zs), .int .i64 (honZ zs : Int), .slice av (honM zs) cp]) ∧ G.length = honM zs ∧ G.map (·.1) = honE zs ∧ (∀ p ∈ G, DrawnE (honX zs) p.1) ∧ ((0 ≤ honX zs ∧ honX zs ≤ 4611686018427387904) ∧ (1 ≤ honZ zs ∧ honZ zs ≤ 60) ∧ honM zs ≤ 140) ∧ EvsR w' w.heap.size (.slice av (honM zs) cp) G ∧ Below w.heap.size w w' := by
  subst hn
  have hbg := begin_at w a zs cap hz hv (by omega)
  obtain ⟨X, hX⟩ : ∃ X, Hid (X = honX zs) := ⟨_, rfl⟩
  obtain ⟨Z, hZ⟩ : ∃ Z, Hid (Z = honZ zs) := ⟨_, rfl⟩
  obtain ⟨M, hM⟩ : ∃ M, Hid (M = honM zs) := ⟨_, rfl⟩
  obtain ⟨ES, hES⟩ : ∃ ES, Hid (ES = honE zs) := ⟨_, rfl⟩
  rw [← hX.out, ← hZ.out, ← hM.out, ← hES.out]
  obtain ⟨sd, hsd⟩ : ∃ sd, Hid (sd = seedTo zs zs.length) := ⟨_, rfl⟩
  rw [← hsd.out] at hbg
  obtain ⟨N, hN⟩ : ∃ N, Hid (N = zs.length) := ⟨_, rfl⟩
  rw [← hN.out] at hbg ⊢
  have HST : Hid (∀ (w1 : World) (b : Nat) (σ : Src), DrawAt w w1 b a N cap σ → Calls Try.prog 49 #[.pointer (some ⟨b, 0, none⟩)] w1 fun e w' => ∃ (r : Int) (σ' : Src), e = .returned (.int .u64 r) ∧ Hid (startFn zs σ = (r, σ')) ∧ 0 ≤ r ∧ r ≤ 4611686018427387904 ∧ DrawAt w w' b a N cap σ' ∧ w1.grownBy w' (some b)) := fun w1 b σ h1 => by rw [hN.out] at h1 ⊢; exact drawStart_at w w1 b a zs cap σ h1 hz hv (by omega)
  have HNX : Hid (∀ (w1 : World) (b : Nat) (σ1 : Src) (k : Int), DrawAt w w1 b a N cap σ1 → 0 < k → k ≤ 1000 → Calls Try.prog 50 #[.pointer (some ⟨b, 0, none⟩), .int .i64 k] w1 fun e w' => ∃ (r : Int) (σ' : Src), e = .returned (.int .i64 r) ∧ Hid (nextF zs σ1 k = (r, σ')) ∧ 0 ≤ r ∧ r < k ∧ DrawAt w w' b a N cap σ' ∧ w1.grownBy w' (some b)) := fun w1 b σ1 k h1 h2 h3 => by rw [hN.out] at h1 ⊢; exact next_at w w1 b a zs cap σ1 k h1 hz hv (by omega) h2 (by omega)
  have HDE : Hid (∀ (w1 : World) (b : Nat) (σ : Src) (x : Int) (z m : Nat), DrawAt w w1 b a N cap σ → 0 ≤ x → x ≤ 4611686018427387904 → 1 ≤ z → z ≤ 60 → m ≤ 200 → Calls Try.prog 51 #[.pointer (some ⟨b, 0, none⟩), .int .u64 x, .int .i64 (z : Int), .int .i64 (m : Int), .bool true] w1 fun e w' => ∃ (av : Option Addr) (cp : Nat) (G : Evs), e = .returned (.slice av m cp) ∧ G.length = m ∧ G.map (·.1) = (evsFn zs x z (20 + (nextF zs σ 200).1) (nextF zs σ 200).2 m).1 ∧ (∀ p ∈ G, DrawnE x p.1) ∧ EvsR w' w1.heap.size (.slice av m cp) G ∧ w1.grownBy w' (some b)) := fun w1 b σ x z m h1 h2 h3 h4 h5 h6 => by rw [hN.out] at h1; exact drawEvents_at w w1 b a zs cap σ h1 hz hv (by omega) x z m h2 h3 h4 h5 h6
  go_enter Try.func21, Try.ntmps21
  go_wp2_with fail
  refine hbg.mono ?_
  rintro e w1 ⟨rfl, hb1⟩
  have hD0 := drawAt_start hb1 a zs N cap
  rw [← hsd.out] at hD0
  obtain ⟨W, hW⟩ : ∃ W, W = w1.alloc (.cells #[.slice a N cap, .int .i64 0, .int .u64 sd] 75) := ⟨_, rfl⟩
  rw [← hW] at hD0
  obtain ⟨b, hb⟩ : ∃ b, b = w1.heap.size := ⟨_, rfl⟩
  rw [← hb] at hD0
  have hbw : w.heap.size ≤ b := hD0.new
  have h1 := HST.out W b _ hD0
  clear hbg hz hv
  go_upto_region 2 with fail
  rw [← hW, ← hb]
  clear hW hb
  go_wp2_with fail
  refine h1.mono ?_
  rintro e w2 ⟨x, σ1, rfl, H1, x0, x1, hd2, hg2⟩
  obtain rfl : X = x := by rw [hX.out, honX, ← hsd.out, H1.out]
  have hS1 : Hid (σ1 = honS zs) := by unfold Hid honS; rw [← hsd.out, H1.out]
  have h2 := HNX.out w2 b σ1 60 hd2 (by omega) (by omega)
  clear h1 HST
  go_wp2_with fail
  refine h2.mono ?_
  rintro e w3 ⟨r, σ2, rfl, H2, r0, r1, hd3, hg3⟩
  have hZe : 1 + r = (Z : Int) := by rw [hZ.out, honZ, ← hS1.out, H2.out]; simp only; omega
  have hZw : IntKind.i64.wrap (1 + r) = (Z : Int) := by rw [IntKind.wrap_i64]; omega
  have hZ1 : 1 ≤ Z ∧ Z ≤ 60 := by omega
  have h3 := HNX.out w3 b σ2 120 hd3 (by omega) (by omega)
  clear h2
  go_wp2_with fail
  refine h3.mono ?_
  rintro e w4 ⟨r', σ3, rfl, H3, r'0, r'1, hd4, hg4⟩
  have hMe : 20 + r' = (M : Int) := by rw [hM.out, honM, ← hS1.out, H2.out]; simp only; rw [H3.out]; simp only; omega
  have hMw : IntKind.i64.wrap (20 + r') = (M : Int) := by rw [IntKind.wrap_i64]; omega
  have hM1 : M ≤ 140 := by omega
  have hS3 : Hid (σ3 = honS3 zs) := by unfold Hid honS3; rw [← hS1.out, H2.out]; simp only; rw [H3.out]
  have h4 := HDE.out w4 b σ3 X Z M hd4 x0 x1 hZ1.1 hZ1.2 (by omega)
  clear h3 HNX HDE
  go_wp2_with fail
  refine h4.mono ?_
  rintro e w5 ⟨av, cp, G, rfl, hGl, hGm, hGd, hE, hg5⟩
  have hB : Below w.heap.size w w5 := grown_below hd4.bel hg5 hbw
  have hsz : w.heap.size ≤ w4.heap.size := hd4.bel.size
  have hEE : EvsR w5 w.heap.size (.slice av M cp) G := ⟨owned_base hE.row hsz, fun p hp => owned_base (hE.dat p hp) hsz, hE.apart⟩
  have hGE : G.map (·.1) = ES := by rw [hGm, hES.out, honE, ← hX.out, ← hZ.out, ← hM.out, ← hS3.out]
  have HGE : Hid _ := hGE
  have HGD : Hid _ := hGd
  have HGL : Hid _ := hGl
  clear h4 hE hGm hGE hGd hGl
  go_wp2_with fail
  exact bodyPost_ret (v := .tuple #[.int .u64 X, .int .i64 (Z : Int), .slice av M cp]) (by simp [results, Try.results21, go_sem]) rfl ⟨av, cp, G, rfl, HGL.out, HGE.out, HGD.out, ⟨⟨x0, x1⟩, hZ1, hM1⟩, hEE, hB⟩
end Go.Proofs.Ytpeecjoadgefjaa

namespace Go.Proofs.Ytpeecjoadgefjaa
set_option linter.unusedVariables false

theorem norm_length {T : Sp} (h : Norm T) : (T.length : Int) ≤ total T := by
  induction T with
  | nil => simp [total]
  | cons t r ih =>
    have h1 := h.head
    have h2 := ih h.tail
    simp only [total, List.length_cons]
    omega
/-- What is held, at the end. -/
theorem Hon.cut {x : Int} {z : Nat} {s : RB} {S : Sp} {k : Int} (h : Hon x z s S k) : built f2 S (x, s.read) = heldR z s := by
  obtain ⟨h1, h2, h3⟩ := heldR_norm h.win
  refine built_is rfl h1 fun t => ?_
  simp only [f2, Bool.and_eq_true, Bool.not_eq_true', ← Bool.not_eq_true, inB_iff, in_one]
  rw [h2, h.mem]
  constructor
  · intro hf
    refine ⟨.inr hf, fun hc => ?_⟩
    cases hv : s.f t with
    | none => rw [hv] at hf; simp at hf
    | some v => have := h.win t v hv; omega
  · rintro ⟨h4 | h4, h5⟩
    · exact absurd h4 h5
    · exact h4
theorem Hon.size {x : Int} {z : Nat} {s : RB} {S : Sp} {k : Int} (h : Hon x z s S k) : total (built f4 (heldR z s) (s.read, s.read + z)) = (cnt s.f z s.read : Nat) := by
  obtain ⟨h1, h2, h3⟩ := heldR_norm h.win
  rw [← h3]
  congr 1
  refine built_is rfl h1 fun t => ?_
  simp only [f4, Bool.and_eq_true, inB_iff, in_one]
  rw [h2]
  constructor
  · intro hf
    refine ⟨hf, ?_⟩
    cases hv : s.f t with
    | none => rw [hv] at hf; simp at hf
    | some v => have := h.win t v hv; omega
  · exact fun h => h.1
theorem runLen_none {z : Nat} {s : RB} (hw : InWin z s) : s.f (s.read + (runLen s.f z s.read : Nat)) = none := by
  have gen : ∀ (f : Int → Option Int) (k : Nat) (x : Int), runLen f k x < k → f (x + (runLen f k x : Nat)) = none := by
    intro f k
    induction k with
    | zero => intro x h; omega
    | succ k ih =>
      intro x h
      unfold runLen at h ⊢
      split
      · rename_i h1
        rw [if_pos h1] at h
        rw [show x + ((runLen f k (x + 1) + 1 : Nat) : Int) = x + 1 + (runLen f k (x + 1) : Nat) by omega]
        exact ih (x + 1) (by omega)
      · rename_i h1
        simpa using h1
  by_cases h1 : runLen s.f z s.read < z
  · exact gen s.f z s.read h1
  · have h2 := runLen_le s.f z s.read
    cases h3 : s.f (s.read + (runLen s.f z s.read : Nat)) with
    | none => rfl
    | some v => have := hw _ _ h3; omega
theorem Hon.gaps {x : Int} {z : Nat} {s : RB} {S : Sp} {k : Int} (h : Hon x z s S k) : ∃ hi r, built f3 (heldR z s) (s.read, s.read + z + 1) = (s.read + (runLen s.f z s.read : Nat), hi) :: r ∧ (built f3 (heldR z s) (s.read, s.read + z + 1)).length ≤ z + 1 := by
  obtain ⟨h1, h2, h3⟩ := heldR_norm h.win
  have hrl := runLen_le s.f z s.read
  have hn : Norm (built f3 (heldR z s) (s.read, s.read + z + 1)) := built_norm rfl _ _
  have hin : ∀ t, In t (built f3 (heldR z s) (s.read, s.read + z + 1)) ↔ (s.read ≤ t ∧ t < s.read + z + 1) ∧ ¬ (s.f t).isSome = true := fun t => by rw [in_gaps, h2]
  have hlen : ((built f3 (heldR z s) (s.read, s.read + z + 1)).length : Int) ≤ z + 1 := by
    have a1 := norm_length hn
    have a2 := total_split (heldR z s) (p := s.read) (q := s.read + z + 1) (by omega)
    have a3 : 0 ≤ total (built f4 (heldR z s) (s.read, s.read + z + 1)) := total_nonneg (fun p hp => by have := (built_norm (f := f4) rfl (heldR z s) (s.read, s.read + z + 1)).each p hp; omega)
    omega
  have hnx : In (s.read + (runLen s.f z s.read : Nat)) (built f3 (heldR z s) (s.read, s.read + z + 1)) := (hin _).2 ⟨⟨by omega, by omega⟩, by rw [runLen_none h.win]; simp⟩
  obtain ⟨G, hG⟩ : ∃ G, G = built f3 (heldR z s) (s.read, s.read + z + 1) := ⟨_, rfl⟩
  rw [← hG] at hn hin hlen hnx ⊢
  cases G with
  | nil => exact absurd hnx (in_nil _)
  | cons g r =>
    obtain ⟨lo, hi⟩ := g
    have hlt := hn.head
    simp only at hlt
    have hlo := (hin lo).1 ((in_cons _ _ _).2 (.inl ⟨Int.le_refl _, hlt⟩))
    have e : lo = s.read + (runLen s.f z s.read : Nat) := by
      have a1 : s.read + (runLen s.f z s.read : Nat) ≤ lo := by
        by_cases a2 : lo < s.read + (runLen s.f z s.read : Nat)
        · have := runLen_held s.f z s.read (lo - s.read).toNat (by omega)
          rw [show s.read + ((lo - s.read).toNat : Int) = lo by omega] at this
          exact absurd this hlo.2
        · omega
      rcases (in_cons _ _ _).1 hnx with a3 | a3
      · simp only at a3; omega
      · have := hn.beyond a3
        simp only at this
        omega
    refine ⟨hi, r, by rw [e], by omega⟩
theorem fits_built {f : Bool → Bool → Bool} (hf0 : f false false = false) {S : Sp} {p q : Int} (hf : Fits S) (p0 : 0 ≤ p) (p1 : p ≤ 18446744073709551615) (q0 : 0 ≤ q) (q1 : q ≤ 18446744073709551615) : Fits (built f S (p, q)) := by
  intro r hr
  have hn := (built_norm hf0 S (p, q)).each r hr
  have h1 := (built_in hf0 S (p, q) r.1).1 ⟨r, hr, Int.le_refl _, hn⟩
  have h2 := (built_in hf0 S (p, q) (r.2 - 1)).1 ⟨r, hr, by omega, by omega⟩
  have key : ∀ x, f (inB x S) (inB x [(p, q)]) = true → 0 ≤ x ∧ x < 18446744073709551615 := by
    intro x hx
    by_cases u : inB x S = true
    · obtain ⟨t, ht, a, b⟩ := inB_iff.1 u
      have := hf t ht
      omega
    · by_cases v : inB x [(p, q)] = true
      · have := (in_one _ _).1 (inB_iff.1 v)
        have h5 : p ≤ x := this.1
        have h6 : x < q := this.2
        omega
      · rw [Bool.not_eq_true] at u v
        rw [u, v, hf0] at hx
        cases hx
  have a := key _ h1
  have b := key _ h2
  omega
theorem outsR_get (z : Nat) : ∀ (es : List REv) (s : RB) (k : Nat) (h : k < es.length), (outsR z s es)[k]? = some (stepR z ((es.take k).foldl (fun s e => (stepR z s e).2) s) (es[k])).1 := by
  intro es
  induction es with
  | nil => intro s k h; simp at h
  | cons e r ih =>
    intro s k h
    cases k with
    | zero => rfl
    | succ k =>
      rw [outsR, List.getElem?_cons_succ, ih _ k (by simpa using h)]
      rfl
theorem fin_end (z : Nat) (x : Int) (es : List REv) (k : Nat) (h : (stateR z x (es.take k)).hf = 1) : (stateR z x es).hf = 1 ∧ (stateR z x es).fin = (stateR z x (es.take k)).fin := by
  have gen : ∀ (es : List REv) (s : RB), s.hf = 1 → (es.foldl (fun s e => (stepR z s e).2) s).hf = 1 ∧ (es.foldl (fun s e => (stepR z s e).2) s).fin = s.fin := by
    intro es
    induction es with
    | nil => intro s h; exact ⟨h, rfl⟩
    | cons e r ih =>
      intro s h
      obtain ⟨h1, h2⟩ := fin_step (z := z) (e := e) h
      obtain ⟨h3, h4⟩ := ih _ h1
      exact ⟨h3, h4.trans h2⟩
  have e : stateR z x es = ((es.drop k).foldl (fun s e => (stepR z s e).2) (stateR z x (es.take k))) := by
    unfold stateR
    rw [← List.foldl_append, List.take_append_drop]
  rw [e]
  exact gen _ _ h
end Go.Proofs.Ytpeecjoadgefjaa
