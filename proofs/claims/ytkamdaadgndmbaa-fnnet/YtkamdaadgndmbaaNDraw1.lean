import Derived.Test.YtkamdaadgndmbaaDrawsGr
import Derived.Test.YtkamdaadgndmbaaNLaw3
namespace Go.Proofs.Ytkamdaadgndmbaa
open Go.ChangeShapes Go.WideShapes Go.ChangeAt Go.RowKit
set_option linter.unusedVariables false

/-- k bytes, and the state behind them. -/
def bytesF (zs : List Int) (σ : Src) : Nat → List Int × Src
  | 0 => ([], σ)
  | k + 1 => ((bytesF zs σ k).1 ++ [(nextF zs (bytesF zs σ k).2 256).1], (nextF zs (bytesF zs σ k).2 256).2)
theorem bytesF_length (zs : List Int) (σ : Src) : ∀ k, (bytesF zs σ k).1.length = k := by
  intro k
  induction k with
  | zero => rfl
  | succ k ih => simp [bytesF, ih]

set_option maxHeartbeats 800000 in
theorem drawBytes_at (w0 w : World) (b : Nat) (a : Option Addr) (zs : List Int) (cap m : Nat) (σ : Src) (hd : DrawAt w0 w b a zs.length cap σ) (hz : Ints .u8 w0 a zs) (hv : ∀ x ∈ zs, 0 ≤ x ∧ x ≤ 255) (hl : zs.length ≤ 2000000) (hm : m ≤ 1000) :
    Calls Try.prog 38 #[.pointer (some ⟨b, 0, none⟩), .int .i64 m] w fun e w' => ∃ (av : Option Addr) (cp : Nat), e = .returned (.slice av m cp) ∧ (∀ x ∈ (bytesF zs σ m).1, 0 ≤ x ∧ x ≤ 255) ∧
      w'.ownsRow w.heap.size 5 1 (.slice av m cp) m ((bytesF zs σ m).1.map (.int .u8)) ∧ DrawAt w0 w' b a zs.length cap (bytesF zs σ m).2 ∧ w.grownBy w' (some b) := by
  have hbl := hd.lt
  have hnew := hd.new
  have hs0 := hd.bel.size
  have hmade : (w.alloc (.cells #[] 5)).ownsRow w.heap.size 5 1 (.slice (some ⟨w.heap.size, 0, none⟩) 0 0) 0 ((bytesF zs σ 0).1.map (.int .u8)) := World.ownsRow_made w #[] 0 (Nat.le_refl _) (by unfold maxLen; omega) rfl
  have hd0 := hd.grown (World.grownBy_alloc w (.cells #[] 5) none) (by simp)
  have hg0 : w.grownBy (w.alloc (.cells #[] 5)) (some b) := World.grownBy_alloc w _ _
  go_enter Try.func38, Try.ntmps38
  go_wp2
  go_loopw [5, 6] (fun v i wr => ∃ (k : Nat) (av : Option Addr) (cp : Nat), k ≤ m ∧ i = .int .i64 k ∧ v = .slice av k cp ∧ (∀ x ∈ (bytesF zs σ k).1, 0 ≤ x ∧ x ≤ 255) ∧ wr.ownsRow w.heap.size 5 1 (.slice av k cp) k ((bytesF zs σ k).1.map (.int .u8)) ∧ DrawAt w0 wr b a zs.length cap (bytesF zs σ k).2 ∧ w.grownBy wr (some b)) (fun _ i _ => m - (intOf i).toNat)
  case atStart => exact ⟨0, _, _, Nat.zero_le _, rfl, rfl, by simp [bytesF], hmade, hd0, hg0⟩
  case round =>
    clear hmade hd0 hg0
    obtain ⟨k, av, cp, hk, rfl, rfl, hyv, hown, hdr, hgr⟩ := hrel
    by_cases hlt : k < m
    · obtain ⟨ys, hys⟩ : ∃ ys, ys = (bytesF zs σ k).1 := ⟨_, rfl⟩
      obtain ⟨τ, hτ⟩ : ∃ τ, τ = (bytesF zs σ k).2 := ⟨_, rfl⟩
      have HY : Hid (ys = (bytesF zs σ k).1) := hys
      have HT : Hid (τ = (bytesF zs σ k).2) := hτ
      rw [← hys] at hyv hown
      rw [← hτ] at hdr
      clear hys hτ
      go_wp2_with (first
        | (go_at_call 23; refine (next_at w0 _ b a zs cap τ 256 hdr hz hv hl (by omega) (by omega)).mono ?_; rintro e w1 ⟨r, τ1, rfl, HN, r0, r1, hd1, hg1⟩; have ho1 := kept_new hown hg1 hbl; have hs1 := hg1.size)
        | (at_builtin; refine wpList_app1 _ (by rfl) _ _ 22 5 (by rfl) .u8 1 Try.underlying22 info_byte (by decide) w.heap.size av k cp ys r (by rfl) (ho1.alloc _) ⟨w1.heap.size, 0, none⟩ (by rfl) (by simp) (by omega) (by have := hgr.size; simp; omega) ?_; intro g cap' w4 ho4 hg4))
      have hne : ∀ k', (Value.slice av k cp).ownBlock = some k' → w.heap.size ≤ k' := fun k' hk' => (hown.lt k' hk').1
      have hgA := grown_past (grown_past (grown_trans hgr hg1) (World.grownBy_alloc w1 (.cells #[.int .u8 r] 5) none) (by simp)) hg4 hne
      have hdA := (hd1.grown (World.grownBy_alloc w1 (.cells #[.int .u8 r] 5) none) (by simp)).grown hg4 (fun k' hk' => by have := hne k' hk'; omega)
      have HB : Hid (bytesF zs σ (k + 1) = (ys ++ [r], τ1)) := by unfold Hid; rw [bytesF, ← HY.out, ← HT.out, HN.out]
      go_roundw
      case rel =>
        refine ⟨k + 1, _, _, by omega, by go_num, rfl, ?_⟩
        rw [HB.out]
        exact ⟨by intro x hx; simp at hx; rcases hx with hx | rfl; exact hyv x hx; omega, ho4, hdA, hgA⟩
      case measure => simp [intOf]; omega
    · go_wp2
      go_ret
      obtain rfl : k = m := by omega
      exact ⟨_, _, rfl, hyv, hown, hdr, hgr⟩
theorem drawBytes_at2 (w0 w : World) (b : Nat) (a : Option Addr) (zs : List Int) (cap m : Nat) (σ : Src) (hd : DrawAt w0 w b a zs.length cap σ) (hz : Ints .u8 w0 a zs) (hv : ∀ x ∈ zs, 0 ≤ x ∧ x ≤ 255) (hl : zs.length ≤ 2000000) (hm : m ≤ 1000) :
    Calls Try.prog 38 #[.pointer (some ⟨b, 0, none⟩), .int .i64 m] w fun e w' => ∃ (ys : List Int) (σ' : Src) (av : Option Addr) (cp : Nat), e = .returned (.slice av m cp) ∧ Hid (bytesF zs σ m = (ys, σ')) ∧ ys.length = m ∧ (∀ x ∈ ys, 0 ≤ x ∧ x ≤ 255) ∧
      w'.ownsRow w.heap.size 5 1 (.slice av m cp) m (ys.map (.int .u8)) ∧ DrawAt w0 w' b a zs.length cap σ' ∧ w.grownBy w' (some b) := by
  refine (drawBytes_at w0 w b a zs cap m σ hd hz hv hl hm).mono ?_
  rintro e w' ⟨av, cp, rfl, h1, h2, h3, h4⟩
  exact ⟨_, _, av, cp, rfl, rfl, bytesF_length zs σ m, h1, h2, h3, h4⟩
/-- One append of one event that lies in block b, in a walk. -/
theorem wpList_appE (w : World) {ops : Array Oper} {rest : List Oper} {o : Oper} {a : Act} {Q : Exit → Act → World → Prop} (hgd : o.guard = none) (s x : Operand)
    (ho : o.op = .call { callee := .builtin .append, args := #[s, x], argTypes := #[23, 23] })
    (base : Nat) (av : Option Addr) (n cap : Nat) (xs : List Value) (hs : a.eval s = .slice av n cap) (hown : w.ownsRow base 35 5 (.slice av n cap) n xs)
    (b : Nat) (u0 u1 u2 u3 u4 : Value) (hx : a.eval x = .slice (some ⟨b, 0, none⟩) 1 1) (hb : w.heap[b]? = some (.cells #[u0, u1, u2, u3, u4] 35)) (h1 : ∀ u ∈ [u0, u1, u2, u3, u4], u.oneCell' = true) (hl : n ≤ 1048576) (hbase : base ≤ w.heap.size)
    (h : ∀ g cap' w', w'.ownsRow base 35 5 (.slice (some ⟨g, 0, none⟩) (n + 1) cap') (n + 1) (xs ++ [u0, u1, u2, u3, u4]) → w.grownBy w' (Value.slice av n cap).ownBlock →
      wpList Try.prog ops Q rest (a.put o.dst (.slice (some ⟨g, 0, none⟩) (n + 1) cap')) w') : wpList Try.prog ops Q (o :: rest) a w := by
  obtain ⟨i0, hi, hz0, hz1, hz2⟩ := info_parts info_ne
  obtain ⟨⟨f0, f1, f2, f3, f4⟩, _⟩ := cells5r hb
  refine wpList_append_own w hgd s x 23 ho base 35 i0 (.agg #[.int .i64 0, .int .i64 0, .int .i64 0, .int .i64 0, .slice none 0 0]) 5 56 Try.underlying23 hi hz0 hz1 hz2 rfl (by decide) (.slice av n cap) n xs hs hown ⟨b, 0, none⟩ 1 1 [u0, u1, u2, u3, u4] hx rfl ?_ h1 ?_ ?_ hbase ?_
  · intro j u hj
    match j, hj with
    | 0, hj => simp at hj; subst hj; rw [← f0]; congr 1
    | 1, hj => simp at hj; subst hj; rw [← f1]; congr 1
    | 2, hj => simp at hj; subst hj; rw [← f2]; congr 1
    | 3, hj => simp at hj; subst hj; rw [← f3]; congr 1
    | 4, hj => simp at hj; subst hj; rw [← f4]; congr 1
  · unfold maxLen; omega
  · omega
  · intro v' w' h2 h3 h4
    rcases h2.2 with ⟨rfl, h0⟩ | ⟨g, cap', cur, rfl, rest⟩
    · omega
    · exact h g cap' w' h2 h3
theorem flatE_snoc (G : Evs) (p : NEv × Option Addr × Nat) : flatE (G ++ [p]) = flatE G ++ [.int .i64 p.1.kd, .int .i64 p.1.pa, .int .i64 p.1.di, .int .i64 p.1.ix, .slice p.2.1 p.1.dat.length p.2.2] := by simp [flatE]
theorem EvsN.push {w w' : World} {base lim : Nat} {ov : Value} {G : Evs} {p : NEv × Option Addr × Nat} {g cap : Nat} (h : EvsN w base ov G) (hl : base ≤ lim) (hd : w.ownsRow lim 5 1 (evP p) p.1.dat.length (p.1.dat.map (.int .u8))) (hlt : ∀ q ∈ G, ∀ k, (evP q).ownBlock = some k → k < lim)
    (hg : w.grownBy w' ov.ownBlock) (hnew : w'.ownsRow base 35 5 (.slice (some ⟨g, 0, none⟩) (G.length + 1) cap) (G.length + 1) (flatE G ++ [.int .i64 p.1.kd, .int .i64 p.1.pa, .int .i64 p.1.di, .int .i64 p.1.ix, evP p])) :
    EvsN w' base (.slice (some ⟨g, 0, none⟩) (G.length + 1) cap) (G ++ [p]) := by
  have hn : ∀ {u : Value} {m : Nat} {ys : List Value} {b : Nat}, w.ownsRow b 5 1 u m ys → u.ownBlock = none ∨ u.ownBlock ≠ ov.ownBlock := fun {u m ys b} ho => by
    cases hu : u.ownBlock with
    | none => exact .inl rfl
    | some k =>
      refine .inr fun e2 => ?_
      obtain ⟨cs, hc⟩ := row_block ho hu
      obtain ⟨ct, hct⟩ := row_block h.row e2.symm
      exact type_ne hc hct (by decide) rfl
  refine ⟨by rw [flatE_snoc, List.length_append]; exact hnew, fun q hq => ?_, ?_⟩
  · rcases List.mem_append.1 hq with hq | hq
    · exact (h.dat q hq).kept hg (hn (h.dat q hq))
    · simp at hq; subst hq
      exact owned_base (hd.kept hg (hn hd)) hl
  · rw [List.filterMap_append, List.nodup_append]
    refine ⟨h.apart, by simp only [List.filterMap_cons, List.filterMap_nil]; split <;> simp, ?_⟩
    intro x hx y hy e
    subst e
    obtain ⟨q, hq, hqx⟩ := List.mem_filterMap.1 hx
    have h1 := hlt q hq x hqx
    have h2 : (evP p).ownBlock = some x := by
      simp only [List.filterMap_cons, List.filterMap_nil] at hy
      cases hpp : (evP p).ownBlock with
      | none => rw [hpp] at hy; simp at hy
      | some j => rw [hpp] at hy; simp at hy; rw [hy]
    have h3 := (hd.lt x h2).1
    omega

/-! ### The drawn events as functions -/
/-- The rest of an event, once its kind k is drawn. -/
def evK (zs : List Int) (paths p d ix : Int) (k : Int) (σ : Src) : NEv × Src :=
  if k < 45 then (⟨1, p, d, ix, (bytesF zs (nextF zs σ 6).2 (nextF zs σ 6).1.toNat).1⟩, (bytesF zs (nextF zs σ 6).2 (nextF zs σ 6).1.toNat).2)
  else if k < 65 then (⟨2, p, d, ix, []⟩, σ)
  else if k < 75 then (⟨3, p, d, ix, []⟩, σ)
  else if k < 87 then (⟨4, p, d, (nextF zs σ 2).1, []⟩, (nextF zs σ 2).2)
  else if k < 90 then (⟨5, p, (nextF zs σ 5).1, ix, []⟩, (nextF zs σ 5).2)
  else if k < 94 then (⟨6, p, d, ix, []⟩, σ)
  else if k = 94 then (⟨7 * (nextF zs σ 2).1, p, d, ix, []⟩, (nextF zs σ 2).2)
  else if k = 95 then (⟨1, paths - (paths + 1) * (nextF zs σ 2).1, d, ix, []⟩, (nextF zs σ 2).2)
  else if k = 96 then (⟨1, p, 3 * (nextF zs σ 2).1 - 1, ix, []⟩, (nextF zs σ 2).2)
  else if k = 97 then (⟨2, p, d, -1, []⟩, σ)
  else (⟨1, p, d, ix, (bytesF zs (nextF zs σ 3).2 (63 + (nextF zs σ 3).1).toNat).1⟩, (bytesF zs (nextF zs σ 3).2 (63 + (nextF zs σ 3).1).toNat).2)
def evFN (zs : List Int) (paths few : Int) (crowd : Bool) (σ : Src) : NEv × Src :=
  let x1 := nextF zs σ few
  let x2 := nextF zs x1.2 2
  let x3 := nextF zs x2.2 4
  let x4 := nextF zs x3.2 100
  if crowd = true then evK zs paths 0 0 x3.1 (x4.1 / 2) x4.2 else evK zs paths x1.1 x2.1 x3.1 x4.1 x4.2
def evsFN (zs : List Int) (paths few : Int) (crowd : Bool) (σ : Src) : Nat → List NEv × Src
  | 0 => ([], σ)
  | k + 1 => ((evsFN zs paths few crowd σ k).1 ++ [(evFN zs paths few crowd (evsFN zs paths few crowd σ k).2).1], (evFN zs paths few crowd (evsFN zs paths few crowd σ k).2).2)
theorem evsFN_length (zs : List Int) (paths few : Int) (crowd : Bool) (σ : Src) : ∀ k, (evsFN zs paths few crowd σ k).1.length = k := by
  intro k
  induction k with
  | zero => rfl
  | succ k ih => simp [evsFN, ih]
end Go.Proofs.Ytkamdaadgndmbaa
