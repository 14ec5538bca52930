import Derived.Test.YtlagaiekoahjnaaDrawsGp
import Derived.Test.YtlagaiekoahjnaaViewBase
import Derived.Test.YtlagaiekoahjnaaMapBase
import Derived.LoopTactic
import Derived.Deep.Cut
import Derived.Deep.CutRange
import Derived.Lib.SmallJoins
namespace Go.Proofs.Ytlagaiekoahjnaa
open Go.ChangeShapes Go.WideShapes Go.ChangeAt Go.RowKit
set_option linter.unusedVariables false

theorem set_same {l : List Value} {j : Nat} {x : Value} (h : l[j]? = some x) : l.set j x = l := by
  obtain ⟨hl, he⟩ := List.getElem?_eq_some_iff.1 h
  rw [← he, List.set_getElem_self]
section
variable (S : Vws) (j : Nat) (hj : j < S.length) (y : Int)
theorem flatV_ali : (flatV S).set (j * 3) (.int .i64 y) = flatV (S.set j ⟨y, (S[j]).bck, (S[j]).rom⟩) := by
  obtain ⟨h0, h1, h2⟩ := flatV_at hj
  rw [← flatV_set S j _ hj]
  have g1 : ((flatV S).set (j * 3) (.int .i64 y))[j * 3 + 1]? = some (.int .i64 (S[j]).bck) := by rw [List.getElem?_set_ne (by omega)]; exact h1
  have g2 : ((flatV S).set (j * 3) (.int .i64 y))[j * 3 + 2]? = some (.int .i64 (S[j]).rom) := by rw [List.getElem?_set_ne (by omega)]; exact h2
  show _ = (((flatV S).set (j * 3) (.int .i64 y)).set (j * 3 + 1) (.int .i64 (S[j]).bck)).set (j * 3 + 2) (.int .i64 (S[j]).rom)
  rw [set_same g1, set_same g2]
theorem flatV_bck : (flatV S).set (j * 3 + 1) (.int .i64 y) = flatV (S.set j ⟨(S[j]).ali, y, (S[j]).rom⟩) := by
  obtain ⟨h0, h1, h2⟩ := flatV_at hj
  rw [← flatV_set S j _ hj]
  show _ = (((flatV S).set (j * 3) (.int .i64 (S[j]).ali)).set (j * 3 + 1) (.int .i64 y)).set (j * 3 + 2) (.int .i64 (S[j]).rom)
  have g2 : ((flatV S).set (j * 3 + 1) (.int .i64 y))[j * 3 + 2]? = some (.int .i64 (S[j]).rom) := by rw [List.getElem?_set_ne (by omega)]; exact h2
  rw [set_same h0, set_same g2]
theorem flatV_rom : (flatV S).set (j * 3 + 2) (.int .i64 y) = flatV (S.set j ⟨(S[j]).ali, (S[j]).bck, y⟩) := by
  obtain ⟨h0, h1, h2⟩ := flatV_at hj
  rw [← flatV_set S j _ hj]
  show _ = (((flatV S).set (j * 3) (.int .i64 (S[j]).ali)).set (j * 3 + 1) (.int .i64 (S[j]).bck)).set (j * 3 + 2) (.int .i64 y)
  rw [set_same h0, set_same h1]
end
theorem wpList_oneV (w : World) {ops : Array Oper} {rest : List Oper} {o : Oper} {a : Act} {Q : Exit → Act → World → Prop} (hgd : o.guard = none) (s x : Operand)
    (ho : o.op = .call { callee := .builtin .append, args := #[s, x], argTypes := #[39, 39] })
    (base : Nat) (av : Option Addr) (n cap : Nat) (S : Vws) (hn : S.length = n) (c0 c1 c2 : Int) (hs : a.eval s = .slice av n cap) (hown : w.ownsRow base 57 3 (.slice av n cap) n (flatV S))
    (b : Nat) (hx : a.eval x = .slice (some ⟨b, 0, none⟩) 1 1) (hc0 : w.cell? ⟨b, 0, none⟩ = some (.int .i64 c0)) (hc1 : w.cell? ⟨b, 1, none⟩ = some (.int .i64 c1)) (hc2 : w.cell? ⟨b, 2, none⟩ = some (.int .i64 c2)) (hl : n ≤ 4294967296) (hbase : base ≤ w.heap.size)
    (h : ∀ g cap' w', w'.ownsRow base 57 3 (.slice (some ⟨g, 0, none⟩) (n + 1) cap') (n + 1) (flatV (S ++ [⟨c0, c1, c2⟩])) → w.grownBy w' (Value.slice av n cap).ownBlock →
      wpList Try.prog ops Q rest (a.put o.dst (.slice (some ⟨g, 0, none⟩) (n + 1) cap')) w') : wpList Try.prog ops Q (o :: rest) a w := by
  obtain ⟨i0, hi, hz0, hz1, hz2⟩ := info_parts infoV
  refine wpList_append_own w hgd s x 39 ho base 57 i0 (.agg #[.int .i64 0, .int .i64 0, .int .i64 0]) 3 24 Try.underlying39 hi hz0 hz1 hz2 rfl (by decide) (.slice av n cap) n (flatV S) hs hown ⟨b, 0, none⟩ 1 1 [.int .i64 c0, .int .i64 c1, .int .i64 c2] hx rfl ?_ ?_ ?_ ?_ hbase ?_
  · intro j u hj
    match j, hj with
    | 0, hj => simp at hj; subst hj; rw [← hc0]; congr 1
    | 1, hj => simp at hj; subst hj; rw [← hc1]; congr 1
    | 2, hj => simp at hj; subst hj; rw [← hc2]; congr 1
  · intro u hu; simp at hu; rcases hu with rfl | rfl | rfl <;> rfl
  · unfold maxLen; omega
  · omega
  · intro v' w' h2 h3 h4
    rcases h2.2 with ⟨rfl, h0⟩ | ⟨g, cap', cur, rfl, rest⟩
    · omega
    · exact h g cap' w' (by rw [flatV_append, flatV_one]; exact h2) h3
theorem cells3 {w : World} {B : Nat} {t : TypeId} {x0 x1 x2 : Value} (h : w.heap[B]? = some (.cells #[x0, x1, x2] t (0, 0))) :
    (w.cell? ⟨B, 0, none⟩ = some x0 ∧ w.cell? ⟨B, 1, none⟩ = some x1 ∧ w.cell? ⟨B, 2, none⟩ = some x2) ∧ w.frozen? ⟨B, 0, none⟩ = false ∧ w.frozen? ⟨B, 1, none⟩ = false ∧ w.frozen? ⟨B, 2, none⟩ = false :=
  ⟨⟨Go.Joins.cell_of_block h 0, Go.Joins.cell_of_block h 1, Go.Joins.cell_of_block h 2⟩, Go.Joins.unfrozen_of_block h _, Go.Joins.unfrozen_of_block h _, Go.Joins.unfrozen_of_block h _⟩

theorem row_some {w : World} {base : Nat} {e : TypeId} {size : Nat} {av : Option Addr} {n cap : Nat} {xs : List Value} (h : w.ownsRow base e size (.slice av n cap) n xs) (hn : 0 < n) : ∃ g, av = some ⟨g, 0, none⟩ := by
  rcases h.2 with ⟨h', h0⟩ | ⟨g, cap', cur, h', _⟩
  · omega
  · simp only [Value.slice.injEq] at h'
    exact ⟨g, h'.1⟩
theorem put_row {w : World} {base : Nat} {e : TypeId} {size g n cap : Nat} {xs ys : List Value} (h : w.ownsRow base e size (.slice (some ⟨g, 0, none⟩) n cap) n xs) (j : Nat) (v : Value) (he : xs.set j v = ys) : (w.setCell ⟨g, j, none⟩ v).ownsRow base e size (.slice (some ⟨g, 0, none⟩) n cap) n ys := by
  have h1 := (h.stored j v).1
  rw [he] at h1
  exact h1
theorem rowV_at {w : World} {base : Nat} {e : TypeId} {g n cap : Nat} {S : Vws} (hn : S.length = n) (h : w.ownsRow base e 3 (.slice (some ⟨g, 0, none⟩) n cap) n (flatV S)) {j : Nat} (hj : j < S.length) :
    w.cell? ⟨g, j * 3, none⟩ = some (.int .i64 (S[j]).ali) ∧ w.cell? ⟨g, j * 3 + 1, none⟩ = some (.int .i64 (S[j]).bck) ∧ w.cell? ⟨g, j * 3 + 2, none⟩ = some (.int .i64 (S[j]).rom) := by
  subst hn
  obtain ⟨h1, h2, h3⟩ := flatV_at hj
  exact ⟨by rw [h.cellAt _ (by omega)]; exact h1, by rw [h.cellAt _ (by omega)]; exact h2, by rw [h.cellAt _ (by omega)]; exact h3⟩
theorem fitsV_set {S : Vws} {j : Nat} {p : Vw} (h : FitsV S) (hp : p.ok) : FitsV (S.set j p) := by
  intro m hm
  rcases List.mem_or_eq_of_mem_set hm with h' | h'
  · exact h m h'
  · rw [h']; exact hp
def sliceLen : Value → Nat
  | .slice _ n _ => n
  | _ => 0

/-- One path, as it is drawn. -/
def viewF (zs : List Int) (σ : Src) : Vw × Src :=
  let x1 := nextF zs σ 4
  let x2 := nextF zs x1.2 4
  let x3 := nextF zs x2.2 4
  (⟨if x3.1 = 0 then 0 else 1, x1.1, x2.1⟩, x3.2)
def viewsF (zs : List Int) : Nat → Src → Vws → Vws × Src
  | 0, σ, out => (out, σ)
  | k + 1, σ, out => viewsF zs k (viewF zs σ).2 (out ++ [(viewF zs σ).1])
def vAt (S : Vws) (j : Nat) : Vw := S.getD j zeroV
def turnV (S : Vws) (k : Int) (i : Nat) : Vws :=
  if k = 0 then S.set i ⟨2, (vAt S i).bck, (vAt S i).rom⟩
  else if k = 1 then S.set i ⟨(vAt S i).ali, (vAt S i).bck, 17⟩
  else if k = 2 then S.set i ⟨(vAt S i).ali, -1, (vAt S i).rom⟩
  else if k = 3 then []
  else if k = 4 then S ++ List.replicate (9 - S.length) (vAt S 0)
  else if k = 5 then S.set i ⟨(vAt S i).ali, 16, 16⟩
  else S
def pathsF (zs : List Int) (σ : Src) : Vws × Src :=
  let x := nextF zs σ 8
  let r := viewsF zs (x.1.toNat + 1) x.2 []
  let k := nextF zs r.2 30
  let i := nextF zs k.2 (1 + x.1)
  (turnV r.1 k.1 i.1.toNat, i.2)

set_option maxHeartbeats 1000000 in
set_option maxRecDepth 100000 in
theorem drawPaths_at (w0 w : World) (b : Nat) (a : Option Addr) (zs : List Int) (cap : Nat) (σ : Src) (hd : DrawAt w0 w b a zs.length cap σ) (hz : Ints .u8 w0 a zs) (hv : ∀ x ∈ zs, 0 ≤ x ∧ x ≤ 255) (hl : zs.length ≤ 2000000) :
    Calls Try.prog 55 #[.pointer (some ⟨b, 0, none⟩)] w fun e w' => ∃ (av : Option Addr) (cp n : Nat) (S : Vws) (τ : Src), e = .returned (.slice av n cp) ∧ Hid (pathsF zs σ = (S, τ)) ∧ S.length = n ∧ n ≤ 9 ∧ FitsV S ∧
      w'.ownsRow w.heap.size 57 3 (.slice av n cp) n (flatV S) ∧ DrawAt w0 w' b a zs.length cap τ ∧ w.grownBy w' (some b) := by
  have hbl := hd.lt
  have hs0 := hd.bel.size
  have hmade : (w.alloc (.cells #[] 57)).ownsRow w.heap.size 57 3 (.slice (some ⟨w.heap.size, 0, none⟩) 0 0) 0 (flatV []) := World.ownsRow_made w #[] 0 (Nat.le_refl _) (by unfold maxLen; omega) rfl
  have hd0 := hd.grown (World.grownBy_alloc w (.cells #[] 57) none) (by simp)
  have hg0 : w.grownBy (w.alloc (.cells #[] 57)) (some b) := World.grownBy_alloc w _ _
  go_enter Try.func55, Try.ntmps55
  go_wp2_with fail
  refine (next_at w0 _ b a zs cap σ 8 hd0 hz hv hl (by omega) (by omega)).mono ?_
  rintro e w1 ⟨r1, σ1, rfl, N1, l1, u1, hd1, g1⟩
  obtain ⟨M, rfl⟩ : ∃ M : Nat, r1 = (M : Int) := ⟨r1.toNat, by omega⟩
  obtain ⟨N, hN⟩ : ∃ N, Hid (N = M + 1) := ⟨_, rfl⟩
  have hN8 : N ≤ 8 := by have := hN.out; omega
  have hN1 : 1 ≤ N := by have := hN.out; omega
  have hNi : (1 : Int) + (M : Int) = (N : Int) := by have := hN.out; omega
  have ho1 := kept_new hmade g1 hbl
  have gr1 := grown_trans hg0 g1
  clear hmade hg0 hd0 g1 hd
  go_wp2_with fail
  go_loopw [3, 5] (fun ov iv wr => ∃ (k : Nat) (av : Option Addr) (cp : Nat) (S : Vws) (τ : Src), k ≤ N ∧ iv = .int .i64 (k : Int) ∧ ov = .slice av k cp ∧ S.length = k ∧ FitsV S ∧ Hid (viewsF zs N σ1 [] = viewsF zs (N - k) τ S) ∧ wr.ownsRow w.heap.size 57 3 (.slice av k cp) k (flatV S) ∧ DrawAt w0 wr b a zs.length cap τ ∧ w.grownBy wr (some b)) (fun _ iv _ => N - (intOf iv).toNat)
  case atStart => exact ⟨0, _, _, [], σ1, Nat.zero_le _, rfl, rfl, rfl, by simp [FitsV], rfl, ho1, hd1, gr1⟩
  case round =>
  clear ho1 hd1 gr1
  obtain ⟨k, av, cp, S, τ, hk, rfl, rfl, hSk, hfS, HRk, hown, hdr, hgr⟩ := hrel
  have HSK : Hid (S.length = k) := hSk
  clear hSk
  by_cases hlt : k < N
  case pos =>
    have hki : (k : Int) < (N : Int) := by omega
    go_wp2_with fail
    refine (next_at w0 _ b a zs cap τ 4 hdr hz hv hl (by omega) (by omega)).mono ?_
    rintro e v1 ⟨a1, τ1, rfl, M1, m1, n1, d1, gg1⟩
    go_wp2_with fail
    refine (next_at w0 _ b a zs cap τ1 4 d1 hz hv hl (by omega) (by omega)).mono ?_
    rintro e v2 ⟨a2, τ2, rfl, M2, m2, n2, d2, gg2⟩
    have ho2 := kept_new (kept_new hown gg1 hbl) gg2 hbl
    have gr2 := grown_trans (grown_trans hgr gg1) gg2
    have hsz2 := gr2.size
    have d2a := d2.grown (World.grownBy_alloc v2 (.cells #[.int .i64 1, .int .i64 a1, .int .i64 a2] 57) none) (by simp)
    have hbx := heap_alloc_new v2 (.cells #[.int .i64 1, .int .i64 a1, .int .i64 a2] 57)
    have hza : (v2.alloc (.cells #[.int .i64 1, .int .i64 a1, .int .i64 a2] 57)).heap.size = v2.heap.size + 1 := by simp
    clear hown hgr gg1 gg2 hdr d1
    go_wp2_with fail
    refine (next_at w0 _ b a zs cap τ2 4 d2a hz hv hl (by omega) (by omega)).mono ?_
    rintro e v3 ⟨a3, τ3, rfl, M3, m3, n3, d3, gg3⟩
    have ho3 := kept_new (ho2.alloc _) gg3 hbl
    have hbx3 := (gg3.block v2.heap.size (by omega) (by simp; omega)).trans hbx
    have gr3 := grown_trans (grown_past gr2 (World.grownBy_alloc v2 (.cells #[.int .i64 1, .int .i64 a1, .int .i64 a2] 57) none) (by simp)) gg3
    have hbl3 : v2.heap.size < v3.heap.size := (Array.getElem?_eq_some_iff.1 hbx3).1
    obtain ⟨B, hB⟩ : ∃ B, B = v2.heap.size := ⟨_, rfl⟩
    rw [← hB] at hbx3 hbl3 ⊢
    have hBw : w.heap.size ≤ B := by omega
    have hBr : (Value.slice av k cp).ownBlock ≠ some B := fun e => by have := (ho2.lt _ e).2; omega
    clear hB hza hbx d2a d2 ho2 gr2 hsz2 gg3
    obtain ⟨⟨c0, c1, c2⟩, f0, f1, f2⟩ := cells3 hbx3
    go_upto_if 25 with fail
    go_cut [] from 25 to 26 (fun wx => ∃ y : Int, Hid (viewF zs τ = (⟨y, a1, a2⟩, τ3)) ∧ (y = 0 ∨ y = 1) ∧ wx.heap[B]? = some (.cells #[.int .i64 y, .int .i64 a1, .int .i64 a2] 57 (0, 0)) ∧ wx.ownsRow w.heap.size 57 3 (.slice av k cp) k (flatV S) ∧ DrawAt w0 wx b a zs.length cap τ3 ∧ w.grownBy wx (some b))
    case first =>
      by_cases h3 : a3 = 0
      · have b3 : (a3 == 0) = true := by simpa using h3
        have HV : Hid (viewF zs τ = (⟨0, a1, a2⟩, τ3)) := by unfold Hid viewF; simp only [M1.out, M2.out, M3.out, if_pos h3]
        have hgs := grown_set v3 B 0 (.int .i64 0)
        go_wp2_with fail
        go_meet
        case rel => exact ⟨0, HV, .inl rfl, by rw [Go.Joins.block_setCell hbx3]; rfl, ho3.kept hgs (by cases hv' : (Value.slice av k cp).ownBlock with | none => exact .inl rfl | some j => exact .inr fun e => hBr (by rw [hv', e])), d3.grown hgs (fun k' hk' => by have := Option.some.inj hk'; omega), grown_past gr3 hgs (fun k' hk' => by have := Option.some.inj hk'; omega)⟩
      · have b3 : (a3 == 0) = false := by simpa using h3
        have HV : Hid (viewF zs τ = (⟨1, a1, a2⟩, τ3)) := by unfold Hid viewF; simp only [M1.out, M2.out, M3.out, if_neg h3]
        go_wp2_with fail
        go_meet
        case rel => exact ⟨1, HV, .inr rfl, hbx3, ho3, d3, gr3⟩
    case rest =>
    clear M1 M2 M3 ho3 d3 gr3 hbx3 c0 c1 c2 f0 f1 f2
    obtain ⟨y, HV, hy, hbx4, ho4, d4, gr4⟩ := hcut
    obtain ⟨⟨c0, c1, c2⟩, f0, f1, f2⟩ := cells3 hbx4
    have hNk : Hid (N - k = (N - (k + 1)) + 1) := by unfold Hid; omega
    have HE : Hid (viewsF zs N σ1 [] = viewsF zs (N - (k + 1)) τ3 (S ++ [⟨y, a1, a2⟩])) := by unfold Hid; rw [HRk.out, hNk.out, viewsF, HV.out]
    have hcsz := gr4.size
    have hn1 : (wc.alloc (.cells #[.int .i64 y, .int .i64 a1, .int .i64 a2] 57)).heap[wc.heap.size]? = some (.cells #[.int .i64 y, .int .i64 a1, .int .i64 a2] 57 (0, 0)) := heap_alloc_new wc _
    go_wp2_with (at_builtin; refine wpList_oneV _ rfl _ _ (by rfl) w.heap.size av k cp S HSK.out y a1 a2 (by rfl) (ho4.alloc _) wc.heap.size (by rfl) (cells3 hn1).1.1 (cells3 hn1).1.2.1 (cells3 hn1).1.2.2 (by omega) (by simp; omega) ?_; intro g5 cap5 w5 ho5 hg5)
    have hne : ∀ k', (Value.slice av k cp).ownBlock = some k' → w.heap.size ≤ k' := fun k' hk' => (ho4.lt k' hk').1
    have hgA := grown_past (grown_past gr4 (World.grownBy_alloc wc (.cells #[.int .i64 y, .int .i64 a1, .int .i64 a2] 57) none) (by simp)) hg5 hne
    have hdA := (d4.grown (World.grownBy_alloc wc (.cells #[.int .i64 y, .int .i64 a1, .int .i64 a2] 57) none) (by simp)).grown hg5 (fun k' hk' => by have := hne k' hk'; omega)
    go_roundw
    case rel => exact ⟨k + 1, _, _, S ++ [⟨y, a1, a2⟩], τ3, by omega, by go_num, rfl, by rw [List.length_append, HSK.out]; rfl, by intro p hp; rcases List.mem_append.1 hp with h | h; exact hfS p h; simp at h; subst h; exact ⟨by simp only; omega, by simp only; omega, by simp only; omega⟩, HE, ho5, hdA, hgA⟩
    case measure => simp [intOf]; omega
  case neg =>
  obtain rfl : k = N := by omega
  have hkk : ¬ (k : Int) < (k : Int) := by omega
  go_wp2_with fail
  refine (next_at w0 _ b a zs cap τ 30 hdr hz hv hl (by omega) (by omega)).mono ?_
  rintro e w2 ⟨r2, σ2, rfl, N2, l2, u2, hd2, g2⟩
  go_wp2_with fail
  refine (next_at w0 _ b a zs cap σ2 (k : Int) hd2 hz hv hl (by omega) (by omega)).mono ?_
  rintro e w3 ⟨r3, σ3, rfl, N3, l3, u3, hd3, g3⟩
  obtain ⟨I, rfl⟩ : ∃ I : Nat, r3 = (I : Int) := ⟨r3.toNat, by omega⟩
  have hI : I < k := by omega
  have hIi : (I : Int) < (k : Int) := by omega
  have hIl : I < S.length := by rw [HSK.out]; exact hI
  have ho3 := kept_new (kept_new hown g2 hbl) g3 hbl
  have gr3 := grown_trans (grown_trans hgr g2) g3
  have HP : Hid (pathsF zs σ = (turnV S r2 I, σ3)) := by
    unfold Hid pathsF
    simp only [N1.out, Int.toNat_natCast]
    rw [← hN.out, HRk.out, Nat.sub_self]
    simp only [viewsF, N2.out, hNi, N3.out, Int.toNat_natCast]
  obtain ⟨g, rfl⟩ := row_some ho3 (by omega)
  have hgb := ho3.lt g rfl
  obtain ⟨c0, c1, c2⟩ := rowV_at HSK.out ho3 hIl
  have f0 := ho3.frozenAt (I * 3)
  have f1 := ho3.frozenAt (I * 3 + 1)
  have f2 := ho3.frozenAt (I * 3 + 2)
  have hva : vAt S I = S[I] := by simp [vAt, hIl]
  have hsz3 := gr3.size
  clear hown hgr g2 g3 hdr hd2 HRk N1 N2 N3
  go_upto_if 37 with fail
  go_cut [3] from 37 to 76 (fun v wx => ∃ (av' : Option Addr) (cp' n' : Nat) (S' : Vws), v = .slice av' n' cp' ∧ S'.length = n' ∧ n' ≤ 9 ∧ FitsV S' ∧ Hid (turnV S r2 I = S') ∧ wx.ownsRow w.heap.size 57 3 (.slice av' n' cp') n' (flatV S') ∧ DrawAt w0 wx b a zs.length cap σ3 ∧ w.grownBy wx (some b))
  case first =>
    by_cases h0 : r2 = 0
    case pos =>
      have b0 : (r2 == 0) = true := by simpa using h0
      have HT : Hid (turnV S r2 I = S.set I ⟨2, (S[I]).bck, (S[I]).rom⟩) := by unfold Hid turnV; rw [if_pos h0, hva]
      have hgs := grown_set w3 g (I * 3) (.int .i64 2)
      have hrw := put_row ho3 (I * 3) (.int .i64 2) (flatV_ali S I hIl 2)
      have hft : FitsV (S.set I ⟨2, (S[I]).bck, (S[I]).rom⟩) := fitsV_set hfS (by have := hfS _ (List.getElem_mem hIl); exact ⟨by simp only; first | exact this.1 | omega, by simp only; first | exact this.2.1 | omega, by simp only; first | exact this.2.2 | omega⟩)
      have H0 : Hid (r2 = 0) := h0
      clear h0
      go_wp2_with fail
      go_meet
      case rel => exact ⟨_, _, _, _, rfl, by rw [List.length_set]; exact HSK.out, by omega, hft, HT, hrw, hd3.grown hgs (fun k' hk' => by have := Option.some.inj hk'; omega), grown_past gr3 hgs (fun k' hk' => by have := Option.some.inj hk'; omega)⟩
    case neg =>
    have b0 : (r2 == 0) = false := by simpa using h0
    by_cases h1 : r2 = 1
    case pos =>
      have b1 : (r2 == 1) = true := by simpa using h1
      have HT : Hid (turnV S r2 I = S.set I ⟨(S[I]).ali, (S[I]).bck, 17⟩) := by unfold Hid turnV; rw [if_neg h0, if_pos h1, hva]
      have hgs := grown_set w3 g (I * 3 + 2) (.int .i64 17)
      have hrw := put_row ho3 (I * 3 + 2) (.int .i64 17) (flatV_rom S I hIl 17)
      have hft : FitsV (S.set I ⟨(S[I]).ali, (S[I]).bck, 17⟩) := fitsV_set hfS (by have := hfS _ (List.getElem_mem hIl); exact ⟨by simp only; first | exact this.1 | omega, by simp only; first | exact this.2.1 | omega, by simp only; first | exact this.2.2 | omega⟩)
      have H1 : Hid (r2 = 1) := h1
      clear h1
      go_wp2_with fail
      go_meet
      case rel => exact ⟨_, _, _, _, rfl, by rw [List.length_set]; exact HSK.out, by omega, hft, HT, hrw, hd3.grown hgs (fun k' hk' => by have := Option.some.inj hk'; omega), grown_past gr3 hgs (fun k' hk' => by have := Option.some.inj hk'; omega)⟩
    case neg =>
    have b1 : (r2 == 1) = false := by simpa using h1
    by_cases h2 : r2 = 2
    case pos =>
      have b2 : (r2 == 2) = true := by simpa using h2
      have HT : Hid (turnV S r2 I = S.set I ⟨(S[I]).ali, -1, (S[I]).rom⟩) := by unfold Hid turnV; rw [if_neg h0, if_neg h1, if_pos h2, hva]
      have hgs := grown_set w3 g (I * 3 + 1) (.int .i64 (-1))
      have hrw := put_row ho3 (I * 3 + 1) (.int .i64 (-1)) (flatV_bck S I hIl (-1))
      have hft : FitsV (S.set I ⟨(S[I]).ali, -1, (S[I]).rom⟩) := fitsV_set hfS (by have := hfS _ (List.getElem_mem hIl); exact ⟨by simp only; first | exact this.1 | omega, by simp only; first | exact this.2.1 | omega, by simp only; first | exact this.2.2 | omega⟩)
      have H2 : Hid (r2 = 2) := h2
      clear h2
      go_wp2_with fail
      go_meet
      case rel => exact ⟨_, _, _, _, rfl, by rw [List.length_set]; exact HSK.out, by omega, hft, HT, hrw, hd3.grown hgs (fun k' hk' => by have := Option.some.inj hk'; omega), grown_past gr3 hgs (fun k' hk' => by have := Option.some.inj hk'; omega)⟩
    case neg =>
    have b2 : (r2 == 2) = false := by simpa using h2
    by_cases h3 : r2 = 3
    case pos =>
      have b3 : (r2 == 3) = true := by simpa using h3
      have HT : Hid (turnV S r2 I = []) := by unfold Hid turnV; rw [if_neg h0, if_neg h1, if_neg h2, if_pos h3]
      have H3 : Hid (r2 = 3) := h3
      clear h3
      go_wp2_with fail
      go_meet
      case rel => exact ⟨none, 0, 0, [], rfl, rfl, by omega, by simp [FitsV], HT, World.ownsRow_nil w3 w.heap.size 57 3, hd3, gr3⟩
    case neg =>
    have b3 : (r2 == 3) = false := by simpa using h3
    by_cases h4 : r2 = 4
    case pos =>
      have b4 : (r2 == 4) = true := by simpa using h4
      have HT : Hid (turnV S r2 I = S ++ List.replicate (9 - S.length) (vAt S 0)) := by unfold Hid turnV; rw [if_neg h0, if_neg h1, if_neg h2, if_neg h3, if_pos h4]
      have H4 : Hid (r2 = 4) := h4
      clear h4
      go_wp2_with fail
      clear b0 b1 b2 b3 b4 h0 h1 h2 h3
      rename_i hh
      clear hh
      go_loopw [3] (fun ov wr => ∃ (j : Nat) (av' : Option Addr) (cp' n' : Nat), ov = .slice av' n' cp' ∧ n' = k + j ∧ n' ≤ 9 ∧ wr.ownsRow w.heap.size 57 3 (.slice av' n' cp') n' (flatV (S ++ List.replicate j (vAt S 0))) ∧ DrawAt w0 wr b a zs.length cap σ3 ∧ w.grownBy wr (some b)) (fun ov _ => 9 - sliceLen ov)
      case atStart => exact ⟨0, _, _, k, rfl, rfl, by omega, by simpa using ho3, hd3, gr3⟩
      case round =>
      clear c0 c1 c2 f0 f1 f2 ho3 hd3 gr3
      obtain ⟨j, av', cp', n', rfl, hn', hn9, hoj, hdj, grj⟩ := hrel
      have HN' : Hid (n' = k + j) := hn'
      have hnk : k ≤ n' := by omega
      clear hn'
      have hlj : (S ++ List.replicate j (vAt S 0)).length = n' := by rw [List.length_append, List.length_replicate, HSK.out, HN'.out]
      have HLJ : Hid _ := hlj
      clear hlj
      by_cases hj8 : n' ≤ 8
      case pos =>
        have hd8 : decide ((n' : Int) ≤ 8) = true := by rw [decide_eq_true_iff]; omega
        obtain ⟨g', rfl⟩ := row_some hoj (by omega)
        have h0l : 0 < (S ++ List.replicate j (vAt S 0)).length := by rw [HLJ.out]; omega
        obtain ⟨e0, e1, e2⟩ := rowV_at HLJ.out hoj h0l
        have h0e : (S ++ List.replicate j (vAt S 0))[0] = vAt S 0 := by
          have hS0 : 0 < S.length := by rw [HSK.out]; omega
          rw [List.getElem_append_left hS0]
          simp [vAt, hS0]
        rw [h0e] at e0 e1 e2
        simp only [Nat.zero_mul, Nat.zero_add] at e0 e1 e2
        have hn0 : (0 : Int) < (n' : Int) := by omega
        have hn0' : 0 < n' := by omega
        obtain ⟨q0, hq0⟩ : ∃ q0, q0 = (vAt S 0).ali := ⟨_, rfl⟩
        obtain ⟨q1, hq1⟩ : ∃ q1, q1 = (vAt S 0).bck := ⟨_, rfl⟩
        obtain ⟨q2, hq2⟩ : ∃ q2, q2 = (vAt S 0).rom := ⟨_, rfl⟩
        rw [← hq0] at e0
        rw [← hq1] at e1
        rw [← hq2] at e2
        have HQ : Hid (vAt S 0 = ⟨q0, q1, q2⟩) := by unfold Hid; rw [hq0, hq1, hq2]
        clear hq0 hq1 hq2 h0e h0l
        have hszj := grj.size
        have hn1 : (wr.alloc (.cells #[.int .i64 q0, .int .i64 q1, .int .i64 q2] 57)).heap[wr.heap.size]? = some (.cells #[.int .i64 q0, .int .i64 q1, .int .i64 q2] 57 (0, 0)) := heap_alloc_new wr _
        go_wp2_with (at_builtin; refine wpList_oneV _ rfl _ _ (by rfl) w.heap.size (some ⟨g', 0, none⟩) n' cp' (S ++ List.replicate j (vAt S 0)) HLJ.out q0 q1 q2 (by rfl) (hoj.alloc _) wr.heap.size (by rfl) (cells3 hn1).1.1 (cells3 hn1).1.2.1 (cells3 hn1).1.2.2 (by omega) (by simp; omega) ?_; intro g5 cap5 w5 ho5 hg5)
        have hne : ∀ k', (Value.slice (some ⟨g', 0, none⟩) n' cp').ownBlock = some k' → w.heap.size ≤ k' := fun k' hk' => (hoj.lt k' hk').1
        have hgA := grown_past (grown_past grj (World.grownBy_alloc wr (.cells #[.int .i64 q0, .int .i64 q1, .int .i64 q2] 57) none) (by simp)) hg5 hne
        have hdA := (hdj.grown (World.grownBy_alloc wr (.cells #[.int .i64 q0, .int .i64 q1, .int .i64 q2] 57) none) (by simp)).grown hg5 (fun k' hk' => by have := hne k' hk'; omega)
        have hrow5 : w5.ownsRow w.heap.size 57 3 (.slice (some ⟨g5, 0, none⟩) (n' + 1) cap5) (n' + 1) (flatV (S ++ List.replicate (j + 1) (vAt S 0))) := by
          rw [show S ++ List.replicate (j + 1) (vAt S 0) = S ++ List.replicate j (vAt S 0) ++ [⟨q0, q1, q2⟩] by rw [List.replicate_succ', ← List.append_assoc, ← HQ.out]]
          exact ho5
        go_roundw
        case rel => exact ⟨j + 1, _, _, n' + 1, rfl, by have := HN'.out; omega, by omega, hrow5, hdA, hgA⟩
        case measure => simp [sliceLen]; omega
      case neg =>
      have hd8 : decide ((n' : Int) ≤ 8) = false := by rw [decide_eq_false_iff_not]; omega
      have hj9 : Hid (9 - S.length = j) := by unfold Hid; rw [HSK.out]; have := HN'.out; omega
      have hft : FitsV (S ++ List.replicate j (vAt S 0)) := by
        intro p hp
        rcases List.mem_append.1 hp with h | h
        · exact hfS p h
        · rw [List.eq_of_mem_replicate h]
          have hS0 : 0 < S.length := by rw [HSK.out]; omega
          have : vAt S 0 = S[0] := by simp [vAt, hS0]
          rw [this]
          exact hfS _ (List.getElem_mem hS0)
      rw [hj9.out] at HT
      go_wp2_with fail
      go_meet
      case rel => exact ⟨_, _, _, _, rfl, HLJ.out, by omega, hft, HT, hoj, hdj, grj⟩
    case neg =>
    have b4 : (r2 == 4) = false := by simpa using h4
    by_cases h5 : r2 = 5
    case pos =>
      have b5 : (r2 == 5) = true := by simpa using h5
      have HT : Hid (turnV S r2 I = S.set I ⟨(S[I]).ali, 16, 16⟩) := by unfold Hid turnV; rw [if_neg h0, if_neg h1, if_neg h2, if_neg h3, if_neg h4, if_pos h5, hva]
      have hrw1 := put_row ho3 (I * 3 + 2) (.int .i64 16) (flatV_rom S I hIl 16)
      have hl1 : I < (S.set I ⟨(S[I]).ali, (S[I]).bck, 16⟩).length := by rw [List.length_set]; exact hIl
      have hrw2 := put_row hrw1 (I * 3 + 1) (.int .i64 16) (flatV_bck (S.set I ⟨(S[I]).ali, (S[I]).bck, 16⟩) I hl1 16)
      rw [List.set_set, List.getElem_set_self] at hrw2
      have hgs := grown_trans (grown_set w3 g (I * 3 + 2) (.int .i64 16)) (grown_set _ g (I * 3 + 1) (.int .i64 16))
      have hft : FitsV (S.set I ⟨(S[I]).ali, 16, 16⟩) := fitsV_set hfS (by have := hfS _ (List.getElem_mem hIl); exact ⟨by simp only; exact this.1, by simp only; omega, by simp only; omega⟩)
      have H5 : Hid (r2 = 5) := h5
      clear h5
      go_wp2_with fail
      go_meet
      case rel => exact ⟨_, _, _, _, rfl, by rw [List.length_set]; exact HSK.out, by omega, hft, HT, hrw2, hd3.grown hgs (fun k' hk' => by have := Option.some.inj hk'; omega), grown_past gr3 hgs (fun k' hk' => by have := Option.some.inj hk'; omega)⟩
    case neg =>
    have b5 : (r2 == 5) = false := by simpa using h5
    have HT : Hid (turnV S r2 I = S) := by unfold Hid turnV; rw [if_neg h0, if_neg h1, if_neg h2, if_neg h3, if_neg h4, if_neg h5]
    go_wp2_with fail
    go_meet
    case rel => exact ⟨_, _, _, S, rfl, HSK.out, by omega, hfS, HT, ho3, hd3, gr3⟩
  case rest =>
  clear c0 c1 c2 f0 f1 f2 ho3 hd3 gr3
  obtain ⟨av', cp', n', S', rfl, hn', hn9, hft, HT, hrow, hdr, hgr⟩ := hcut
  go_wp2_with fail
  go_ret
  exact ⟨_, _, _, S', σ3, rfl, by unfold Hid; rw [HP.out, HT.out], hn', hn9, hft, hrow, hdr, hgr⟩
end Go.Proofs.Ytlagaiekoahjnaa
