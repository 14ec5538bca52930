import Derived.Test.YtlagaiekoahjnaaPlanCode
import Derived.Test.YtlagaiekoahjnaaPickImpl
import Derived.Test.YtlagaiekoahjnaaMapQueue
import Derived.Deep.RegionHeld3
import Derived.Laws.Small
namespace Go.Proofs.Ytlagaiekoahjnaa
open Go.ChangeShapes Go.WideShapes Go.ChangeAt Go.RowKit
set_option linter.unusedVariables false

theorem elig_ne {V : Vws} {B q : Nat} (h : el V B q = true) (hq : q < V.length) : elig V B V.length ≠ [] := by
  have : q ∈ elig V B V.length := by simp only [elig, List.mem_filter, List.mem_range]; exact ⟨hq, h⟩
  intro e
  rw [e] at this
  simp at this

theorem anyEl_is (a : Option Addr) (V : Vws) (cap B : Nat) (r : Bool) (w : World) (hS : LieV w a V) (hf : FitsV V) (hl : V.length ≤ 8) (hB : B < 256) (hr : decide (elig V B V.length ≠ []) = r) :
    Calls Try.prog 77 #[.slice a V.length cap, .int .i64 (B : Int)] w fun e w' => e = .returned (.bool r) ∧ w' = w := by
  have HR : Hid _ := hr
  clear hr
  go_enter Try.func77, Try.ntmps77
  go_wp2
  go_loop [8] (fun i => ∃ q : Nat, q ≤ V.length ∧ i = .int .i64 q ∧ Hid (elig V B q = [])) (fun i => V.length - (intOf i).toNat)
  case atStart => exact ⟨0, Nat.zero_le _, rfl, rfl⟩
  case round =>
    obtain ⟨q, hq, rfl, hE⟩ := hrel
    by_cases hlt : q < V.length
    · cases hel : el V B q with
      | true =>
        have HEL : Hid _ := hel
        obtain rfl : r = true := by rw [← HR.out]; simp only [decide_eq_true_eq]; exact elig_ne hel hlt
        clear hel HR
        go_wp2_with (go_at_call 78; refine (eligible_is a V cap B q true _ hS hf hl hB hlt HEL.out).mono ?_; rintro e w2 ⟨rfl, rfl⟩)
        go_ret
        exact ⟨rfl, rfl⟩
      | false =>
        have HEL : Hid _ := hel
        have HN : Hid (elig V B (q + 1) = []) := by unfold Hid; rw [elig_no hel]; exact hE.out
        clear hel HR
        go_wp2_with (go_at_call 78; refine (eligible_is a V cap B q false _ hS hf hl hB hlt HEL.out).mono ?_; rintro e w2 ⟨rfl, rfl⟩)
        go_round
        case rel => exact ⟨q + 1, by omega, by go_num, HN⟩
        case measure => simp [intOf]; omega
    · obtain rfl : q = V.length := by omega
      obtain rfl : r = false := by rw [← HR.out, hE.out]; simp
      go_wp2
      go_ret
      exact ⟨rfl, rfl⟩

/-- Is mapping i to be sent again, and is there a path for it? -/
def qual (S : Mps) (V : Vws) (i : Nat) : Bool := match S[i]? with
  | some m => decide (m.que = 1) && decide (elig V m.car.toNat V.length ≠ [])
  | none => false
theorem qual_at {S : Mps} {V : Vws} {i : Nat} (h : i < S.length) {c0 c1 c2 c4 : Int} {C : Nat} (hn : S[i] = ⟨c0, c1, c2, (C : Int), c4⟩) : qual S V i = (decide (c4 = 1) && decide (elig V C V.length ≠ [])) := by
  unfold qual
  rw [List.getElem?_eq_getElem h, hn]
  simp
/-- The next frame without its paths. -/
structure NextIs (S : Mps) (V : Vws) (mx mp wt ed cl fm pl kd pc of ln : Int) (br : Nat) : Prop where
  is : (∃ (i : Nat) (hi : i < S.length) (c2 c4 : Int), S[i] = ⟨of, ln, c2, (br : Int), c4⟩ ∧ br < 256 ∧ qual S V i = true ∧ (∀ j, j < i → qual S V j = false) ∧ kd = 1 ∧ pc = (i : Int)) ∨
    ((∀ j, j < S.length → qual S V j = false) ∧ (S.length : Int) < mx ∧ elig V 0 V.length ≠ [] ∧ mp < wt ∧ mp < ed ∧ kd = 2 ∧ pc = 0 ∧ mp = of ∧ ln = min pl (min (wt - mp) (ed - mp)) ∧ br = 0) ∨
    ((∀ j, j < S.length → qual S V j = false) ∧ (S.length : Int) < mx ∧ elig V 0 V.length ≠ [] ∧ ¬ (mp < wt ∧ mp < ed) ∧ cl = 1 ∧ fm = 0 ∧ mp = wt ∧ kd = 3 ∧ pc = 0 ∧ wt = of ∧ ln = 0 ∧ br = 0) ∨
    ((∀ j, j < S.length → qual S V j = false) ∧ (¬ ((S.length : Int) < mx ∧ elig V 0 V.length ≠ []) ∨ (¬ (mp < wt ∧ mp < ed) ∧ ¬ (cl = 1 ∧ fm = 0 ∧ mp = wt))) ∧ kd = 0 ∧ pc = 0 ∧ of = 0 ∧ ln = 0 ∧ br = 0)

theorem first_or (q : Nat → Bool) : ∀ n, (∃ i, i < n ∧ q i = true ∧ ∀ j, j < i → q j = false) ∨ ∀ j, j < n → q j = false := by
  intro n
  induction n with
  | zero => exact .inr fun j h => by omega
  | succ n ih =>
    rcases ih with ⟨i, hi, h1, h2⟩ | h
    · exact .inl ⟨i, by omega, h1, h2⟩
    · cases e : q n with
      | true => exact .inl ⟨n, by omega, e, h⟩
      | false =>
        refine .inr fun j hj => ?_
        by_cases ej : j = n
        · subst ej; exact e
        · exact h j (by omega)

theorem next_exists {S : Mps} (hS : Valid S) (V : Vws) (mx mp wt ed cl fm pl : Int) : ∃ kd pc of ln br, NextIs S V mx mp wt ed cl fm pl kd pc of ln br := by
  rcases first_or (qual S V) S.length with ⟨i, hi, h1, h2⟩ | h
  · obtain ⟨c0, c1, c2, c3, c4, hn⟩ : ∃ c0 c1 c2 c3 c4 : Int, S[i] = ⟨c0, c1, c2, c3, c4⟩ := ⟨_, _, _, _, _, rfl⟩
    obtain ⟨C, rfl, hC⟩ := car_nat hS hi hn
    exact ⟨_, _, _, _, _, ⟨.inl ⟨i, hi, c2, c4, hn, hC, h1, h2, rfl, rfl⟩⟩⟩
  · by_cases hf : (S.length : Int) < mx ∧ elig V 0 V.length ≠ []
    · by_cases hd : mp < wt ∧ mp < ed
      · exact ⟨_, _, _, _, _, ⟨.inr (.inl ⟨h, hf.1, hf.2, hd.1, hd.2, rfl, rfl, rfl, rfl, rfl⟩)⟩⟩
      · by_cases he : cl = 1 ∧ fm = 0 ∧ mp = wt
        · exact ⟨_, _, _, _, _, ⟨.inr (.inr (.inl ⟨h, hf.1, hf.2, hd, he.1, he.2.1, he.2.2, rfl, rfl, rfl, rfl, rfl⟩))⟩⟩
        · exact ⟨_, _, _, _, _, ⟨.inr (.inr (.inr ⟨h, .inr ⟨hd, he⟩, rfl, rfl, rfl, rfl, rfl⟩))⟩⟩
    · exact ⟨_, _, _, _, _, ⟨.inr (.inr (.inr ⟨h, .inl hf, rfl, rfl, rfl, rfl, rfl⟩))⟩⟩

theorem below_set7 {B : Nat} {v w : World} (h : Below B v w) (g : Nat) (hg : B ≤ g) (u0 u1 u2 u3 u4 u5 u6 : Value) :
    Below B v (((((((w.setCell ⟨g, 0, none⟩ u0).setCell ⟨g, 1, none⟩ u1).setCell ⟨g, 2, none⟩ u2).setCell ⟨g, 3, none⟩ u3).setCell ⟨g, 4, none⟩ u4).setCell ⟨g, 5, none⟩ u5).setCell ⟨g, 6, none⟩ u6) :=
  ((((((h.setCell (p := ⟨g, 0, none⟩) hg u0).setCell (p := ⟨g, 1, none⟩) hg u1).setCell (p := ⟨g, 2, none⟩) hg u2).setCell (p := ⟨g, 3, none⟩) hg u3).setCell (p := ⟨g, 4, none⟩) hg u4).setCell (p := ⟨g, 5, none⟩) hg u5).setCell (p := ⟨g, 6, none⟩) hg u6

set_option maxRecDepth 100000 in
set_option maxHeartbeats 1000000 in
theorem nextFrame_is (pol tur : Int) (pa : Option Addr) (pk : List Int) (pc : Nat) (va : Option Addr) (V : Vws) (vc : Nat) (ma : Option Addr) (S : Mps) (mc : Nat) (mx mp wt ed cl fm pl : Int) (w : World) (hV : LieV w va V) (hfV : FitsV V) (hl : V.length ≤ 8) (hS : LieM w ma S) (hfS : FitsM S) (hS256 : S.length ≤ 256) (hVS : Valid S)
    (m0 : 0 ≤ mp) (m1 : mp ≤ 4611686018427387904) (w0 : 0 ≤ wt) (w1 : wt ≤ 4611686018427387904) (e0 : 0 ≤ ed) (e1 : ed ≤ 4611686018427387904) (l0 : 1 ≤ pl) (l1 : pl ≤ 32)
    (kd pcx of ln : Int) (br : Nat) (hN : NextIs S V mx mp wt ed cl fm pl kd pcx of ln br) :
    Calls Try.prog 61 #[.agg #[.int .i64 pol, .int .i64 tur, .slice pa pk.length pc, .slice va V.length vc, .slice ma S.length mc, .int .i64 mx, .int .u64 mp, .int .u64 wt, .int .u64 ed, .int .i64 cl, .int .i64 fm, .int .i64 pl]] w fun e w' => e = .returned (.tuple #[.agg #[.int .i64 kd, .int .i64 pcx, .int .u64 of, .int .i64 ln, .slice none 0 0, .int .i64 0, .int .i64 0], .int .i64 (br : Int)]) ∧ Below w.heap.size w w' := by
  obtain ⟨W, hW⟩ : ∃ W, W = (w.alloc (.cells #[.int .i64 pol, .int .i64 tur, .slice pa pk.length pc, .slice va V.length vc, .slice ma S.length mc, .int .i64 mx, .int .u64 mp, .int .u64 wt, .int .u64 ed, .int .i64 cl, .int .i64 fm, .int .i64 pl] 48)).alloc (.cells #[.int .i64 0, .int .i64 0, .int .u64 0, .int .i64 0, .slice none 0 0, .int .i64 0, .int .i64 0] 51) := ⟨_, rfl⟩
  have hbW : Below w.heap.size w W := by rw [hW]; exact ((Below.refl _ _).alloc (Nat.le_refl _) _).alloc (by simp) _
  have k0 : W.cell? ⟨w.heap.size, 0, none⟩ = some (.int .i64 pol) := by rw [hW]; simp
  have k1 : W.cell? ⟨w.heap.size, 1, none⟩ = some (.int .i64 tur) := by rw [hW]; simp
  have k2 : W.cell? ⟨w.heap.size, 2, none⟩ = some (.slice pa pk.length pc) := by rw [hW]; simp
  have k3 : W.cell? ⟨w.heap.size, 3, none⟩ = some (.slice va V.length vc) := by rw [hW]; simp
  have k4 : W.cell? ⟨w.heap.size, 4, none⟩ = some (.slice ma S.length mc) := by rw [hW]; simp
  have k5 : W.cell? ⟨w.heap.size, 5, none⟩ = some (.int .i64 mx) := by rw [hW]; simp
  have k6 : W.cell? ⟨w.heap.size, 6, none⟩ = some (.int .u64 mp) := by rw [hW]; simp
  have k7 : W.cell? ⟨w.heap.size, 7, none⟩ = some (.int .u64 wt) := by rw [hW]; simp
  have k8 : W.cell? ⟨w.heap.size, 8, none⟩ = some (.int .u64 ed) := by rw [hW]; simp
  have k9 : W.cell? ⟨w.heap.size, 9, none⟩ = some (.int .i64 cl) := by rw [hW]; simp
  have k10 : W.cell? ⟨w.heap.size, 10, none⟩ = some (.int .i64 fm) := by rw [hW]; simp
  have k11 : W.cell? ⟨w.heap.size, 11, none⟩ = some (.int .i64 pl) := by rw [hW]; simp
  have z0 : W.cell? ⟨w.heap.size + 1, 0, none⟩ = some (.int .i64 0) := by rw [hW]; simp
  have zf0 : W.frozen? ⟨w.heap.size + 1, 0, none⟩ = false := by rw [hW]; simp
  have z1 : W.cell? ⟨w.heap.size + 1, 1, none⟩ = some (.int .i64 0) := by rw [hW]; simp
  have zf1 : W.frozen? ⟨w.heap.size + 1, 1, none⟩ = false := by rw [hW]; simp
  have z2 : W.cell? ⟨w.heap.size + 1, 2, none⟩ = some (.int .u64 0) := by rw [hW]; simp
  have zf2 : W.frozen? ⟨w.heap.size + 1, 2, none⟩ = false := by rw [hW]; simp
  have z3 : W.cell? ⟨w.heap.size + 1, 3, none⟩ = some (.int .i64 0) := by rw [hW]; simp
  have zf3 : W.frozen? ⟨w.heap.size + 1, 3, none⟩ = false := by rw [hW]; simp
  have z4 : W.cell? ⟨w.heap.size + 1, 4, none⟩ = some (.slice none 0 0) := by rw [hW]; simp
  have zf4 : W.frozen? ⟨w.heap.size + 1, 4, none⟩ = false := by rw [hW]; simp
  have z5 : W.cell? ⟨w.heap.size + 1, 5, none⟩ = some (.int .i64 0) := by rw [hW]; simp
  have zf5 : W.frozen? ⟨w.heap.size + 1, 5, none⟩ = false := by rw [hW]; simp
  have z6 : W.cell? ⟨w.heap.size + 1, 6, none⟩ = some (.int .i64 0) := by rw [hW]; simp
  have zf6 : W.frozen? ⟨w.heap.size + 1, 6, none⟩ = false := by rw [hW]; simp
  have hVW := hV.moved hbW
  have hSW := hS.moved hbW
  have sW : w.heap.size + 2 = W.heap.size := by rw [hW]; simp
  have HN : Hid _ := hN
  have HVS : Hid (Valid S) := hVS
  clear hV hS hN hVS
  go_enter Try.func61, Try.ntmps61
  go_wp2
  rw [← hW]
  clear hW
  go_loopw [11] (fun i wr => ∃ q : Nat, q ≤ S.length ∧ i = .int .i64 q ∧ Hid (∀ j, j < q → qual S V j = false) ∧ Below W.heap.size W wr) (fun i _ => S.length - (intOf i).toNat)
  case atStart => exact ⟨0, Nat.zero_le _, rfl, (fun j h => by omega : ∀ j, j < 0 → qual S V j = false), Below.refl _ _⟩
  case round =>
    obtain ⟨q, hq, rfl, HQ, hb⟩ := hrel
    have hbw : Below w.heap.size w wr := hbW.trans (hb.mono hbW.size)
    have sz := hb.size
    have k3' := (hb.cell (World.block_lt_of_cell? _ _ k3)).trans k3
    have k4' := (hb.cell (World.block_lt_of_cell? _ _ k4)).trans k4
    have k5' := (hb.cell (World.block_lt_of_cell? _ _ k5)).trans k5
    have k6' := (hb.cell (World.block_lt_of_cell? _ _ k6)).trans k6
    have k7' := (hb.cell (World.block_lt_of_cell? _ _ k7)).trans k7
    have k8' := (hb.cell (World.block_lt_of_cell? _ _ k8)).trans k8
    have k9' := (hb.cell (World.block_lt_of_cell? _ _ k9)).trans k9
    have k10' := (hb.cell (World.block_lt_of_cell? _ _ k10)).trans k10
    have k11' := (hb.cell (World.block_lt_of_cell? _ _ k11)).trans k11
    have z0' := (hb.cell (World.block_lt_of_cell? _ _ z0)).trans z0
    have z1' := (hb.cell (World.block_lt_of_cell? _ _ z1)).trans z1
    have z2' := (hb.cell (World.block_lt_of_cell? _ _ z2)).trans z2
    have z3' := (hb.cell (World.block_lt_of_cell? _ _ z3)).trans z3
    have z4' := (hb.cell (World.block_lt_of_cell? _ _ z4)).trans z4
    have z5' := (hb.cell (World.block_lt_of_cell? _ _ z5)).trans z5
    have z6' := (hb.cell (World.block_lt_of_cell? _ _ z6)).trans z6
    have zf0' := (hb.frozen (p := ⟨w.heap.size + 1, 0, none⟩) (World.block_lt_of_cell? _ _ z0)).trans zf0
    have zf1' := (hb.frozen (p := ⟨w.heap.size + 1, 1, none⟩) (World.block_lt_of_cell? _ _ z1)).trans zf1
    have zf2' := (hb.frozen (p := ⟨w.heap.size + 1, 2, none⟩) (World.block_lt_of_cell? _ _ z2)).trans zf2
    have zf3' := (hb.frozen (p := ⟨w.heap.size + 1, 3, none⟩) (World.block_lt_of_cell? _ _ z3)).trans zf3
    have zf4' := (hb.frozen (p := ⟨w.heap.size + 1, 4, none⟩) (World.block_lt_of_cell? _ _ z4)).trans zf4
    have zf5' := (hb.frozen (p := ⟨w.heap.size + 1, 5, none⟩) (World.block_lt_of_cell? _ _ z5)).trans zf5
    have zf6' := (hb.frozen (p := ⟨w.heap.size + 1, 6, none⟩) (World.block_lt_of_cell? _ _ z6)).trans zf6
    have hVr := hVW.moved hb
    have hSr := hSW.moved hb
    clear k0 k1 k2 k3 k4 k5 k6 k7 k8 k9 k10 k11 z0 z1 z2 z3 z4 z5 z6 zf0 zf1 zf2 zf3 zf4 zf5 zf6 hVW hSW
    by_cases hlt : q < S.length
    · rcases hSr with h | ⟨b, off, rfl, hc⟩
      · simp [h] at hlt
      obtain ⟨c0, c1, c2, c3, c4, hn, hok, r0, r1, r2, r3, r4⟩ := LieM.at hfS hc hlt
      obtain ⟨C, rfl, hC⟩ := car_nat HVS.out hlt hn.out
      have hqa := qual_at (V := V) hlt hn.out
      have hqi : (q : Int) < (S.length : Int) := by omega
      have hb' := fun v => hb.alloc sz v
      have bl : w.heap.size + 1 < wr.heap.size := World.block_lt_of_cell? _ _ z0'
      have bl2 : ¬ w.heap.size + 1 = wr.heap.size := by omega
      have bl3 : ¬ wr.heap.size = w.heap.size + 1 := by omega
      have bl4 : ¬ w.heap.size = wr.heap.size := by omega
      have bl5 : ¬ wr.heap.size = w.heap.size := by omega
      have bl6 : w.heap.size < wr.heap.size := by omega
      cases hqq : qual S V q with
      | true =>
        rw [hqq] at hqa
        have hqb := hqa.symm
        simp only [Bool.and_eq_true, decide_eq_true_eq] at hqb
        obtain ⟨rfl, hne⟩ := hqb
        have HNE : Hid (decide (elig V C V.length ≠ []) = true) := by unfold Hid; simpa using hne
        have HEQ : Hid (kd = 1 ∧ pcx = (q : Int) ∧ of = c0 ∧ ln = c1 ∧ br = C) := by
          unfold Hid
          rcases HN.out.is with ⟨i, hi, d2, d4, hn2, hD, h1, h2, rfl, rfl⟩ | ⟨h, _, _, _, _, rfl, rfl, rfl, rfl, rfl⟩ | ⟨h, _, _, _, _, _, _, rfl, rfl, rfl, rfl, rfl⟩ | ⟨h, _, rfl, rfl, rfl, rfl, rfl⟩
          · obtain rfl : i = q := by
              rcases Nat.lt_trichotomy i q with g | g | g
              · have := HQ.out i g; rw [h1] at this; cases this
              · exact g
              · have := h2 q g; rw [hqq] at this; cases this
            have e := hn.out.symm.trans hn2
            simp only [Mp.mk.injEq] at e
            obtain ⟨rfl, rfl, _, e3, _⟩ := e
            exact ⟨rfl, rfl, rfl, rfl, by omega⟩
          · have := h q hlt; rw [hqq] at this; cases this
          · have := h q hlt; rw [hqq] at this; cases this
          · have := h q hlt; rw [hqq] at this; cases this
        obtain ⟨X, hX⟩ : ∃ X, X = wr.alloc (.cells #[.int .u64 c0, .int .i64 c1, .int .i64 c2, .int .i64 (C : Int), .int .i64 1] 55) := ⟨_, rfl⟩
        have hbX : Below wr.heap.size wr X := by rw [hX]; exact (Below.refl _ _).alloc (Nat.le_refl _) _
        have m0' : X.cell? ⟨wr.heap.size, 0, none⟩ = some (.int .u64 c0) := by rw [hX]; simp
        have m1' : X.cell? ⟨wr.heap.size, 1, none⟩ = some (.int .i64 c1) := by rw [hX]; simp
        have m3' : X.cell? ⟨wr.heap.size, 3, none⟩ = some (.int .i64 (C : Int)) := by rw [hX]; simp
        have zx0 := (hbX.cell (World.block_lt_of_cell? _ _ z0')).trans z0'
        have zg0 := (hbX.frozen (p := ⟨w.heap.size + 1, 0, none⟩) bl).trans zf0'
        have zx1 := (hbX.cell (World.block_lt_of_cell? _ _ z1')).trans z1'
        have zg1 := (hbX.frozen (p := ⟨w.heap.size + 1, 1, none⟩) bl).trans zf1'
        have zx2 := (hbX.cell (World.block_lt_of_cell? _ _ z2')).trans z2'
        have zg2 := (hbX.frozen (p := ⟨w.heap.size + 1, 2, none⟩) bl).trans zf2'
        have zx3 := (hbX.cell (World.block_lt_of_cell? _ _ z3')).trans z3'
        have zg3 := (hbX.frozen (p := ⟨w.heap.size + 1, 3, none⟩) bl).trans zf3'
        have zx4 := (hbX.cell (World.block_lt_of_cell? _ _ z4')).trans z4'
        have zg4 := (hbX.frozen (p := ⟨w.heap.size + 1, 4, none⟩) bl).trans zf4'
        have zx5 := (hbX.cell (World.block_lt_of_cell? _ _ z5')).trans z5'
        have zg5 := (hbX.frozen (p := ⟨w.heap.size + 1, 5, none⟩) bl).trans zf5'
        have zx6 := (hbX.cell (World.block_lt_of_cell? _ _ z6')).trans z6'
        have zg6 := (hbX.frozen (p := ⟨w.heap.size + 1, 6, none⟩) bl).trans zf6'
        have hbwX := hbw.trans (hbX.mono hbw.size)
        have hb7 := below_set7 hbwX (w.heap.size + 1) (by omega)
        clear HN HQ hqa hqq hne hc hok hfS HVS hn
        go_wp2_with (go_at_call 77; refine (anyEl_is va V vc C true _ (hVr.moved ((Below.refl _ _).alloc (Nat.le_refl _) _)) hfV hl hC HNE.out).mono ?_; rintro e w2 ⟨rfl, rfl⟩)
        rw [← hX]
        clear hX r0 r1 r2 r3 r4 hb' hb sz hbX hbw hbwX z0' zf0' z1' zf1' z2' zf2' z3' zf3' z4' zf4' z5' zf5' z6' zf6' k3' k4' k5' k6' k7' k8' k9' k10' k11' hVr hbW
        go_region_held3 (fun w' => w'.cell? ⟨wr.heap.size, 0, none⟩ = some (.int .u64 c0) ∧ w'.cell? ⟨wr.heap.size, 1, none⟩ = some (.int .i64 c1) ∧ w'.cell? ⟨wr.heap.size, 3, none⟩ = some (.int .i64 (C : Int)))
          (first | go_keep | exact ⟨by assumption, by assumption, by assumption⟩)
          (first | fail)
        go_wp2
        obtain ⟨rfl, rfl, rfl, rfl, rfl⟩ := HEQ.out
        exact bodyPost_ret (v := .tuple #[.agg #[.int .i64 1, .int .i64 (q : Int), .int .u64 of, .int .i64 ln, .slice none 0 0, .int .i64 0, .int .i64 0], .int .i64 (br : Int)]) (by simp [results, Try.results61, go_sem, zx0, zx1, zx2, zx3, zx4, zx5, zx6]) rfl ⟨rfl, (hb7 _ _ _ _ _ _ _).drew⟩
      | false =>
        have HQN : Hid (∀ j, j < q + 1 → qual S V j = false) := by
          intro j hj
          by_cases ej : j = q
          · subst ej; exact hqq
          · exact HQ.out j (by omega)
        rw [hqq] at hqa
        clear hqq HQ HN hc hok hfS HVS hn
        by_cases h4 : c4 = 1
        · subst h4
          have HNE : Hid (decide (elig V C V.length ≠ []) = false) := by unfold Hid; simpa using hqa.symm
          clear hqa
          go_wp2_with (go_at_call 77; refine (anyEl_is va V vc C false _ (hVr.moved ((Below.refl _ _).alloc (Nat.le_refl _) _)) hfV hl hC HNE.out).mono ?_; rintro e w2 ⟨rfl, hw2⟩; subst hw2)
          go_roundw
          case rel => exact ⟨q + 1, by omega, by go_num, HQN, hb' _⟩
          case measure => simp [intOf]; omega
        · have h4' : (c4 == 1) = false := by simpa using h4
          clear hqa
          go_wp2
          go_roundw
          case rel => exact ⟨q + 1, by omega, by go_num, HQN, hb' _⟩
          case measure => simp [intOf]; omega
    · obtain rfl : q = S.length := by omega
      have hb7 := below_set7 hbw (w.heap.size + 1) (by omega)
      clear hSr hfS HVS hbW hb sz
      have hany : ∀ (r : Bool), decide (elig V 0 V.length ≠ []) = r → Calls Try.prog 77 #[.slice va V.length vc, .int .i64 0] wr fun e w' => e = .returned (.bool r) ∧ w' = wr := fun r hr => anyEl_is va V vc 0 r wr hVr hfV hl (by omega) hr
      have HC : Hid ((kd = 2 ∧ pcx = 0 ∧ of = mp ∧ ln = min pl (min (wt - mp) (ed - mp)) ∧ br = 0 ∧ (S.length : Int) < mx ∧ elig V 0 V.length ≠ [] ∧ mp < wt ∧ mp < ed) ∨ (kd = 3 ∧ pcx = 0 ∧ of = wt ∧ ln = 0 ∧ br = 0 ∧ (S.length : Int) < mx ∧ elig V 0 V.length ≠ [] ∧ ¬ (mp < wt ∧ mp < ed) ∧ cl = 1 ∧ fm = 0 ∧ mp = wt) ∨
          (kd = 0 ∧ pcx = 0 ∧ of = 0 ∧ ln = 0 ∧ br = 0 ∧ (¬ ((S.length : Int) < mx ∧ elig V 0 V.length ≠ []) ∨ (¬ (mp < wt ∧ mp < ed) ∧ ¬ (cl = 1 ∧ fm = 0 ∧ mp = wt))))) := by
        unfold Hid
        rcases HN.out.is with ⟨i, hi, d2, d4, hn2, hD, h1, h2, rfl, rfl⟩ | ⟨hno, hx, he, h1, h2, rfl, rfl, rfl, rfl, rfl⟩ | ⟨hno, hx, he, h, h1, h2, h3, rfl, rfl, rfl, rfl, rfl⟩ | ⟨hno, h, rfl, rfl, rfl, rfl, rfl⟩
        · have := HQ.out i hi; rw [h1] at this; cases this
        · exact .inl ⟨rfl, rfl, rfl, rfl, rfl, hx, he, h1, h2⟩
        · exact .inr (.inl ⟨rfl, rfl, rfl, rfl, rfl, hx, he, h, h1, h2, h3⟩)
        · exact .inr (.inr ⟨rfl, rfl, rfl, rfl, rfl, h⟩)
      clear HN hVr hfV HQ
      have hS256' : (S.length : Int) ≤ 256 := by omega
      rcases HC.out with ⟨e1, e2, e3, e4, e5, hx, he, h1, h2⟩ | ⟨e1, e2, e3, e4, e5, hx, he, h, h1, h2, h3⟩ | ⟨e1, e2, e3, e4, e5, h⟩
      · have HA : Hid _ := hany true (by simpa using he)
        clear HC hany he
        rcases (show wt ≤ ed ∨ ed < wt by omega) with g | g
        · have g' : min wt ed = wt := by omega
          have g'' : ¬ ed < wt := by omega
          rcases (show pl ≤ wt - mp ∨ wt - mp < pl by omega) with g2 | g2
          · have E : Hid (kd = 2 ∧ pcx = 0 ∧ of = mp ∧ ln = pl ∧ br = 0) := ⟨e1, e2, e3, by omega, e5⟩
            clear e1 e2 e3 e4 e5
            go_wp2_with fail; refine Calls.mono HA.out ?_; rintro e w2 ⟨rfl, rfl⟩; go_wp2
            exact bodyPost_ret (v := .tuple #[.agg #[.int .i64 2, .int .i64 0, .int .u64 mp, .int .i64 pl, .slice none 0 0, .int .i64 0, .int .i64 0], .int .i64 0]) (by simp [results, Try.results61, go_sem, z0', z1', z2', z3', z4', z5', z6']) rfl ⟨by rw [E.out.1, E.out.2.1, E.out.2.2.1, E.out.2.2.2.1, E.out.2.2.2.2]; rfl, hb7 _ _ _ _ _ _ _⟩
          · have E : Hid (kd = 2 ∧ pcx = 0 ∧ of = mp ∧ ln = wt - mp ∧ br = 0) := ⟨e1, e2, e3, by omega, e5⟩
            clear e1 e2 e3 e4 e5
            go_wp2_with fail; refine Calls.mono HA.out ?_; rintro e w2 ⟨rfl, rfl⟩; go_wp2
            exact bodyPost_ret (v := .tuple #[.agg #[.int .i64 2, .int .i64 0, .int .u64 mp, .int .i64 (wt - mp), .slice none 0 0, .int .i64 0, .int .i64 0], .int .i64 0]) (by simp [results, Try.results61, go_sem, z0', z1', z2', z3', z4', z5', z6']) rfl ⟨by rw [E.out.1, E.out.2.1, E.out.2.2.1, E.out.2.2.2.1, E.out.2.2.2.2]; rfl, hb7 _ _ _ _ _ _ _⟩
        · have g' : min wt ed = ed := by omega
          rcases (show pl ≤ ed - mp ∨ ed - mp < pl by omega) with g2 | g2
          · have E : Hid (kd = 2 ∧ pcx = 0 ∧ of = mp ∧ ln = pl ∧ br = 0) := ⟨e1, e2, e3, by omega, e5⟩
            clear e1 e2 e3 e4 e5
            go_wp2_with fail; refine Calls.mono HA.out ?_; rintro e w2 ⟨rfl, rfl⟩; go_wp2
            exact bodyPost_ret (v := .tuple #[.agg #[.int .i64 2, .int .i64 0, .int .u64 mp, .int .i64 pl, .slice none 0 0, .int .i64 0, .int .i64 0], .int .i64 0]) (by simp [results, Try.results61, go_sem, z0', z1', z2', z3', z4', z5', z6']) rfl ⟨by rw [E.out.1, E.out.2.1, E.out.2.2.1, E.out.2.2.2.1, E.out.2.2.2.2]; rfl, hb7 _ _ _ _ _ _ _⟩
          · have E : Hid (kd = 2 ∧ pcx = 0 ∧ of = mp ∧ ln = ed - mp ∧ br = 0) := ⟨e1, e2, e3, by omega, e5⟩
            clear e1 e2 e3 e4 e5
            go_wp2_with fail; refine Calls.mono HA.out ?_; rintro e w2 ⟨rfl, rfl⟩; go_wp2
            exact bodyPost_ret (v := .tuple #[.agg #[.int .i64 2, .int .i64 0, .int .u64 mp, .int .i64 (ed - mp), .slice none 0 0, .int .i64 0, .int .i64 0], .int .i64 0]) (by simp [results, Try.results61, go_sem, z0', z1', z2', z3', z4', z5', z6']) rfl ⟨by rw [E.out.1, E.out.2.1, E.out.2.2.1, E.out.2.2.2.1, E.out.2.2.2.2]; rfl, hb7 _ _ _ _ _ _ _⟩
      · have HA : Hid _ := hany true (by simpa using he)
        have E : Hid (kd = 3 ∧ pcx = 0 ∧ of = wt ∧ ln = 0 ∧ br = 0) := ⟨e1, e2, e3, e4, e5⟩
        clear HC hany he e1 e2 e3 e4 e5
        subst h1 h2 h3
        rcases (show ed < mp ∨ mp ≤ ed by omega) with g | g
        · have g2 : ¬ mp < ed := by omega
          go_wp2_with fail; refine Calls.mono HA.out ?_; rintro e w2 ⟨rfl, rfl⟩; go_wp2
          exact bodyPost_ret (v := .tuple #[.agg #[.int .i64 3, .int .i64 0, .int .u64 mp, .int .i64 0, .slice none 0 0, .int .i64 0, .int .i64 0], .int .i64 0]) (by simp [results, Try.results61, go_sem, z0', z1', z2', z3', z4', z5', z6']) rfl ⟨by rw [E.out.1, E.out.2.1, E.out.2.2.1, E.out.2.2.2.1, E.out.2.2.2.2]; rfl, hb7 _ _ _ _ _ _ _⟩
        · have g2 : ¬ ed < mp := by omega
          go_wp2_with fail; refine Calls.mono HA.out ?_; rintro e w2 ⟨rfl, rfl⟩; go_wp2
          exact bodyPost_ret (v := .tuple #[.agg #[.int .i64 3, .int .i64 0, .int .u64 mp, .int .i64 0, .slice none 0 0, .int .i64 0, .int .i64 0], .int .i64 0]) (by simp [results, Try.results61, go_sem, z0', z1', z2', z3', z4', z5', z6']) rfl ⟨by rw [E.out.1, E.out.2.1, E.out.2.2.1, E.out.2.2.2.1, E.out.2.2.2.2]; rfl, hb7 _ _ _ _ _ _ _⟩
      · have E : Hid (kd = 0 ∧ pcx = 0 ∧ of = 0 ∧ ln = 0 ∧ br = 0) := ⟨e1, e2, e3, e4, e5⟩
        have HH : Hid _ := h
        clear HC e1 e2 e3 e4 e5 h
        by_cases hx : (S.length : Int) < mx
        · by_cases he : elig V 0 V.length = []
          · have HA : Hid _ := hany false (by simp [he])
            clear hany he HH
            go_wp2_with fail; refine Calls.mono HA.out ?_; rintro e w2 ⟨rfl, rfl⟩; go_wp2
            exact bodyPost_ret (v := .tuple #[.agg #[.int .i64 0, .int .i64 0, .int .u64 0, .int .i64 0, .slice none 0 0, .int .i64 0, .int .i64 0], .int .i64 0]) (by simp [results, Try.results61, go_sem, z0', z1', z2', z3', z4', z5', z6']) rfl ⟨by rw [E.out.1, E.out.2.1, E.out.2.2.1, E.out.2.2.2.1, E.out.2.2.2.2]; rfl, hb7 _ _ _ _ _ _ _⟩
          · have HA : Hid _ := hany true (by simpa using he)
            have h2 : ¬ (mp < wt ∧ mp < ed) ∧ ¬ (cl = 1 ∧ fm = 0 ∧ mp = wt) := by
              rcases HH.out with h | h
              · exact absurd ⟨hx, he⟩ h
              · exact h
            have h3 : ¬ mp < wt ∨ ¬ mp < ed := by omega
            have h4 : ¬ cl = 1 ∨ (cl = 1 ∧ ¬ fm = 0) ∨ (cl = 1 ∧ fm = 0 ∧ ¬ mp = wt) := by omega
            clear hany he HH h2
            have hlim : ∃ lim : Int, Hid (lim = if ed < wt then ed else wt) ∧ ¬ mp < lim := ⟨_, rfl, by split <;> omega⟩
            rcases (show (ed < wt ∧ ed ≤ mp) ∨ (wt ≤ ed ∧ wt ≤ mp) by omega) with ⟨g, g'⟩ | ⟨g, g'⟩
            all_goals
              clear h3 hlim
              rcases h4 with h5 | ⟨rfl, h5⟩ | ⟨rfl, rfl, h5⟩
              · have h5' : (cl == 1) = false := by simpa using h5
                go_wp2_with fail; refine Calls.mono HA.out ?_; rintro e w2 ⟨rfl, rfl⟩; go_wp2
                exact bodyPost_ret (v := .tuple #[.agg #[.int .i64 0, .int .i64 0, .int .u64 0, .int .i64 0, .slice none 0 0, .int .i64 0, .int .i64 0], .int .i64 0]) (by simp [results, Try.results61, go_sem, z0', z1', z2', z3', z4', z5', z6']) rfl ⟨by rw [E.out.1, E.out.2.1, E.out.2.2.1, E.out.2.2.2.1, E.out.2.2.2.2]; rfl, hb7 _ _ _ _ _ _ _⟩
              · have h5' : (fm == 0) = false := by simpa using h5
                go_wp2_with fail; refine Calls.mono HA.out ?_; rintro e w2 ⟨rfl, rfl⟩; go_wp2
                exact bodyPost_ret (v := .tuple #[.agg #[.int .i64 0, .int .i64 0, .int .u64 0, .int .i64 0, .slice none 0 0, .int .i64 0, .int .i64 0], .int .i64 0]) (by simp [results, Try.results61, go_sem, z0', z1', z2', z3', z4', z5', z6']) rfl ⟨by rw [E.out.1, E.out.2.1, E.out.2.2.1, E.out.2.2.2.1, E.out.2.2.2.2]; rfl, hb7 _ _ _ _ _ _ _⟩
              · have h5' : (mp == wt) = false := by simpa using h5
                go_wp2_with fail; refine Calls.mono HA.out ?_; rintro e w2 ⟨rfl, rfl⟩; go_wp2
                exact bodyPost_ret (v := .tuple #[.agg #[.int .i64 0, .int .i64 0, .int .u64 0, .int .i64 0, .slice none 0 0, .int .i64 0, .int .i64 0], .int .i64 0]) (by simp [results, Try.results61, go_sem, z0', z1', z2', z3', z4', z5', z6']) rfl ⟨by rw [E.out.1, E.out.2.1, E.out.2.2.1, E.out.2.2.2.1, E.out.2.2.2.2]; rfl, hb7 _ _ _ _ _ _ _⟩
        · have hx' : mx ≤ (S.length : Int) := by omega
          clear hany HH
          go_wp2
          exact bodyPost_ret (v := .tuple #[.agg #[.int .i64 0, .int .i64 0, .int .u64 0, .int .i64 0, .slice none 0 0, .int .i64 0, .int .i64 0], .int .i64 0]) (by simp [results, Try.results61, go_sem, z0', z1', z2', z3', z4', z5', z6']) rfl ⟨by rw [E.out.1, E.out.2.1, E.out.2.2.1, E.out.2.2.2.1, E.out.2.2.2.2]; rfl, hb7 _ _ _ _ _ _ _⟩
end Go.Proofs.Ytlagaiekoahjnaa
