import Derived.Test.YtgjcdejiolenkaaSpanDo
import Derived.Test.YtgjcdejiolenkaaSpanLaw
import Derived.Test.YtgjcdejiolenkaaSpanTo
import Derived.Deep.RegionHeld3
namespace Go.Proofs.Ytgjcdejiolenkaa
open Go.ChangeShapes Go.WideShapes Go.ChangeAt Go.RowKit
set_option linter.unusedVariables false

theorem kept_below {w w' : World} {base : Nat} {e : TypeId} {size : Nat} {v v2 : Value} {n : Nat} {xs : List Value} {B : Nat} (h : w.ownsRow base e size v n xs) (hg : w.grownBy w' v2.ownBlock) (hlt : ∀ k, v.ownBlock = some k → k < B) (hge : ∀ k, v2.ownBlock = some k → B ≤ k) : w'.ownsRow base e size v n xs := by
  refine h.kept hg ?_
  cases hv : v.ownBlock with
  | none => exact .inl rfl
  | some k =>
    refine .inr fun hk => ?_
    have h1 := hlt k hv
    have h2 := hge k hk.symm
    omega
theorem kept_above {w w' : World} {base : Nat} {e : TypeId} {size : Nat} {v v2 : Value} {n : Nat} {xs : List Value} {B : Nat} (h : w.ownsRow base e size v n xs) (hg : w.grownBy w' v2.ownBlock) (hge : ∀ k, v.ownBlock = some k → B ≤ k) (hlt : ∀ k, v2.ownBlock = some k → k < B) : w'.ownsRow base e size v n xs := by
  refine h.kept hg ?_
  cases hv : v.ownBlock with
  | none => exact .inl rfl
  | some k =>
    refine .inr fun hk => ?_
    have h1 := hge k hv
    have h2 := hlt k hk.symm
    omega

theorem bothAdd (S : Sp) (p q : Int) (hf : Fits S) (hl : S.length ≤ 1048576) (p0 : 0 ≤ p) (p1 : p ≤ 18446744073709551615) (q0 : 0 ≤ q) (q1 : q ≤ 18446744073709551615) : ∃ (T : Sp) (c : Int), T.length ≤ 1000 ∧ Fits T ∧ GivesL 17 S p q T c ∧ GivesL 18 S p q T c := by
  by_cases hg : (S.length ≤ 1000 ∧ Norm S) ∧ p ≤ q
  · by_cases hlen : (built f1 S (p, q)).length ≤ 1000
    · refine ⟨_, _, hlen, built_fits (f := f1) rfl hf p0 p1 q0 q1, specAdd S p q hf hl p0 p1 q0 q1 _ 0 (.inl ⟨hg, hlen, rfl, rfl⟩), ?_⟩
      by_cases e : p = q
      · subst e
        exact implAdd_empty S p hf hg.1.1 hg.1.2
      · exact (implAdd_full S p q hf hg.1.1 hg.1.2 p0 (by have := hg.2; omega) q1).1 hlen
    · refine ⟨[], 5, by simp, by simp [Fits], specAdd S p q hf hl p0 p1 q0 q1 _ 5 (.inr (.inl ⟨hg, by omega, rfl, rfl⟩)), ?_⟩
      by_cases e : p = q
      · subst e
        rw [add_empty hg.1.2] at hlen
        exact absurd hg.1.1 hlen
      · exact (implAdd_full S p q hf hg.1.1 hg.1.2 p0 (by have := hg.2; omega) q1).2 (by omega)
  · exact ⟨[], 1, by simp, by simp [Fits], specAdd S p q hf hl p0 p1 q0 q1 _ 1 (.inr (.inr ⟨hg, rfl, rfl⟩)), implAdd_no S p q hf hl hg⟩

set_option maxHeartbeats 4000000 in
theorem lawAdd (a : Option Addr) (S : Sp) (cap : Nat) (p q : Int) (w : World) (hS : Spans w a S) (hf : Fits S) (hm : S.length ≤ 9223372036854775807) (p0 : 0 ≤ p) (p1 : p ≤ 18446744073709551615) (q0 : 0 ≤ q) (q1 : q ≤ 18446744073709551615) :
    Calls Try.prog 5 #[.slice a S.length cap, .agg #[.int .u64 p, .int .u64 q]] w fun e w' => e = .returned (.bool true) ∧ Below w.heap.size w w' := by
  have hb0 : Below w.heap.size w (w.alloc (.cells #[.int .u64 p, .int .u64 q] 25)) := (Below.refl _ _).alloc (Nat.le_refl _) _
  by_cases hl : S.length ≤ 1048576
  · obtain ⟨x0, x1⟩ := cell_alloc2 w (.int .u64 p) (.int .u64 q) 25 _ rfl
    have HSZ : Hid ((w.alloc (.cells #[.int .u64 p, .int .u64 q] 25)).drew.heap.size = w.heap.size + 1) := by unfold Hid; simp
    obtain ⟨T, c, hTl, hTf, hspec, himpl⟩ := bothAdd S p q hf hl p0 p1 q0 q1
    have HSP : Hid _ := hspec
    have HIM : Hid _ := himpl
    have HTF : Hid _ := hTf
    clear hspec himpl hTf
    have hs0 := hb0.size
    have hSb := hS.moved hb0
    go_enter Try.func5, Try.ntmps5
    go_wp2_with (go_at_call 9; refine (szSpanS_any a S.length cap _ hm).mono ?_; rintro e w9 ⟨rfl, rfl⟩; rw [if_pos hl])
    go_region_held3 (fun w' => w'.cell? ⟨w.heap.size, 0, none⟩ = some (.int .u64 p) ∧ w'.cell? ⟨w.heap.size, 1, none⟩ = some (.int .u64 q))
      (first | go_keep | exact ⟨by assumption, by assumption⟩)
      (first
        | (go_at_call 11; refine (toSpanS_any a S cap _ (hS.moved hb0.drew) hf hl).mono ?_; rintro e w1 ⟨rfl, ho1, hb1⟩; rw [HSZ.out] at ho1; have k0 := (hb1.cell (World.block_lt_of_cell? _ _ x0)).trans x0; have k1 := (hb1.cell (World.block_lt_of_cell? _ _ x1)).trans x1; have hbw1 := ((Below.refl _ _).drew).trans hb1)
        | (go_at_call 12; refine (toSpan_any p q _).mono ?_; rintro e w2 ⟨rfl, hb2⟩; have l0 := (hb2.cell (World.block_lt_of_cell? _ _ k0)).trans k0; have l1 := (hb2.cell (World.block_lt_of_cell? _ _ k1)).trans k1; have hbw2 := hbw1.trans (hb2.mono hbw1.size); have ho2 := owned_kept ho1 hb2)
        | (go_at_call 17; refine (HSP.out _ _ _ (Spans.ofRow rfl ho2) (Nat.le_refl _) (by omega) (by simp)).mono ?_; rintro e w3 ⟨av0, cp0, rfl, hr0', hb3⟩; have hr0 := owned_base hr0' hbw2.size; have m0 := (hb3.cell (World.block_lt_of_cell? _ _ l0)).trans l0; have m1 := (hb3.cell (World.block_lt_of_cell? _ _ l1)).trans l1; have hbw3 := hbw2.trans (hb3.mono hbw2.size)))
    clear ho1 ho2 k0 k1 l0 l1 hb1 hb2 hb3 hbw1 hbw2 hr0' HSZ HSP
    obtain ⟨W, hWS, hW0, hW1, hB3, hwW⟩ : ∃ W : World, Spans W a S ∧ W.cell? ⟨w.heap.size, 0, none⟩ = some (.int .u64 p) ∧ W.cell? ⟨w.heap.size, 1, none⟩ = some (.int .u64 q) ∧ Below W.heap.size W w3 ∧ Below w.heap.size w W := ⟨_, hSb, x0, x1, hbw3, hb0⟩
    clear hbw3 x0 x1 hb0 hSb hS m0 m1 hs0
    have s3 := hB3.size
    have lt0 : ∀ k, (Value.slice av0 T.length cp0).ownBlock = some k → k < w3.heap.size := fun k hk => (hr0.lt k hk).2
    go_wp2_with fail
    refine (toSpanS_any a S cap _ (hWS.moved hB3) hf hl).mono ?_
    rintro e w4 ⟨rfl, ho4, hb4⟩
    have hr0 := owned_kept hr0 hb4
    have hB4 := hB3.trans (hb4.mono s3)
    have s4 : w3.heap.size < w4.heap.size := (ho4.lt _ rfl).2
    have n0 := (hB4.cell (World.block_lt_of_cell? _ _ hW0)).trans hW0
    have n1 := (hB4.cell (World.block_lt_of_cell? _ _ hW1)).trans hW1
    go_wp2_with fail
    refine (toSpan_any p q _).mono ?_
    rintro e w5 ⟨rfl, hb5⟩
    have hr0 := owned_kept hr0 hb5
    have ho4 := owned_kept ho4 hb5
    have hB5 := hB4.trans (hb5.mono hB4.size)
    have s5 := hb5.size
    go_wp2_with fail
    refine (HIM.out _ _ _ (Spans.ofRow rfl ho4) (Nat.le_refl _) (by omega) (by simp)).mono ?_
    rintro e w6 ⟨av1, cp1, rfl, hr1, hb6⟩
    have hr0 := owned_kept hr0 hb6
    have ho4 := owned_kept ho4 hb6
    have hB6 := hB5.trans (hb6.mono hB5.size)
    have s6 := hb6.size
    have ge1 : ∀ k, (Value.slice av1 T.length cp1).ownBlock = some k → w5.heap.size ≤ k := fun k hk => (hr1.lt k hk).1
    clear hb4 hb5 hb6 hB3 hB4 hB5 n0 n1
    go_wp2_with fail
    refine (eqSpanS_same _ _ T _ _ _ (Spans.ofRow rfl hr1) (Spans.ofRow rfl hr0) HTF.out (by omega)).mono ?_
    rintro e w7 ⟨rfl, hb7⟩
    have hr0 := owned_kept hr0 hb7
    have ho4 := owned_kept ho4 hb7
    have hr1 := owned_kept hr1 hb7
    have hB7 := hB6.trans (hb7.mono hB6.size)
    have s7 := hb7.size
    clear hb7 hB6
    go_wp2_with fail
    refine (toSpanS_any a S cap _ (hWS.moved hB7) hf hl).mono ?_
    rintro e w8 ⟨rfl, ho8, hb8⟩
    have hr0 := owned_kept hr0 hb8
    have ho4 := owned_kept ho4 hb8
    have hr1 := owned_kept hr1 hb8
    have hB8 := hB7.trans (hb8.mono hB7.size)
    have s8 := hb8.size
    clear hb8 hB7
    go_wp2_with fail
    refine (eqSpanS_same _ _ S _ _ _ (Spans.ofRow rfl ho4) (Spans.ofRow rfl ho8) hf hl).mono ?_
    rintro e w9 ⟨rfl, hb9⟩
    have hr0 := owned_kept hr0 hb9
    have ho4 := owned_kept ho4 hb9
    have hr1 := owned_kept hr1 hb9
    have hB9 := hB8.trans (hb9.mono hB8.size)
    have s9 := hb9.size
    clear hb9 hB8 ho8
    go_wp2_with fail
    refine (markSpanS_any _ S _ _ ho4 hl).mono ?_
    rintro e w10 ⟨rfl, ho10, hg10⟩
    have hr0 := kept_below hr0 hg10 lt0 (fun k hk => by simp [Value.ownBlock] at hk; omega)
    have hr1 := kept_above hr1 hg10 ge1 (fun k hk => by simp [Value.ownBlock] at hk; omega)
    have hB10 := below_grown hB9 ho4 hg10 s3 hB9.size
    have s10 := hg10.size
    clear hg10 hB9 ho4 ho10
    go_wp2_with fail
    refine (eqSpanS_same _ _ T _ _ _ (Spans.ofRow rfl hr1) (Spans.ofRow rfl hr0) HTF.out (by omega)).mono ?_
    rintro e w11 ⟨rfl, hb11⟩
    have hr0 := owned_kept hr0 hb11
    have hr1 := owned_kept hr1 hb11
    have hB11 := hB10.trans (hb11.mono hB10.size)
    have s11 := hb11.size
    clear hb11 hB10
    go_wp2_with fail
    refine (markSpanS_any _ T _ _ hr1 (by omega)).mono ?_
    rintro e w12 ⟨rfl, hr12, hg12⟩
    have hr0 := kept_below (B := w5.heap.size) hr0 hg12 (fun k hk => by have := lt0 k hk; omega) ge1
    have hB12 := below_grown hB11 hr1 hg12 (by omega) hB11.size
    have s12 := hg12.size
    clear hg12 hB11 hr1
    go_wp2_with fail
    refine (heldSpanS_any av1 T.length cp1 _ (Spans.ofRow (marked_length _) hr12) (by omega)).mono ?_
    rintro e w13 ⟨rfl, rfl⟩
    have z0 := (hB12.cell (World.block_lt_of_cell? _ _ hW0)).trans hW0
    have z1 := (hB12.cell (World.block_lt_of_cell? _ _ hW1)).trans hW1
    clear hr12
    go_wp2_with fail
    go_region_held3 (fun w' => w'.cell? ⟨w.heap.size, 0, none⟩ = some (.int .u64 p) ∧ w'.cell? ⟨w.heap.size, 1, none⟩ = some (.int .u64 q))
      (first | go_keep | exact ⟨by assumption, by assumption⟩)
      (first
        | (go_at_call 11; refine (toSpanS_any a S cap _ (hWS.moved hB12.drew) hf hl).mono ?_; rintro e w14 ⟨rfl, ho14, hb14⟩; have k0 := (hb14.cell (World.block_lt_of_cell? _ _ z0)).trans z0; have k1 := (hb14.cell (World.block_lt_of_cell? _ _ z1)).trans z1; have hB14 := hB12.drew.trans (hb14.mono hB12.size); have hr014 := owned_kept (w := World.drew _) hr0 hb14)
        | (go_at_call 12; refine (toSpan_any p q _).mono ?_; rintro e w15 ⟨rfl, hb15⟩; have l0 := (hb15.cell (World.block_lt_of_cell? _ _ k0)).trans k0; have l1 := (hb15.cell (World.block_lt_of_cell? _ _ k1)).trans k1; have hB15 := hB14.trans (hb15.mono hB14.size); have ho15 := owned_kept ho14 hb15; have hr015 := owned_kept hr014 hb15)
        | (go_at_call 18; refine (HIM.out _ _ _ (Spans.ofRow rfl ho15) (Nat.le_refl _) (by omega) (by simp)).mono ?_; rintro e w16 ⟨av2, cp2, rfl, hr2, hb16⟩; have m0 := (hb16.cell (World.block_lt_of_cell? _ _ l0)).trans l0; have m1 := (hb16.cell (World.block_lt_of_cell? _ _ l1)).trans l1; have hB16 := hB15.trans (hb16.mono hB15.size); have hr016 := owned_kept hr015 hb16))
    clear HIM hWS hW0 hW1 k0 k1 l0 l1 m0 m1 z0 z1
    go_wp2_with fail
    refine (eqSpanS_same _ _ T _ _ _ (Spans.ofRow rfl hr2) (Spans.ofRow rfl hr016) HTF.out (by omega)).mono ?_
    rintro e w17 ⟨rfl, hb17⟩
    go_wp2
    go_ret
    have hB17 := hB16.trans (hb17.mono hB16.size)
    exact ⟨rfl, hwW.trans (hB17.mono hwW.size)⟩
  · go_enter Try.func5, Try.ntmps5
    go_wp2_with (go_at_call 9; refine (szSpanS_any a S.length cap _ hm).mono ?_; rintro e w9 ⟨rfl, rfl⟩; rw [if_neg hl])
    go_ret
    exact ⟨rfl, hb0⟩
end Go.Proofs.Ytgjcdejiolenkaa
