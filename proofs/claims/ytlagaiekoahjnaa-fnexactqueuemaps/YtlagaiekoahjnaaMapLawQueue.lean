import Derived.Test.YtlagaiekoahjnaaMapQueue
namespace Go.Proofs.Ytlagaiekoahjnaa
open Go.ChangeShapes Go.WideShapes Go.ChangeAt Go.RowKit
set_option linter.unusedVariables false

theorem keptBelow {w w' : World} {base : Nat} {e : TypeId} {size : Nat} {v v2 : Value} {n : Nat} {xs : List Value} {B : Nat} (h : w.ownsRow base e size v n xs) (hg : w.grownBy w' v2.ownBlock) (hlt : ∀ k, v.ownBlock = some k → k < B) (hge : ∀ k, v2.ownBlock = some k → B ≤ k) : w'.ownsRow base e size v n xs := by
  refine h.kept hg ?_
  cases hv : v.ownBlock with
  | none => exact .inl rfl
  | some k =>
    refine .inr fun hk => ?_
    have h1 := hlt k hv
    have h2 := hge k hk.symm
    omega
theorem keptAbove {w w' : World} {base : Nat} {e : TypeId} {size : Nat} {v v2 : Value} {n : Nat} {xs : List Value} {B : Nat} (h : w.ownsRow base e size v n xs) (hg : w.grownBy w' v2.ownBlock) (hge : ∀ k, v.ownBlock = some k → B ≤ k) (hlt : ∀ k, v2.ownBlock = some k → k < B) : w'.ownsRow base e size v n xs := by
  refine h.kept hg ?_
  cases hv : v.ownBlock with
  | none => exact .inl rfl
  | some k =>
    refine .inr fun hk => ?_
    have h1 := hge k hv
    have h2 := hlt k hk.symm
    omega

theorem bothQueue (S : Mps) (x : Int) (hf : FitsM S) (hx : (Lit.int .i64 x).wf = true) : ∃ (T : Mps) (c : Int), T.length ≤ 256 ∧ FitsM T ∧ GivesM 15 S (.int .i64 x) T c ∧ GivesM 16 S (.int .i64 x) T c := by
  by_cases hg : S.length ≤ 256 ∧ Valid S
  · by_cases ha : 0 ≤ x ∧ x ≤ 255
    · exact ⟨_, _, by rw [queued_length]; exact hg.1, queued_fits hf, specQueue_ok S x hf hg ha, implQueue_ok S x hf hg ha⟩
    · exact ⟨_, _, by simp, by simp [FitsM], specQueue_range S x hf hg ha, implQueue_range S x hf hg ha⟩
  · exact ⟨_, _, by simp, by simp [FitsM], specQueue_no S x hf hg, implQueue_no S x hf hg⟩

set_option maxHeartbeats 4000000 in
theorem lawQueue (a : Option Addr) (S : Mps) (cap : Nat) (x : Int) (w : World) (hWS : LieM w a S) (hf : FitsM S) (hm : S.length ≤ 9223372036854775807) (hx : (Lit.int .i64 x).wf = true) :
    Calls Try.prog 4 #[.slice a S.length cap, .int .i64 x] w fun e w' => e = .returned (.bool true) ∧ Below w.heap.size w w' := by
  by_cases hl : S.length ≤ 1048576
  · obtain ⟨T, c, hTl, hTf, hspec, himpl⟩ := bothQueue S x hf hx
    have HSP : Hid _ := hspec
    have HIM : Hid _ := himpl
    have HTF : Hid _ := hTf
    clear hspec himpl hTf hx
    go_enter Try.func4, Try.ntmps4
    go_wp2_with (go_at_call 8; refine (szMS_any a S.length cap _ hm).mono ?_; rintro e w9 ⟨rfl, rfl⟩; rw [if_pos hl])
    refine (toMS_any a S cap _ hWS hf hl).mono ?_
    rintro e w1 ⟨rfl, ho1, hb1⟩
    go_wp2_with fail
    refine (HSP.out _ _ _ (LieM.ofRow rfl ho1) (Nat.le_refl _) (by omega) (by simp)).mono ?_
    rintro e w3 ⟨av0, cp0, rfl, hr0', hb3'⟩
    have hr0 := owned_base hr0' hb1.size
    have hB3 := hb1.trans (hb3'.mono hb1.size)
    have s3 := hB3.size
    have lt0 : ∀ k, (Value.slice av0 T.length cp0).ownBlock = some k → k < w3.heap.size := fun k hk => (hr0.lt k hk).2
    clear ho1 hb1 hb3' hr0' HSP
    go_wp2_with fail
    refine (toMS_any a S cap _ (hWS.moved hB3) hf hl).mono ?_
    rintro e w4 ⟨rfl, ho4, hb4⟩
    have hr0 := owned_kept hr0 hb4
    have hB4 := hB3.trans (hb4.mono s3)
    have s4 : w3.heap.size < w4.heap.size := (ho4.lt _ rfl).2
    go_wp2_with fail
    refine (HIM.out _ _ _ (LieM.ofRow rfl ho4) (Nat.le_refl _) (by omega) (by simp)).mono ?_
    rintro e w6 ⟨av1, cp1, rfl, hr1, hb6⟩
    have hr0 := owned_kept hr0 hb6
    have ho4 := owned_kept ho4 hb6
    have hB6 := hB4.trans (hb6.mono hB4.size)
    have s6 := hb6.size
    have ge1 : ∀ k, (Value.slice av1 T.length cp1).ownBlock = some k → w4.heap.size ≤ k := fun k hk => (hr1.lt k hk).1
    clear hb4 hb6 hB3 hB4
    go_wp2_with fail
    refine (eqMS_same _ _ T _ _ _ (LieM.ofRow rfl hr1) (LieM.ofRow rfl hr0) HTF.out (by omega)).mono ?_
    rintro e w7 ⟨rfl, hb7⟩
    have hr0 := owned_kept hr0 hb7
    have ho4 := owned_kept ho4 hb7
    have hr1 := owned_kept hr1 hb7
    have hB7 := hB6.trans (hb7.mono hB6.size)
    have s7 := hb7.size
    clear hb7 hB6
    go_wp2_with fail
    refine (toMS_any a S cap _ (hWS.moved hB7) hf hl).mono ?_
    rintro e w8 ⟨rfl, ho8, hb8⟩
    have hr0 := owned_kept hr0 hb8
    have ho4 := owned_kept ho4 hb8
    have hr1 := owned_kept hr1 hb8
    have hB8 := hB7.trans (hb8.mono hB7.size)
    have s8 := hb8.size
    clear hb8 hB7
    go_wp2_with fail
    refine (eqMS_same _ _ S _ _ _ (LieM.ofRow rfl ho4) (LieM.ofRow rfl ho8) hf hl).mono ?_
    rintro e w9 ⟨rfl, hb9⟩
    have hr0 := owned_kept hr0 hb9
    have ho4 := owned_kept ho4 hb9
    have hr1 := owned_kept hr1 hb9
    have hB9 := hB8.trans (hb9.mono hB8.size)
    have s9 := hb9.size
    clear hb9 hB8 ho8
    go_wp2_with fail
    refine (markMS_any _ S _ _ ho4 hl).mono ?_
    rintro e w10 ⟨rfl, ho10, hg10⟩
    have hr0 := keptBelow hr0 hg10 lt0 (fun k hk => by simp [Value.ownBlock] at hk; omega)
    have hr1 := keptAbove hr1 hg10 ge1 (fun k hk => by simp [Value.ownBlock] at hk; omega)
    have hB10 := below_grown hB9 ho4 hg10 s3 hB9.size
    have s10 := hg10.size
    clear hg10 hB9 ho4 ho10
    go_wp2_with fail
    refine (eqMS_same _ _ T _ _ _ (LieM.ofRow rfl hr1) (LieM.ofRow rfl hr0) HTF.out (by omega)).mono ?_
    rintro e w11 ⟨rfl, hb11⟩
    have hr0 := owned_kept hr0 hb11
    have hr1 := owned_kept hr1 hb11
    have hB11 := hB10.trans (hb11.mono hB10.size)
    have s11 := hb11.size
    clear hb11 hB10
    go_wp2_with fail
    refine (markMS_any _ T _ _ hr1 (by omega)).mono ?_
    rintro e w12 ⟨rfl, hr12, hg12⟩
    have hr0 := keptBelow (B := w4.heap.size) hr0 hg12 (fun k hk => by have := lt0 k hk; omega) ge1
    have hB12 := below_grown hB11 hr1 hg12 (by omega) hB11.size
    have s12 := hg12.size
    clear hg12 hB11 hr1
    go_wp2_with fail
    refine (heldMS_any av1 T.length cp1 _ (LieM.ofRow (markedM_length _) hr12) (by omega)).mono ?_
    rintro e w13 ⟨rfl, rfl⟩
    clear hr12
    go_wp2_with fail
    refine (toMS_any a S cap _ (hWS.moved hB12) hf hl).mono ?_
    rintro e w14 ⟨rfl, ho14, hb14⟩
    have hr014 := owned_kept hr0 hb14
    have hB14 := hB12.trans (hb14.mono hB12.size)
    go_wp2_with fail
    refine (HIM.out _ _ _ (LieM.ofRow rfl ho14) (Nat.le_refl _) (by omega) (by simp)).mono ?_
    rintro e w16 ⟨av2, cp2, rfl, hr2, hb16⟩
    have hr016 := owned_kept hr014 hb16
    have hB16 := hB14.trans (hb16.mono hB14.size)
    clear HIM hWS
    go_wp2_with fail
    refine (eqMS_same _ _ T _ _ _ (LieM.ofRow rfl hr2) (LieM.ofRow rfl hr016) HTF.out (by omega)).mono ?_
    rintro e w17 ⟨rfl, hb17⟩
    go_wp2
    go_ret
    exact ⟨rfl, hB16.trans (hb17.mono hB16.size)⟩
  · go_enter Try.func4, Try.ntmps4
    go_wp2_with (go_at_call 8; refine (szMS_any a S.length cap _ hm).mono ?_; rintro e w9 ⟨rfl, rfl⟩; rw [if_neg hl])
    go_ret
    exact ⟨rfl, Below.refl _ _⟩
end Go.Proofs.Ytlagaiekoahjnaa
