import Derived.Test.YtlagaiekoahjnaaMapAck
namespace Go.Proofs.Ytlagaiekoahjnaa
open Go.ChangeShapes Go.WideShapes Go.ChangeAt Go.RowKit
set_option linter.unusedVariables false

/-- What both sides answer: a list and a code. -/
def GivesM (fn : Nat) (S : Mps) (x : Value) (T : Mps) (c : Int) : Prop :=
  ∀ (a : Option Addr) (cap : Nat) (w : World), LieM w a S → S.length ≤ cap → cap ≤ 9223372036854775807 → (a = none → cap = 0) →
    Calls Try.prog fn #[.slice a S.length cap, x] w fun e w' => ∃ av cp, e = .returned (.tuple #[.slice av T.length cp, .int .i64 c]) ∧
      w'.ownsRow w.heap.size 55 5 (.slice av T.length cp) T.length (flatM T) ∧ Below w.heap.size w w'

theorem filter_take {α : Type} {S : List α} {p : α → Bool} {k : Nat} (hk : k < S.length) : (S.take (k + 1)).filter p = (S.take k).filter p ++ (if p S[k] = true then [S[k]] else []) := by
  rw [List.take_succ_eq_append_getElem hk, List.filter_append]
  congr 1
  by_cases h : p S[k] = true
  · rw [if_pos h]; simp [h]
  · rw [if_neg h]; simp [h]
theorem filter_take_len {α : Type} (S : List α) (p : α → Bool) (k : Nat) : ((S.take k).filter p).length ≤ S.length := by
  have h1 := List.length_filter_le p (S.take k)
  have h2 := List.length_take_le' k S
  omega

theorem cell_alloc5 (w : World) (u0 u1 u2 u3 u4 : Value) (e : TypeId) (b : Nat) (hb : b = w.heap.size) :
    (w.alloc (.cells #[u0, u1, u2, u3, u4] e)).cell? ⟨b, 0, none⟩ = some u0 ∧ (w.alloc (.cells #[u0, u1, u2, u3, u4] e)).cell? ⟨b, 1, none⟩ = some u1 ∧ (w.alloc (.cells #[u0, u1, u2, u3, u4] e)).cell? ⟨b, 2, none⟩ = some u2 ∧ (w.alloc (.cells #[u0, u1, u2, u3, u4] e)).cell? ⟨b, 3, none⟩ = some u3 ∧ (w.alloc (.cells #[u0, u1, u2, u3, u4] e)).cell? ⟨b, 4, none⟩ = some u4 := by subst hb; simp

set_option maxRecDepth 100000 in
set_option maxHeartbeats 4000000 in
theorem specAck_ok (S : Mps) (x : Int) (hf : FitsM S) (hg : S.length ≤ 256 ∧ Valid S) : GivesM 9 S (.int .u64 x) (S.filter (late x)) 0 := by
  intro a cap w hS hc hm hnone
  obtain ⟨hl, hV⟩ := hg
  go_enter Try.func9, Try.ntmps9
  go_wp2_with fail
  refine (specMapsOK a S cap _ hS hf (by omega)).mono ?_
  rintro e w1 ⟨b, rfl, hiff, hb1⟩
  obtain rfl : b = true := hiff.2 ⟨hl, hV⟩
  have hS1 := hS.moved hb1
  have s1 := hb1.size
  have HV : Hid (Valid S) := hV
  clear hV
  have hmade : (w1.alloc (.cells #[] 55)).ownsRow w1.heap.size 55 5 (.slice (some ⟨w1.heap.size, 0, none⟩) 0 0) 0 (flatM []) := World.ownsRow_made w1 #[] 0 (Nat.le_refl _) (by unfold maxLen; omega) rfl
  clear hiff hS
  go_wp2
  go_loopw [6, 7] (fun v i wr => ∃ (k : Nat) (av : Option Addr) (cp : Nat), k ≤ S.length ∧ i = .int .i64 k ∧ v = .slice av ((S.take k).filter (late x)).length cp ∧
      wr.ownsRow w1.heap.size 55 5 (.slice av ((S.take k).filter (late x)).length cp) ((S.take k).filter (late x)).length (flatM ((S.take k).filter (late x))) ∧ Below w1.heap.size w1 wr) (fun _ i _ => S.length - (intOf i).toNat)
  case atStart => exact ⟨0, _, _, Nat.zero_le _, rfl, rfl, hmade, (Below.refl _ _).alloc (Nat.le_refl _) _⟩
  case round =>
    clear hmade
    obtain ⟨k, av, cp, hk, rfl, rfl, hown, hb⟩ := hrel
    by_cases hlt : k < S.length
    · rcases hS1 with h0 | ⟨b, off, rfl, hc⟩
      · simp [h0] at hlt
      obtain ⟨c0, c1, c2, c3, c4, hn, hok, q0, q1, q2, q3, q4⟩ := LieM.at hf hc hlt
      have hsh := shape_small (Valid.shape HV.out hlt)
      rw [hn.out] at hsh
      obtain ⟨f1, f1', f2, f2', f0'⟩ := hsh
      have f0 := hok.1.1
      simp only at f1 f1' f2 f2' f0' f0
      have r0 : wr.cell? ⟨b, off + k * 5, none⟩ = some (.int .u64 c0) := by rw [hb.cell (World.block_lt_of_cell? w1 _ q0)]; exact q0
      have r1 : wr.cell? ⟨b, off + k * 5 + 1, none⟩ = some (.int .i64 c1) := by rw [hb.cell (World.block_lt_of_cell? w1 _ q1)]; exact q1
      have r2 : wr.cell? ⟨b, off + k * 5 + 2, none⟩ = some (.int .i64 c2) := by rw [hb.cell (World.block_lt_of_cell? w1 _ q2)]; exact q2
      have r3 : wr.cell? ⟨b, off + k * 5 + 3, none⟩ = some (.int .i64 c3) := by rw [hb.cell (World.block_lt_of_cell? w1 _ q3)]; exact q3
      have r4 : wr.cell? ⟨b, off + k * 5 + 4, none⟩ = some (.int .i64 c4) := by rw [hb.cell (World.block_lt_of_cell? w1 _ q4)]; exact q4
      have hL := filter_take_len S (late x) k
      have HF : Hid _ := filter_take (p := late x) hlt
      obtain ⟨B, hB⟩ : ∃ B, B = (S.take k).filter (late x) := ⟨_, rfl⟩
      rw [← hB] at hown hL
      have HB : Hid _ := hB
      rw [← hB]
      clear hB hc q0 q1 q2 q3 q4 hok HV hf
      by_cases hx : x < c0 + (c1 + c2)
      · have hd : decide (x < c0 + (c1 + c2)) = true := by simpa using hx
        have HN : Hid ((S.take (k + 1)).filter (late x) = B ++ [⟨c0, c1, c2, c3, c4⟩]) := by
          unfold Hid
          have hp : late x S[k] = true := by rw [hn.out]; show decide (x < c0 + c1 + c2) = true; rw [decide_eq_true_eq]; omega
          rw [HF.out, ← HB.out, if_pos hp, hn.out]
        have HL : Hid (((S.take (k + 1)).filter (late x)).length = B.length + 1) := by unfold Hid; rw [HN.out]; simp
        clear HF HB hn hx
        go_wp2
        go_quiet (fail)
        go_wp2_with (at_builtin; refine wpList_oneM _ rfl (.tmp 38) (.tmp 43) rfl w1.heap.size _ B.length _ B rfl c0 c1 c2 c3 c4 rfl (World.ownsRow.alloc (owned_drewN hown _) _) _ rfl (cell_alloc5 _ _ _ _ _ _ _ _ rfl).1 (cell_alloc5 _ _ _ _ _ _ _ _ rfl).2.1 (cell_alloc5 _ _ _ _ _ _ _ _ rfl).2.2.1 (cell_alloc5 _ _ _ _ _ _ _ _ rfl).2.2.2.1 (cell_alloc5 _ _ _ _ _ _ _ _ rfl).2.2.2.2 (by omega) (by have := hb.size; simp; omega) ?_; intro g5 cp5 w5 ho5 hg5)
        go_roundw
        case rel => exact ⟨k + 1, some ⟨g5, 0, none⟩, cp5, by omega, by go_num, by rw [HL.out], by rw [HL.out, HN.out]; exact ho5, below_grown ((drewsN hb _).alloc hb.size _) (World.ownsRow.alloc (owned_drewN hown _) _) hg5 (Nat.le_refl _) (by have := hb.size; simp; omega)⟩
        case measure => simp [intOf]; omega
      · have hd : decide (x < c0 + (c1 + c2)) = false := by simpa using hx
        have HN : Hid ((S.take (k + 1)).filter (late x) = B) := by
          unfold Hid
          have hp : ¬ late x S[k] = true := by rw [hn.out]; show ¬ decide (x < c0 + c1 + c2) = true; rw [decide_eq_true_eq]; omega
          rw [HF.out, ← HB.out, if_neg hp, List.append_nil]
        clear HF HB hn hx
        go_wp2
        go_quiet (fail)
        go_wp2
        go_roundw
        case rel => exact ⟨k + 1, av, cp, by omega, by go_num, by rw [HN.out], by rw [HN.out]; exact owned_drewN hown _, drewsN hb _⟩
        case measure => simp [intOf]; omega
    · have : k = S.length := by omega
      subst this
      rw [List.take_length] at hown ⊢
      go_wp2
      go_ret2
      exact ⟨av, cp, rfl, owned_base hown s1, hb1.trans (hb.mono s1)⟩

theorem specAck_no (S : Mps) (x : Int) (hf : FitsM S) (hg : ¬ (S.length ≤ 256 ∧ Valid S)) : GivesM 9 S (.int .u64 x) [] 1 := by
  intro a cap w hS hc hm hnone
  go_enter Try.func9, Try.ntmps9
  go_wp2_with (go_at_call 37; refine (specMapsOK a S cap _ hS hf (by omega)).mono ?_; rintro e w1 ⟨b, rfl, hiff, hb1⟩; obtain rfl : b = false := by cases b; rfl; exact absurd (hiff.1 rfl) hg)
  go_ret2
  exact ⟨none, 0, rfl, World.ownsRow_nil _ _ _ _, hb1⟩

theorem implAck_no (S : Mps) (x : Int) (hf : FitsM S) (hg : ¬ (S.length ≤ 256 ∧ Valid S)) : GivesM 11 S (.int .u64 x) [] 1 := by
  intro a cap w hS hc hm hnone
  have hb0 : Below w.heap.size w (w.alloc (.cells #[.int .u64 x] 23)) := (Below.refl _ _).alloc (Nat.le_refl _) _
  go_enter Try.func11, Try.ntmps11
  go_wp2_with (go_at_call 39; refine (implMapsOK a S cap _ (hS.moved hb0) hf (by omega)).mono ?_; rintro e w1 ⟨b, rfl, hiff, hb1⟩; obtain rfl : b = false := by cases b; rfl; exact absurd (hiff.1 rfl) hg)
  go_ret2
  exact ⟨none, 0, rfl, World.ownsRow_nil _ _ _ _, hb0.trans (hb1.mono (by simp))⟩

theorem lie_sub {w : World} {a : Option Addr} {S : Mps} (h : LieM w a S) (k : Nat) : LieM w (Option.map (fun x => x.add (k * 5)) a) (S.drop k) := by
  rcases h with h | ⟨b, off, rfl, hc⟩
  · exact .inl (by simp [h])
  · have e : (Option.map (fun x => Addr.add x (k * 5)) (some (⟨b, off, none⟩ : Addr))) = some ⟨b, off + k * 5, none⟩ := by
      simp only [Option.map_some, Option.some.injEq]
      unfold Addr.add
      split <;> simp_all
    rw [e]
    exact LieM.drop (.inr ⟨b, off, rfl, hc⟩) k

set_option maxHeartbeats 2000000 in
theorem implAck_ok (S : Mps) (x : Int) (hf : FitsM S) (hg : S.length ≤ 256 ∧ Valid S) : GivesM 11 S (.int .u64 x) (S.filter (late x)) 0 := by
  intro a cap w hS hc hm hnone
  obtain ⟨hl, hV⟩ := hg
  have hb0 : Below w.heap.size w (w.alloc (.cells #[.int .u64 x] 23)) := (Below.refl _ _).alloc (Nat.le_refl _) _
  have hx0 := cell_alloc1 w (.int .u64 x) 23 _ rfl
  have hS0 := hS.moved hb0
  go_enter Try.func11, Try.ntmps11
  go_wp2_with fail
  refine (implMapsOK a S cap _ hS0 hf (by omega)).mono ?_
  rintro e w1 ⟨b, rfl, hiff, hb1⟩
  obtain rfl : b = true := hiff.2 ⟨hl, hV⟩
  have hS1 := hS0.moved hb1
  have hx1 := (hb1.cell (World.block_lt_of_cell? _ _ hx0)).trans hx0
  have hbw := hb0.trans (hb1.mono (by simp))
  clear hiff hS hS0 hb0 hb1 hx0
  go_wp2_with fail
  refine (placeAck a S cap w.heap.size x _ hS1 hf hl hV hx1).mono ?_
  rintro e w2 ⟨k, rfl, hk, hb2⟩
  have hS2 := hS1.moved hb2
  have hbw2 := hbw.trans (hb2.mono hbw.size)
  have hkl := hk.le
  have HK : Hid _ := hk.drop
  clear hS1 hx1 hbw hb2 hV hk
  have HLn : Hid ((S.filter (late x)).length = S.length - k) := by unfold Hid; rw [← HK.out, List.length_drop]
  go_wp2_with fail
  all_goals
    refine (copyListM _ (S.drop k) (S.length - k) _ (by simp) _ (by first | exact lie_sub hS2 k | exact .inl (List.drop_eq_nil_of_le (by omega))) (by omega) (by intro h; first | omega | (simp only [Option.map_eq_none_iff] at h; have := hnone h; omega))).mono ?_
    rintro e w3 ⟨av, cp, rfl, ho, hb3⟩
    go_wp2
    go_ret2
    exact ⟨av, cp, by rw [HLn.out]; rfl, by rw [HLn.out, ← HK.out]; exact owned_base ho hbw2.size, hbw2.trans (hb3.mono hbw2.size)⟩
end Go.Proofs.Ytlagaiekoahjnaa
