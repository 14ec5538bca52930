import Derived.Test.YtincfdhfoaimbaaRecv
import Derived.Test.YtincfdhfoaimbaaWordLaw
import Derived.Deep.RegionHeld3
namespace Go.Proofs.Ytincfdhfoaimbaa
open Go.ChangeShapes Go.WideShapes Go.ChangeAt Go.RowKit
set_option linter.unusedVariables false

theorem kept_below {w w' : World} {base : Nat} {e : TypeId} {size : Nat} {v v2 : Value} {n : Nat} {xs : List Value} {B : Nat} (h : w.ownsRow base e size v n xs) (hg : w.grownBy w' v2.ownBlock) (hlt : ∀ k, v.ownBlock = some k → k < B) (hge : ∀ k, v2.ownBlock = some k → B ≤ k) : w'.ownsRow base e size v n xs := by
  refine h.kept hg ?_
  cases hv : v.ownBlock with
  | none => exact .inl rfl
  | some k =>
    refine .inr fun hk => ?_
    have h1 := hlt k hv
    have h2 := hge k hk.symm
    omega
theorem kept_above {w w' : World} {base : Nat} {e : TypeId} {size : Nat} {v v2 : Value} {n : Nat} {xs : List Value} {B : Nat} (h : w.ownsRow base e size v n xs) (hg : w.grownBy w' v2.ownBlock) (hge : ∀ k, v.ownBlock = some k → B ≤ k) (hlt : ∀ k, v2.ownBlock = some k → k < B) : w'.ownsRow base e size v n xs := by
  refine h.kept hg ?_
  cases hv : v.ownBlock with
  | none => exact .inl rfl
  | some k =>
    refine .inr fun hk => ?_
    have h1 := hge k hv
    have h2 := hlt k hk.symm
    omega


theorem eqRecvOut_same (c d : Int) (w : World) : Calls Try.prog 35 #[.agg #[.int .i64 c, .int .u32 d], .agg #[.int .i64 c, .int .u32 d]] w fun e w' => e = .returned (.bool true) ∧ Below w.heap.size w w' := by
  go_enter Try.func35, Try.ntmps35
  go_wp2
  go_ret
  exact ⟨rfl, ((Below.refl _ _).alloc (Nat.le_refl _) _).alloc (by simp) _⟩

theorem eqRecvOutS_same (a a' : Option Addr) (S : Pairs) (n cap cap' : Nat) (w : World) (hn : S.length = n) (hS : Lie2 .i64 .u32 w a S) (hS' : Lie2 .i64 .u32 w a' S) (hl : n ≤ 1048576) :
    Calls Try.prog 11 #[.slice a n cap, .slice a' n cap'] w fun e w' => e = .returned (.bool true) ∧ Below w.heap.size w w' := by
  go_enter Try.func11, Try.ntmps11
  go_wp2
  go_loopw [5] (fun i wr => ∃ k : Nat, k ≤ n ∧ i = .int .i64 k ∧ Below w.heap.size w wr) (fun i _ => n - (intOf i).toNat)
  case atStart => exact ⟨0, Nat.zero_le _, rfl, Below.refl _ _⟩
  case round =>
    obtain ⟨k, hk, rfl, hb⟩ := hrel
    by_cases hlt : k < n
    · rcases hS with h | ⟨b, off, rfl, hc⟩
      · simp [h] at hn; omega
      rcases hS' with h | ⟨b', off', rfl, hc'⟩
      · simp [h] at hn; omega
      have q1 := (hc k (by omega)).1
      have q2 := (hc k (by omega)).2
      have q3 := (hc' k (by omega)).1
      have q4 := (hc' k (by omega)).2
      obtain ⟨c, hcn⟩ : ∃ c, (S[k]'(by omega)).1 = c := ⟨_, rfl⟩
      obtain ⟨d, hdn⟩ : ∃ d, (S[k]'(by omega)).2 = d := ⟨_, rfl⟩
      rw [hcn] at q1 q3
      rw [hdn] at q2 q4
      have r1 := (hb.cell (World.block_lt_of_cell? w _ q1)).trans q1
      have r2 := (hb.cell (World.block_lt_of_cell? w _ q2)).trans q2
      have r3 := (hb.cell (World.block_lt_of_cell? w _ q3)).trans q3
      have r4 := (hb.cell (World.block_lt_of_cell? w _ q4)).trans q4
      clear hc hc' q1 q2 q3 q4 hcn hdn
      go_wp2
      go_region_with (go_at_call 35; refine (eqRecvOut_same _ _ _).mono ?_; rintro e w2 ⟨rfl, hb2⟩)
      all_goals
        have hb3 := hb.drew.trans (hb2.mono hb.size)
        clear hb hb2
        go_wp2
        go_roundw
        case rel => exact ⟨k + 1, by omega, by go_num, by first | exact hb3 | exact hb3.drew⟩
        case measure => simp [intOf]; omega
    · go_wp2
      go_ret
      exact ⟨rfl, hb⟩

/-- What marking leaves: 1, 2, 3 .. -/
def marked2 (n : Nat) : Pairs := (List.range n).map fun (i : Nat) => ((1 + 2 * i : Int), (1 + 2 * i + 1 : Int))
theorem marked2_length (n : Nat) : (marked2 n).length = n := by simp [marked2]
theorem marked2_at {n i : Nat} (h : i < (marked2 n).length) : (marked2 n)[i] = ((1 + 2 * i : Int), (1 + 2 * i + 1 : Int)) := by simp [marked2]
def partM2 (S : Pairs) (k : Nat) : Pairs := marked2 k ++ S.drop k
theorem partM2_zero (S : Pairs) : partM2 S 0 = S := by simp [partM2, marked2]
theorem partM2_all (S : Pairs) : partM2 S S.length = marked2 S.length := by simp [partM2]
theorem partM2_length (S : Pairs) {k : Nat} (h : k ≤ S.length) : (partM2 S k).length = S.length := by simp [partM2, marked2_length]; omega
theorem partM2_succ (S : Pairs) {k : Nat} (h : k < S.length) : (partM2 S k).set k ((1 + 2 * k : Int), (1 + 2 * k + 1 : Int)) = partM2 S (k + 1) := by
  unfold partM2
  rw [List.set_append, marked2_length, if_neg (by omega), Nat.sub_self, List.drop_eq_getElem_cons h, List.set_cons_zero]
  have e : marked2 (k + 1) = marked2 k ++ [((1 + 2 * k : Int), (1 + 2 * k + 1 : Int))] := by simp [marked2, List.range_succ]
  rw [e, List.append_assoc]
  rfl
theorem markRecvOutS_any (v : Value) (S : Pairs) (w : World) (base : Nat) (ho : w.ownsRow base 52 2 v S.length (flat2 .i64 .u32 S)) (hl : S.length ≤ 1048576) :
    Calls Try.prog 14 #[v, .int .i64 1] w fun e w' => e = .returned (.int .i64 (1 + 2 * (S.length : Int))) ∧ w'.ownsRow base 52 2 v S.length (flat2 .i64 .u32 (marked2 S.length)) ∧ w.grownBy w' v.ownBlock := by
  rcases ho.2 with ⟨rfl, h0⟩ | ⟨g, cap, cur, rfl, _⟩
  · go_enter Try.func14, Try.ntmps14
    go_wp2
    refine wp_loop_rounds 1 ?_
    rw [rounds_succ]
    go_wp2
    go_ret
    have hn : S = [] := List.eq_nil_of_length_eq_zero h0
    subst hn
    exact ⟨rfl, ho, World.grownBy.refl _ _⟩
  · go_enter Try.func14, Try.ntmps14
    go_wp2
    go_loopw [1, 5] (fun m i wr => ∃ k : Nat, k ≤ S.length ∧ i = .int .i64 k ∧ m = .int .i64 (1 + 2 * (k : Int)) ∧ wr.ownsRow base 52 2 (.slice (some ⟨g, 0, none⟩) S.length cap) S.length (flat2 .i64 .u32 (partM2 S k)) ∧ w.grownBy wr (some g))
      (fun _ i _ => S.length - (intOf i).toNat)
    case atStart => exact ⟨0, Nat.zero_le _, rfl, by simp, by rw [partM2_zero]; exact ho, World.grownBy.refl _ _⟩
    case round =>
      obtain ⟨k, hk, rfl, rfl, hown, hg⟩ := hrel
      by_cases hlt : k < S.length
      · obtain ⟨p1, p2, ⟨u1, p3⟩, ⟨u2, p4⟩⟩ := place2 hown hlt
        have hl2 := partM2_length S hk
        have ho2 := hown
        rw [← hl2] at ho2
        have hn2 := stored2 ho2 k (by omega) (1 + 2 * (k : Int)) (1 + 2 * (k : Int) + 1)
        rw [partM2_succ S hlt, hl2] at hn2
        have hg2 := grown_trans hg (grown_trans (grown_set wr g (k * 2) (.int .i64 (1 + 2 * (k : Int)))) (grown_set _ g (k * 2 + 1) (.int .u32 (1 + 2 * (k : Int) + 1))))
        clear ho2 hown hg ho
        go_wp2
        go_roundw
        case rel => exact ⟨k + 1, by omega, by go_num, by go_num, hn2, hg2⟩
        case measure => simp [intOf]; omega
      · go_wp2
        go_ret
        have : k = S.length := by omega
        subst this
        rw [partM2_all] at hown
        exact ⟨rfl, hown, hg⟩

theorem heldRecvOutS_any (a : Option Addr) (n cap : Nat) (w : World) (hS : Lie2 .i64 .u32 w a (marked2 n)) (hl : n ≤ 1048576) :
    Calls Try.prog 15 #[.slice a n cap, .int .i64 1] w fun e w' => e = .returned (.int .i64 (1 + 2 * (n : Int))) ∧ w' = w := by
  go_enter Try.func15, Try.ntmps15
  go_wp2
  go_loop [1, 5] (fun m i => ∃ k : Nat, k ≤ n ∧ i = .int .i64 k ∧ m = .int .i64 (1 + 2 * (k : Int))) (fun _ i => n - (intOf i).toNat)
  case atStart => exact ⟨0, Nat.zero_le _, rfl, by simp⟩
  case round =>
    obtain ⟨k, hk, rfl, rfl⟩ := hrel
    by_cases hlt : k < n
    · rcases hS with h | ⟨b, off, rfl, hc⟩
      · have := marked2_length n; rw [h] at this; simp at this; omega
      · obtain ⟨q1, q2⟩ := hc k (by rw [marked2_length]; exact hlt)
        rw [marked2_at] at q1 q2
        clear hc
        go_wp2
        go_round
        case rel => exact ⟨k + 1, by omega, by go_num, by go_num⟩
        case measure => simp [intOf]; omega
    · go_wp2
      go_ret
      have : k = n := by omega
      subst this
      exact ⟨rfl, rfl⟩

theorem bothRecv (x : Int) (zs : List Int) (x0 : 0 ≤ x) (x1 : x ≤ 4294967295) (hm : zs.length ≤ 1048576) : ∃ (S : Pairs) (c : Int), S.length ≤ 1048576 ∧ GivesR 8 x zs S c ∧ GivesR 10 x zs S c := by
  by_cases hl : zs.length ≤ 4000
  · exact ⟨recvs x zs, 0, by rw [recvs_length]; exact hm, specRecv x zs hl x0 x1, implRecv x zs hl x0 x1⟩
  · exact ⟨[], 5, by simp, specRecv_long x zs (by omega) hm, implRecv_long x zs (by omega) hm⟩

set_option maxHeartbeats 4000000 in
theorem lawRecv (x : Int) (a : Option Addr) (zs : List Int) (n cap : Nat) (w : World) (hn : zs.length = n) (hz : Ints .u32 w a zs) (x0 : 0 ≤ x) (x1 : x ≤ 4294967295) (hm : n ≤ 9223372036854775807) :
    Calls Try.prog 3 #[.int .u32 x, .slice a n cap] w fun e w' => e = .returned (.bool true) ∧ Below w.heap.size w w' := by
  subst hn
  by_cases hl : zs.length ≤ 1048576
  · obtain ⟨S, c, hSl, hspec, himpl⟩ := bothRecv x zs x0 x1 hl
    have HSP : Hid _ := hspec
    have HIM : Hid _ := himpl
    clear hspec himpl
    go_enter Try.func3, Try.ntmps3
    go_wp2_with fail
    refine (toUint32S_any a zs cap w hz hl).mono ?_
    rintro e w1 ⟨rfl, ho1, hb1⟩
    go_wp2_with fail
    refine (HSP.out _ _ _ _ rfl (Ints.ofRow ho1)).mono ?_
    rintro e w2 ⟨av0, cp0, rfl, hr0, hb2⟩
    have hB2 := hb1.trans (hb2.mono hb1.size)
    have hr0 := owned_base hr0 hb1.size
    have lt0 : ∀ k, (Value.slice av0 S.length cp0).ownBlock = some k → k < w2.heap.size := fun k hk => (hr0.lt k hk).2
    have t2 := hB2.size
    clear ho1 hb1 hb2 HSP
    go_wp2_with fail
    refine (toUint32S_any a zs cap w2 (hz.moved hB2) hl).mono ?_
    rintro e w3 ⟨rfl, ho3, hb3⟩
    have hB3 := hB2.trans (hb3.mono hB2.size)
    have hr0 := owned_kept hr0 hb3
    have s3 : w2.heap.size < w3.heap.size := (ho3.lt _ rfl).2
    have t3 := hB3.size
    clear hb3
    go_wp2_with fail
    refine (HIM.out _ _ _ _ rfl (Ints.ofRow ho3)).mono ?_
    rintro e w4 ⟨av1, cp1, rfl, hr1, hb4⟩
    have hB4 := hB3.trans (hb4.mono hB3.size)
    have hr0 := owned_kept hr0 hb4
    have ho3 := owned_kept ho3 hb4
    have s4 := hb4.size
    have ge1 : ∀ k, (Value.slice av1 S.length cp1).ownBlock = some k → w3.heap.size ≤ k := fun k hk => (hr1.lt k hk).1
    clear hb4 hB3
    go_wp2_with fail
    refine (eqRecvOutS_same _ _ S _ _ _ _ rfl (Lie2.ofRow rfl hr1) (Lie2.ofRow rfl hr0) hSl).mono ?_
    rintro e w5 ⟨rfl, hb5⟩
    have hr0 := owned_kept hr0 hb5
    have ho3 := owned_kept ho3 hb5
    have hr1 := owned_kept hr1 hb5
    have hB5 := hB4.trans (hb5.mono hB4.size)
    have s5 := hb5.size
    clear hb5 hB4
    go_wp2_with fail
    refine (toUint32S_any a zs cap w5 (hz.moved hB5) hl).mono ?_
    rintro e w6 ⟨rfl, ho6, hb6⟩
    have hr0 := owned_kept hr0 hb6
    have ho3 := owned_kept ho3 hb6
    have hr1 := owned_kept hr1 hb6
    have hB6 := hB5.trans (hb6.mono hB5.size)
    have s6 := hb6.size
    clear hb6 hB5
    go_wp2_with fail
    refine (eqUint32S_same _ _ zs _ _ _ (Ints.ofRow ho3) (Ints.ofRow ho6) hl).mono ?_
    rintro e w7 ⟨rfl, hb7⟩
    have hr0 := owned_kept hr0 hb7
    have ho3 := owned_kept ho3 hb7
    have hr1 := owned_kept hr1 hb7
    have hB7 := hB6.trans (hb7.mono hB6.size)
    have s7 := hb7.size
    clear hb7 hB6 ho6
    go_wp2_with fail
    refine (markUint32S_any _ zs 1 _ _ _ rfl ho3 hl (by omega) (by omega)).mono ?_
    rintro e w8 ⟨rfl, ho8, hg8⟩
    have hr0 := kept_below (B := w2.heap.size) hr0 hg8 lt0 (fun k hk => by simp [Value.ownBlock] at hk; omega)
    have hr1 := kept_above (B := w3.heap.size) hr1 hg8 ge1 (fun k hk => by simp [Value.ownBlock] at hk; omega)
    have hB8 := below_grown hB7 ho3 hg8 t2 hB7.size
    have s8 := hg8.size
    clear hg8 hB7 ho3 ho8
    go_wp2_with fail
    refine (eqRecvOutS_same _ _ S _ _ _ _ rfl (Lie2.ofRow rfl hr1) (Lie2.ofRow rfl hr0) hSl).mono ?_
    rintro e w9 ⟨rfl, hb9⟩
    have hr0 := owned_kept hr0 hb9
    have hr1 := owned_kept hr1 hb9
    have hB9 := hB8.trans (hb9.mono hB8.size)
    have s9 := hb9.size
    clear hb9 hB8
    go_wp2_with fail
    refine (markRecvOutS_any _ S _ _ hr1 hSl).mono ?_
    rintro e w10 ⟨rfl, hr10, hg10⟩
    have hr0 := kept_below (B := w3.heap.size) hr0 hg10 (fun k hk => by have := lt0 k hk; omega) ge1
    have hB10 := below_grown hB9 hr1 hg10 t3 hB9.size
    have s10 := hg10.size
    clear hg10 hB9 hr1
    go_wp2_with fail
    refine (heldRecvOutS_any av1 S.length cp1 _ (Lie2.ofRow (marked2_length _) hr10) hSl).mono ?_
    rintro e w11 ⟨rfl, rfl⟩
    clear hr10
    go_wp2_with fail
    refine (toUint32S_any a zs cap _ (hz.moved hB10) hl).mono ?_
    rintro e w12 ⟨rfl, ho12, hb12⟩
    have hr0 := owned_kept hr0 hb12
    have hB12 := hB10.trans (hb12.mono hB10.size)
    clear hb12 hB10
    go_wp2_with fail
    refine (HIM.out _ _ _ _ rfl (Ints.ofRow ho12)).mono ?_
    rintro e w13 ⟨av2, cp2, rfl, hr2, hb13⟩
    have hr0 := owned_kept hr0 hb13
    have hB13 := hB12.trans (hb13.mono hB12.size)
    clear hb13 hB12 ho12 HIM
    go_wp2_with fail
    refine (eqRecvOutS_same _ _ S _ _ _ _ rfl (Lie2.ofRow rfl hr2) (Lie2.ofRow rfl hr0) hSl).mono ?_
    rintro e w14 ⟨rfl, hb14⟩
    go_wp2
    go_ret
    exact ⟨rfl, hB13.trans (hb14.mono hB13.size)⟩
  · go_enter Try.func3, Try.ntmps3
    go_wp2
    go_ret
    exact ⟨rfl, Below.refl _ _⟩
end Go.Proofs.Ytincfdhfoaimbaa
