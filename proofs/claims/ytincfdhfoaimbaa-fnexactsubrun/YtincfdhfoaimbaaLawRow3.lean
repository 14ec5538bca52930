import Derived.Test.YtincfdhfoaimbaaRow3
import Derived.Test.YtincfdhfoaimbaaRows1
import Derived.LoopTactic
namespace Go.Proofs.Ytincfdhfoaimbaa
open Go.ChangeShapes Go.WideShapes Go.ChangeAt Go.RowKit
set_option linter.unusedVariables false

/-- What a copying loop has made of a zero row behind j rounds. -/
def part3 (S : Triples) (j : Nat) : Triples := S.take j ++ List.replicate (S.length - j) (0, 0, 0)
theorem part3_zero (S : Triples) : part3 S 0 = List.replicate S.length (0, 0, 0) := by simp [part3]
theorem part3_all (S : Triples) : part3 S S.length = S := by simp [part3]
theorem part3_length (S : Triples) {j : Nat} (h : j ≤ S.length) : (part3 S j).length = S.length := by simp [part3]; omega
theorem part3_succ (S : Triples) (j : Nat) (h : j < S.length) : (part3 S j).set j S[j] = part3 S (j + 1) := by
  unfold part3
  rw [List.set_append]
  simp only [List.length_take]
  rw [if_neg (by omega)]
  have e : S.length - j = (S.length - (j + 1)) + 1 := by omega
  have e2 : j - min j S.length = 0 := by omega
  rw [e2, e, List.replicate_succ, List.set_cons_zero, List.take_succ_eq_append_getElem h]
  simp only [List.append_assoc, List.singleton_append]
theorem flat3_replicate (ka kb kc : IntKind) (n : Nat) : flat3 ka kb kc (List.replicate n (0, 0, 0)) = (madeCells #[.int ka 0, .int kb 0, .int kc 0] (n * 3)).toList := by
  refine List.ext_getElem? fun i => ?_
  by_cases hi : i < n * 3
  · have hq : i / 3 < (List.replicate n ((0, 0, 0) : Int × Int × Int)).length := by simp; omega
    obtain ⟨h0, h1, h2⟩ := flat3_at (ka := ka) (kb := kb) (kc := kc) (S := List.replicate n (0, 0, 0)) hq
    have hr : (madeCells #[Value.int ka 0, .int kb 0, .int kc 0] (n * 3)).toList[i]? = #[Value.int ka 0, .int kb 0, .int kc 0][i % 3]? := by
      simp only [madeCells, Array.toList_map, List.getElem?_map]
      rcases (show i % 3 = 0 ∨ i % 3 = 1 ∨ i % 3 = 2 by omega) with h | h | h <;> simp [h, hi]
    rw [hr]
    rcases (show (i = i / 3 * 3 ∧ i % 3 = 0) ∨ (i = i / 3 * 3 + 1 ∧ i % 3 = 1) ∨ (i = i / 3 * 3 + 2 ∧ i % 3 = 2) by omega) with h | h | h
    · rw [← h.1] at h0; rw [h0, h.2]; simp
    · rw [← h.1] at h1; rw [h1, h.2]; simp
    · rw [← h.1] at h2; rw [h2, h.2]; simp
  · rw [List.getElem?_eq_none (by rw [flat3_length]; simp; omega), List.getElem?_eq_none (by simp [madeCells]; omega)]
theorem below3 {B : Nat} {v w : World} (h : Below B v w) (g j : Nat) (hg : B ≤ g) (x y z : Value) : Below B v (((w.setCell ⟨g, j * 3, none⟩ x).setCell ⟨g, j * 3 + 1, none⟩ y).setCell ⟨g, j * 3 + 2, none⟩ z) := ((h.setCell (p := ⟨g, j * 3, none⟩) hg _).setCell (p := ⟨g, j * 3 + 1, none⟩) hg _).setCell (p := ⟨g, j * 3 + 2, none⟩) hg _

/-- What marking leaves: s, s + 1, s + 2 .. -/
def marked3 (s : Int) (n : Nat) : Triples := (List.range n).map fun (i : Nat) => (s + 3 * i, s + 3 * i + 1, s + 3 * i + 2)
theorem marked3_length (s : Int) (n : Nat) : (marked3 s n).length = n := by simp [marked3]
theorem marked3_at {s : Int} {n i : Nat} (h : i < (marked3 s n).length) : (marked3 s n)[i] = (s + 3 * i, s + 3 * i + 1, s + 3 * i + 2) := by simp [marked3]
def partM3 (s : Int) (S : Triples) (k : Nat) : Triples := marked3 s k ++ S.drop k
theorem partM3_zero (s : Int) (S : Triples) : partM3 s S 0 = S := by simp [partM3, marked3]
theorem partM3_all (s : Int) (S : Triples) : partM3 s S S.length = marked3 s S.length := by simp [partM3]
theorem partM3_length (s : Int) (S : Triples) {k : Nat} (h : k ≤ S.length) : (partM3 s S k).length = S.length := by simp [partM3, marked3_length]; omega
theorem partM3_succ (s : Int) (S : Triples) {k : Nat} (h : k < S.length) : (partM3 s S k).set k (s + 3 * k, s + 3 * k + 1, s + 3 * k + 2) = partM3 s S (k + 1) := by
  unfold partM3
  rw [List.set_append, marked3_length, if_neg (by omega), Nat.sub_self, List.drop_eq_getElem_cons h, List.set_cons_zero]
  have e : marked3 s (k + 1) = marked3 s k ++ [(s + 3 * k, s + 3 * k + 1, s + 3 * k + 2)] := by simp [marked3, List.range_succ]
  rw [e, List.append_assoc]
  rfl

theorem eqSubEvent_same (c d f : Int) (w : World) : Calls Try.prog 46 #[.agg #[.int .i64 c, .int .i64 d, .int .u32 f], .agg #[.int .i64 c, .int .i64 d, .int .u32 f]] w fun e w' => e = .returned (.bool true) ∧ Below w.heap.size w w' := by
  go_enter Try.func46, Try.ntmps46
  go_wp2
  go_ret
  exact ⟨rfl, ((Below.refl _ _).alloc (Nat.le_refl _) _).alloc (by simp) _⟩
set_option maxHeartbeats 1000000 in
theorem eqSubEventS_same (a a' : Option Addr) (S : Triples) (n cap cap' : Nat) (w : World) (hn : S.length = n) (hS : Lie3 .i64 .i64 .u32 w a S) (hS' : Lie3 .i64 .i64 .u32 w a' S) (hl : n ≤ 1048576) :
    Calls Try.prog 26 #[.slice a n cap, .slice a' n cap'] w fun e w' => e = .returned (.bool true) ∧ Below w.heap.size w w' := by
  go_enter Try.func26, Try.ntmps26
  go_wp2
  go_loopw [5] (fun i wr => ∃ k : Nat, k ≤ n ∧ i = .int .i64 k ∧ Below w.heap.size w wr) (fun i _ => n - (intOf i).toNat)
  case atStart => exact ⟨0, Nat.zero_le _, rfl, Below.refl _ _⟩
  case round =>
    obtain ⟨k, hk, rfl, hb⟩ := hrel
    by_cases hlt : k < n
    · rcases hS with h | ⟨b, off, rfl, hc⟩
      · simp [h] at hn; omega
      rcases hS' with h | ⟨b', off', rfl, hc'⟩
      · simp [h] at hn; omega
      obtain ⟨q1, q2, q3⟩ := hc k (by omega)
      obtain ⟨t1, t2, t3⟩ := hc' k (by omega)
      obtain ⟨c, hcn⟩ : ∃ c, (S[k]'(by omega)).1 = c := ⟨_, rfl⟩
      obtain ⟨d, hdn⟩ : ∃ d, (S[k]'(by omega)).2.1 = d := ⟨_, rfl⟩
      obtain ⟨f, hfn⟩ : ∃ f, (S[k]'(by omega)).2.2 = f := ⟨_, rfl⟩
      rw [hcn] at q1 t1
      rw [hdn] at q2 t2
      rw [hfn] at q3 t3
      have r1 := (hb.cell (World.block_lt_of_cell? w _ q1)).trans q1
      have r2 := (hb.cell (World.block_lt_of_cell? w _ q2)).trans q2
      have r3 := (hb.cell (World.block_lt_of_cell? w _ q3)).trans q3
      have v1 := (hb.cell (World.block_lt_of_cell? w _ t1)).trans t1
      have v2 := (hb.cell (World.block_lt_of_cell? w _ t2)).trans t2
      have v3 := (hb.cell (World.block_lt_of_cell? w _ t3)).trans t3
      clear hc hc' q1 q2 q3 t1 t2 t3 hcn hdn hfn
      go_wp2
      go_region_with (go_at_call 46; refine (eqSubEvent_same _ _ _ _).mono ?_; rintro e w2 ⟨rfl, hb2⟩)
      all_goals
        have hb3 := hb.drew.trans (hb2.mono hb.size)
        clear hb hb2
        go_wp2
        go_roundw
        case rel => exact ⟨k + 1, by omega, by go_num, by first | exact hb3 | exact hb3.drew⟩
        case measure => simp [intOf]; omega
    · go_wp2
      go_ret
      exact ⟨rfl, hb⟩

set_option maxHeartbeats 1000000 in
theorem markSubEventS_from (v : Value) (S : Triples) (s : Int) (n : Nat) (w : World) (base : Nat) (hn : S.length = n) (ho : w.ownsRow base 43 3 v n (flat3 .i64 .i64 .u32 S)) (hl : n ≤ 1048576) (s0 : 0 ≤ s) (s1 : s ≤ 1000000000) :
    Calls Try.prog 27 #[v, .int .i64 s] w fun e w' => e = .returned (.int .i64 (s + 3 * (n : Int))) ∧ w'.ownsRow base 43 3 v n (flat3 .i64 .i64 .u32 (marked3 s n)) ∧ w.grownBy w' v.ownBlock := by
  subst hn
  rcases ho.2 with ⟨rfl, h0⟩ | ⟨g, cap, cur, rfl, _⟩
  · go_enter Try.func27, Try.ntmps27
    go_wp2
    refine wp_loop_rounds 1 ?_
    rw [rounds_succ]
    go_wp2
    go_ret
    have hn : S = [] := List.eq_nil_of_length_eq_zero h0
    subst hn
    exact ⟨ret_int (by simp), ho, World.grownBy.refl _ _⟩
  · go_enter Try.func27, Try.ntmps27
    go_wp2
    go_loopw [1, 5] (fun m i wr => ∃ k : Nat, k ≤ S.length ∧ i = .int .i64 k ∧ m = .int .i64 (s + 3 * (k : Int)) ∧ wr.ownsRow base 43 3 (.slice (some ⟨g, 0, none⟩) S.length cap) S.length (flat3 .i64 .i64 .u32 (partM3 s S k)) ∧ w.grownBy wr (some g))
      (fun _ i _ => S.length - (intOf i).toNat)
    case atStart => exact ⟨0, Nat.zero_le _, rfl, by simp, by rw [partM3_zero]; exact ho, World.grownBy.refl _ _⟩
    case round =>
      obtain ⟨k, hk, rfl, rfl, hown, hg⟩ := hrel
      by_cases hlt : k < S.length
      · obtain ⟨p1, p2, p3, ⟨u1, p4⟩, ⟨u2, p5⟩, ⟨u3, p6⟩⟩ := place3 hown hlt
        have hl2 := partM3_length s S hk
        have ho2 := hown
        rw [← hl2] at ho2
        have hn2 := stored3 ho2 k (by omega) (s + 3 * (k : Int)) (s + 3 * (k : Int) + 1) (s + 3 * (k : Int) + 2)
        rw [partM3_succ s S hlt, hl2] at hn2
        have hg2 := grown_trans hg (grown_trans (grown_trans (grown_set wr g (k * 3) (.int .i64 (s + 3 * (k : Int)))) (grown_set _ g (k * 3 + 1) (.int .i64 (s + 3 * (k : Int) + 1)))) (grown_set _ g (k * 3 + 2) (.int .u32 (s + 3 * (k : Int) + 2))))
        clear ho2 hown hg ho
        go_wp2
        go_roundw
        case rel => exact ⟨k + 1, by omega, by go_num, by go_num, by first | exact hn2 | (simp only [Int.add_assoc] at hn2 ⊢; exact hn2), by first | exact hg2 | (simp only [Int.add_assoc] at hg2 ⊢; exact hg2)⟩
        case measure => simp [intOf]; omega
      · go_wp2
        go_ret
        have : k = S.length := by omega
        subst this
        rw [partM3_all] at hown
        exact ⟨rfl, hown, hg⟩

theorem info_ev : (Try.prog.info? 43).map (fun i => (i.zero, i.size, i.bytes)) = some (some (.agg #[.int .i64 0, .int .i64 0, .int .u32 0]), 3, 24) := by kernel_rfl
theorem toSubEvent_any (c d f : Int) (w : World) : Calls Try.prog 44 #[.agg #[.int .i64 c, .int .i64 d, .int .u32 f]] w fun e w' => e = .returned (.agg #[.int .i64 c, .int .i64 d, .int .u32 f]) ∧ Below w.heap.size w w' := by
  go_enter Try.func44, Try.ntmps44
  go_wp2
  exact bodyPost_ret (v := .agg #[.int .i64 c, .int .i64 d, .int .u32 f]) (by simp [results, Try.results44, go_sem]) rfl ⟨rfl, (((Below.refl _ _).alloc (Nat.le_refl _) _).alloc (by simp) _).alloc (by simp; omega) _⟩

theorem szSubEventS_is (a : Option Addr) (n cap : Nat) (w : World) (hm : n ≤ 9223372036854775807) (r : Int) (hr : (n ≤ 1048576 ∧ r = 1048576 - (n : Int)) ∨ (1048576 < n ∧ r = -1)) :
    Calls Try.prog 21 #[.slice a n cap, .int .i64 1048576] w fun e w' => e = .returned (.int .i64 r) ∧ w' = w := by
  rcases hr with ⟨h, rfl⟩ | ⟨h, rfl⟩
  · go_enter Try.func21, Try.ntmps21
    go_wp2
    go_ret
    exact ⟨rfl, rfl⟩
  · go_enter Try.func21, Try.ntmps21
    go_wp2
    go_ret
    exact ⟨rfl, rfl⟩

set_option maxHeartbeats 1000000 in
theorem toSubEventS_any (a : Option Addr) (S : Triples) (n cap : Nat) (w : World) (hn : S.length = n) (hS : Lie3 .i64 .i64 .u32 w a S) (hl : n ≤ 1048576) :
    Calls Try.prog 24 #[.slice a n cap] w fun e w' => e = .returned (.slice (some ⟨w.heap.size, 0, none⟩) n n) ∧
      w'.ownsRow w.heap.size 43 3 (.slice (some ⟨w.heap.size, 0, none⟩) n n) n (flat3 .i64 .i64 .u32 S) ∧ Below w.heap.size w w' := by
  subst hn
  obtain ⟨i0, hi, hz0, hz1, hz2⟩ := info_parts info_ev
  go_enter Try.func24, Try.ntmps24
  go_wp2_with (at_make; refine wpList_make_full _ rfl _ _ 36 rfl w.heap.size 43 i0 (.agg #[.int .i64 0, .int .i64 0, .int .u32 0]) 3 Try.underlying36 hi hz0 hz1 .i64 .i64 _ _ S.length rfl rfl rfl rfl (by rw [hz2]; omega) (by unfold maxLen; omega) (Nat.le_refl _) ?_; intro w1 hown hgrow)
  have hstart : w1.ownsRow w.heap.size 43 3 (.slice (some ⟨w.heap.size, 0, none⟩) S.length S.length) S.length (flat3 .i64 .i64 .u32 (part3 S 0)) := by
    rw [part3_zero, flat3_replicate]
    exact hown
  have hbel : Below w.heap.size w w1 := (Below.refl _ _).grown hgrow (Nat.le_refl _) (by simp)
  clear hown hgrow
  go_loopw [4] (fun i wr => ∃ k : Nat, k ≤ S.length ∧ i = .int .i64 k ∧ wr.ownsRow w.heap.size 43 3 (.slice (some ⟨w.heap.size, 0, none⟩) S.length S.length) S.length (flat3 .i64 .i64 .u32 (part3 S k)) ∧ Below w.heap.size w wr)
    (fun i _ => S.length - (intOf i).toNat)
  case atStart => exact ⟨0, Nat.zero_le _, rfl, hstart, hbel⟩
  case round =>
    clear hstart hbel
    obtain ⟨k, hk, rfl, hown, hb⟩ := hrel
    by_cases hlt : k < S.length
    · rcases hS with h | ⟨b, off, rfl, hc⟩
      · simp [h] at hlt
      · obtain ⟨q0, q1, q2⟩ := hc k hlt
        obtain ⟨⟨c, d, f⟩, hnn⟩ : ∃ e, S[k] = e := ⟨_, rfl⟩
        rw [hnn] at q0 q1 q2
        have HNN : Hid (S[k] = (c, d, f)) := hnn
        have r0 := (hb.cell (World.block_lt_of_cell? w _ q0)).trans q0
        have r1 := (hb.cell (World.block_lt_of_cell? w _ q1)).trans q1
        have r2 := (hb.cell (World.block_lt_of_cell? w _ q2)).trans q2
        have hsz := hb.size
        clear hc q0 q1 q2 hnn
        go_wp2_with (go_at_call 44; refine (toSubEvent_any _ _ _ _).mono ?_; rintro e w2 ⟨rfl, hb2⟩; have ho2 := owned_kept hown hb2; obtain ⟨p1, p2, p3, ⟨u1, p4⟩, ⟨u2, p5⟩, ⟨u3, p6⟩⟩ := place3 ho2 hlt)
        have hl2 := part3_length S hk
        rw [← hl2] at ho2
        have hn2 := stored3 ho2 k (by omega) c d f
        rw [← HNN.out, part3_succ S k hlt, hl2] at hn2
        have hb3 := below3 (hb.trans (hb2.mono hb.size)) w.heap.size k (Nat.le_refl _) (.int .i64 c) (.int .i64 d) (.int .u32 f)
        clear ho2 hown hb hb2
        go_wp2
        go_roundw
        case rel => exact ⟨k + 1, by omega, by go_num, hn2, hb3⟩
        case measure => simp [intOf]; omega
    · go_wp2
      go_ret
      have : k = S.length := by omega
      subst this
      rw [part3_all] at hown
      exact ⟨rfl, hown, hb⟩

theorem toSubConfig_is (is wi rt mr da pe : Int) (w : World) : Calls Try.prog 23 #[.agg #[.int .u32 is, .int .i64 wi, .int .i64 rt, .int .i64 mr, .int .i64 da, .int .i64 pe]] w fun e w' => e = .returned (.agg #[.int .u32 is, .int .i64 wi, .int .i64 rt, .int .i64 mr, .int .i64 da, .int .i64 pe]) ∧ Below w.heap.size w w' := by
  have hbW := fun o o1 o2 : Obj => (((Below.refl w.heap.size w).alloc (Nat.le_refl _) o).alloc (by simp) o1).alloc (by simp; omega) o2
  go_enter Try.func23, Try.ntmps23
  go_wp2
  exact bodyPost_ret (v := .agg #[.int .u32 is, .int .i64 wi, .int .i64 rt, .int .i64 mr, .int .i64 da, .int .i64 pe]) (by simp [results, Try.results23, go_sem]) rfl ⟨rfl, hbW _ _ _⟩

theorem eqSubFrame_same (c d f : Int) (w : World) : Calls Try.prog 69 #[.agg #[.int .i64 c, .int .u32 d, .int .i64 f], .agg #[.int .i64 c, .int .u32 d, .int .i64 f]] w fun e w' => e = .returned (.bool true) ∧ Below w.heap.size w w' := by
  go_enter Try.func69, Try.ntmps69
  go_wp2
  go_ret
  exact ⟨rfl, ((Below.refl _ _).alloc (Nat.le_refl _) _).alloc (by simp) _⟩
set_option maxHeartbeats 1000000 in
theorem eqSubFrameS_same (a a' : Option Addr) (S : Triples) (n cap cap' : Nat) (w : World) (hn : S.length = n) (hS : Lie3 .i64 .u32 .i64 w a S) (hS' : Lie3 .i64 .u32 .i64 w a' S) (hl : n ≤ 1048576) :
    Calls Try.prog 64 #[.slice a n cap, .slice a' n cap'] w fun e w' => e = .returned (.bool true) ∧ Below w.heap.size w w' := by
  go_enter Try.func64, Try.ntmps64
  go_wp2
  go_loopw [5] (fun i wr => ∃ k : Nat, k ≤ n ∧ i = .int .i64 k ∧ Below w.heap.size w wr) (fun i _ => n - (intOf i).toNat)
  case atStart => exact ⟨0, Nat.zero_le _, rfl, Below.refl _ _⟩
  case round =>
    obtain ⟨k, hk, rfl, hb⟩ := hrel
    by_cases hlt : k < n
    · rcases hS with h | ⟨b, off, rfl, hc⟩
      · simp [h] at hn; omega
      rcases hS' with h | ⟨b', off', rfl, hc'⟩
      · simp [h] at hn; omega
      obtain ⟨q1, q2, q3⟩ := hc k (by omega)
      obtain ⟨t1, t2, t3⟩ := hc' k (by omega)
      obtain ⟨c, hcn⟩ : ∃ c, (S[k]'(by omega)).1 = c := ⟨_, rfl⟩
      obtain ⟨d, hdn⟩ : ∃ d, (S[k]'(by omega)).2.1 = d := ⟨_, rfl⟩
      obtain ⟨f, hfn⟩ : ∃ f, (S[k]'(by omega)).2.2 = f := ⟨_, rfl⟩
      rw [hcn] at q1 t1
      rw [hdn] at q2 t2
      rw [hfn] at q3 t3
      have r1 := (hb.cell (World.block_lt_of_cell? w _ q1)).trans q1
      have r2 := (hb.cell (World.block_lt_of_cell? w _ q2)).trans q2
      have r3 := (hb.cell (World.block_lt_of_cell? w _ q3)).trans q3
      have v1 := (hb.cell (World.block_lt_of_cell? w _ t1)).trans t1
      have v2 := (hb.cell (World.block_lt_of_cell? w _ t2)).trans t2
      have v3 := (hb.cell (World.block_lt_of_cell? w _ t3)).trans t3
      clear hc hc' q1 q2 q3 t1 t2 t3 hcn hdn hfn
      go_wp2
      go_region_with (go_at_call 69; refine (eqSubFrame_same _ _ _ _).mono ?_; rintro e w2 ⟨rfl, hb2⟩)
      all_goals
        have hb3 := hb.drew.trans (hb2.mono hb.size)
        clear hb hb2
        go_wp2
        go_roundw
        case rel => exact ⟨k + 1, by omega, by go_num, by first | exact hb3 | exact hb3.drew⟩
        case measure => simp [intOf]; omega
    · go_wp2
      go_ret
      exact ⟨rfl, hb⟩

set_option maxHeartbeats 1000000 in
theorem markSubFrameS_from (v : Value) (S : Triples) (s : Int) (n : Nat) (w : World) (base : Nat) (hn : S.length = n) (ho : w.ownsRow base 49 3 v n (flat3 .i64 .u32 .i64 S)) (hl : n ≤ 1048576) (s0 : 0 ≤ s) (s1 : s ≤ 1000000000) :
    Calls Try.prog 50 #[v, .int .i64 s] w fun e w' => e = .returned (.int .i64 (s + 3 * (n : Int))) ∧ w'.ownsRow base 49 3 v n (flat3 .i64 .u32 .i64 (marked3 s n)) ∧ w.grownBy w' v.ownBlock := by
  subst hn
  rcases ho.2 with ⟨rfl, h0⟩ | ⟨g, cap, cur, rfl, _⟩
  · go_enter Try.func50, Try.ntmps50
    go_wp2
    refine wp_loop_rounds 1 ?_
    rw [rounds_succ]
    go_wp2
    go_ret
    have hn : S = [] := List.eq_nil_of_length_eq_zero h0
    subst hn
    exact ⟨ret_int (by simp), ho, World.grownBy.refl _ _⟩
  · go_enter Try.func50, Try.ntmps50
    go_wp2
    go_loopw [1, 5] (fun m i wr => ∃ k : Nat, k ≤ S.length ∧ i = .int .i64 k ∧ m = .int .i64 (s + 3 * (k : Int)) ∧ wr.ownsRow base 49 3 (.slice (some ⟨g, 0, none⟩) S.length cap) S.length (flat3 .i64 .u32 .i64 (partM3 s S k)) ∧ w.grownBy wr (some g))
      (fun _ i _ => S.length - (intOf i).toNat)
    case atStart => exact ⟨0, Nat.zero_le _, rfl, by simp, by rw [partM3_zero]; exact ho, World.grownBy.refl _ _⟩
    case round =>
      obtain ⟨k, hk, rfl, rfl, hown, hg⟩ := hrel
      by_cases hlt : k < S.length
      · obtain ⟨p1, p2, p3, ⟨u1, p4⟩, ⟨u2, p5⟩, ⟨u3, p6⟩⟩ := place3 hown hlt
        have hl2 := partM3_length s S hk
        have ho2 := hown
        rw [← hl2] at ho2
        have hn2 := stored3 ho2 k (by omega) (s + 3 * (k : Int)) (s + 3 * (k : Int) + 1) (s + 3 * (k : Int) + 2)
        rw [partM3_succ s S hlt, hl2] at hn2
        have hg2 := grown_trans hg (grown_trans (grown_trans (grown_set wr g (k * 3) (.int .i64 (s + 3 * (k : Int)))) (grown_set _ g (k * 3 + 1) (.int .u32 (s + 3 * (k : Int) + 1)))) (grown_set _ g (k * 3 + 2) (.int .i64 (s + 3 * (k : Int) + 2))))
        clear ho2 hown hg ho
        go_wp2
        go_roundw
        case rel => exact ⟨k + 1, by omega, by go_num, by go_num, by first | exact hn2 | (simp only [Int.add_assoc] at hn2 ⊢; exact hn2), by first | exact hg2 | (simp only [Int.add_assoc] at hg2 ⊢; exact hg2)⟩
        case measure => simp [intOf]; omega
      · go_wp2
        go_ret
        have : k = S.length := by omega
        subst this
        rw [partM3_all] at hown
        exact ⟨rfl, hown, hg⟩

set_option maxHeartbeats 1000000 in
theorem heldSubFrameS_from (a : Option Addr) (s : Int) (n cap : Nat) (w : World) (hS : Lie3 .i64 .u32 .i64 w a (marked3 s n)) (hl : n ≤ 1048576) (s0 : 0 ≤ s) (s1 : s ≤ 1000000000) :
    Calls Try.prog 51 #[.slice a n cap, .int .i64 s] w fun e w' => e = .returned (.int .i64 (s + 3 * (n : Int))) ∧ w' = w := by
  go_enter Try.func51, Try.ntmps51
  go_wp2
  go_loop [1, 5] (fun m i => ∃ k : Nat, k ≤ n ∧ i = .int .i64 k ∧ m = .int .i64 (s + 3 * (k : Int))) (fun _ i => n - (intOf i).toNat)
  case atStart => exact ⟨0, Nat.zero_le _, rfl, by simp⟩
  case round =>
    obtain ⟨k, hk, rfl, rfl⟩ := hrel
    by_cases hlt : k < n
    · rcases hS with h | ⟨b, off, rfl, hc⟩
      · have := marked3_length s n; rw [h] at this; simp at this; omega
      · obtain ⟨q1, q2, q3⟩ := hc k (by rw [marked3_length]; exact hlt)
        rw [marked3_at] at q1 q2 q3
        clear hc
        go_wp2
        go_round
        case rel => exact ⟨k + 1, by omega, by go_num, by go_num⟩
        case measure => simp [intOf]; omega
    · go_wp2
      go_ret
      have : k = n := by omega
      subst this
      exact ⟨rfl, rfl⟩

theorem eqInt64S_same (a a' : Option Addr) (zs : List Int) (n cap cap' : Nat) (w : World) (hn : zs.length = n) (hz : Ints .i64 w a zs) (hz' : Ints .i64 w a' zs) (hl : n ≤ 1048576) :
    Calls Try.prog 45 #[.slice a n cap, .slice a' n cap'] w fun e w' => e = .returned (.bool true) ∧ Below w.heap.size w w' := by
  subst hn
  go_enter Try.func45, Try.ntmps45
  go_wp2
  go_loopw [5] (fun i wr => ∃ k : Nat, k ≤ zs.length ∧ i = .int .i64 k ∧ Below w.heap.size w wr) (fun i _ => zs.length - (intOf i).toNat)
  case atStart => exact ⟨0, Nat.zero_le _, rfl, Below.refl _ _⟩
  case round =>
    obtain ⟨k, hk, rfl, hb⟩ := hrel
    by_cases hlt : k < zs.length
    · rcases hz with h | ⟨b, off, rfl, hc⟩
      · simp [h] at hlt
      rcases hz' with h | ⟨b', off', rfl, hc'⟩
      · simp [h] at hlt
      obtain ⟨c, hn⟩ : ∃ c : Int, Hid (zs.getD k 0 = c) := ⟨_, rfl⟩
      have hcell : wr.cell? ⟨b, off + k, none⟩ = some (.int .i64 c) := by rw [hb.cell (World.block_lt_of_cell? w _ (hc k hlt)), hc k hlt, hn.out]
      have hcell' : wr.cell? ⟨b', off' + k, none⟩ = some (.int .i64 c) := by rw [hb.cell (World.block_lt_of_cell? w _ (hc' k hlt)), hc' k hlt, hn.out]
      clear hc hc'
      go_wp2
      go_region
      all_goals
        go_wp2
        go_roundw
        case rel => exact ⟨k + 1, by omega, by go_num, hb.drew⟩
        case measure => simp [intOf]; omega
    · go_wp2
      go_ret
      exact ⟨rfl, hb⟩

/-- What marking leaves: s, s + 1, .. . -/
def markedW (s : Int) (n : Nat) : List Int := (List.range n).map fun (i : Nat) => (s + i)
theorem markedW_length (s : Int) (n : Nat) : (markedW s n).length = n := by simp [markedW]
theorem markedW_at {s : Int} {n i : Nat} (h : i < n) : (markedW s n).getD i 0 = (s + i) := by simp [markedW, h]
def partW (s : Int) (zs : List Int) (k : Nat) : List Int := markedW s k ++ zs.drop k
theorem partW_zero (s : Int) (zs : List Int) : partW s zs 0 = zs := by simp [partW, markedW]
theorem partW_all (s : Int) (zs : List Int) : partW s zs zs.length = markedW s zs.length := by simp [partW]
theorem partW_length (s : Int) (zs : List Int) {k : Nat} (h : k ≤ zs.length) : (partW s zs k).length = zs.length := by simp [partW, markedW_length]; omega
theorem partW_succ (s : Int) (zs : List Int) {k : Nat} (h : k < zs.length) : (partW s zs k).set k ((s + k)) = partW s zs (k + 1) := by
  unfold partW
  rw [List.set_append, markedW_length, if_neg (by omega), Nat.sub_self, List.drop_eq_getElem_cons h, List.set_cons_zero]
  have e : markedW s (k + 1) = markedW s k ++ [(s + k)] := by simp [markedW, List.range_succ]
  rw [e, List.append_assoc]
  rfl
theorem markInt64S_from (v : Value) (zs : List Int) (s : Int) (w : World) (base n : Nat) (hz : zs.length = n) (ho : w.ownsRow base 2 1 v n (zs.map (.int .i64))) (hl : n ≤ 1048576) (s0 : 0 ≤ s) (s1 : s ≤ 1000000000) :
    Calls Try.prog 47 #[v, .int .i64 s] w fun e w' => e = .returned (.int .i64 (s + (n : Int))) ∧ w'.ownsRow base 2 1 v n ((markedW s n).map (.int .i64)) ∧ w.grownBy w' v.ownBlock := by
  rcases ho.2 with ⟨rfl, h0⟩ | ⟨g, cap, cur, rfl, _⟩
  · go_enter Try.func47, Try.ntmps47
    go_wp2
    refine wp_loop_rounds 1 ?_
    rw [rounds_succ]
    go_wp2
    go_ret
    subst h0
    have hn : zs = [] := List.eq_nil_of_length_eq_zero hz
    subst hn
    exact ⟨ret_int (by simp), ho, World.grownBy.refl _ _⟩
  · go_enter Try.func47, Try.ntmps47
    go_wp2
    go_loopw [1, 5] (fun m i wr => ∃ k : Nat, k ≤ n ∧ i = .int .i64 k ∧ m = .int .i64 (s + (k : Int)) ∧ wr.ownsRow base 2 1 (.slice (some ⟨g, 0, none⟩) n cap) n ((partW s zs k).map (.int .i64)) ∧ w.grownBy wr (some g))
      (fun _ i _ => n - (intOf i).toNat)
    case atStart => exact ⟨0, Nat.zero_le _, rfl, by simp, by rw [partW_zero]; exact ho, World.grownBy.refl _ _⟩
    case round =>
      obtain ⟨k, hk, rfl, rfl, hown, hg⟩ := hrel
      by_cases hlt : k < n
      · have hfz := hown.frozenAt k
        have hold : wr.cell? ⟨g, k, none⟩ = some (.int .i64 ((partW s zs k).getD k 0)) := by
          rw [hown.cellAt k (by omega)]
          have : k < (partW s zs k).length := by rw [partW_length s zs (by omega)]; omega
          simp [this]
        have hst := hown.stored k (.int .i64 ((s + k)))
        have hnext : (wr.setCell ⟨g, k, none⟩ (.int .i64 ((s + k)))).ownsRow base 2 1 (.slice (some ⟨g, 0, none⟩) n cap) n ((partW s zs (k + 1)).map (.int .i64)) := by
          rw [← partW_succ s zs (by omega), List.map_set]
          exact hst.1
        have hg2 := grown_trans hg (grown_set wr g k (.int .i64 ((s + k))))
        obtain ⟨u, hu⟩ : ∃ u, Hid ((partW s zs k).getD k 0 = u) := ⟨_, rfl⟩
        rw [hu.out] at hold
        clear hst hown hg ho
        go_wp2
        go_roundw
        case rel => exact ⟨k + 1, by omega, by go_num, by go_num, by simpa [hlt] using hnext, by simpa [hlt] using hg2⟩
        case measure => simp [intOf]; omega
      · go_wp2
        go_ret
        have : k = n := by omega
        subst this
        rw [← hz, partW_all] at hown
        rw [hz] at hown
        exact ⟨rfl, hown, hg⟩

theorem heldInt64S_from (a : Option Addr) (s : Int) (n cap : Nat) (w : World) (hz : Ints .i64 w a (markedW s n)) (hl : n ≤ 1048576) (s0 : 0 ≤ s) (s1 : s ≤ 1000000000) :
    Calls Try.prog 48 #[.slice a n cap, .int .i64 s] w fun e w' => e = .returned (.int .i64 (s + (n : Int))) ∧ w' = w := by
  go_enter Try.func48, Try.ntmps48
  go_wp2
  go_loop [1, 5] (fun m i => ∃ k : Nat, k ≤ n ∧ i = .int .i64 k ∧ m = .int .i64 (s + (k : Int))) (fun _ i => n - (intOf i).toNat)
  case atStart => exact ⟨0, Nat.zero_le _, rfl, by simp⟩
  case round =>
    obtain ⟨k, hk, rfl, rfl⟩ := hrel
    by_cases hlt : k < n
    · rcases hz with h | ⟨b, off, rfl, hc⟩
      · have := markedW_length s n; rw [h] at this; simp at this; omega
      · have q := hc k (by rw [markedW_length]; exact hlt)
        rw [markedW_at hlt] at q
        clear hc
        go_wp2
        go_round
        case rel => exact ⟨k + 1, by omega, by go_num, by go_num⟩
        case measure => simp [intOf]; omega
    · go_wp2
      go_ret
      have : k = n := by omega
      subst this
      exact ⟨rfl, rfl⟩
end Go.Proofs.Ytincfdhfoaimbaa
