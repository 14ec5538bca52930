import Derived.Test.YtgjcdejiolenkaaSpanSet
namespace Go.Proofs.Ytgjcdejiolenkaa
open Go.ChangeShapes Go.WideShapes Go.ChangeAt Go.RowKit
set_option linter.unusedVariables false

def Words (l : List Int) : Prop := ∀ x ∈ l, 0 ≤ x ∧ x ≤ 18446744073709551615

theorem ends_take {S : Sp} {k : Nat} (hk : k < S.length) {c d : Int} (hn : S[k] = (c, d)) : ends (S.take (k + 1)) = ends (S.take k) ++ [c] ++ [d] := by
  rw [List.take_succ_eq_append_getElem hk, hn]
  simp [ends]
theorem ends_length (S : Sp) : (ends S).length = S.length * 2 := by
  induction S with
  | nil => rfl
  | cons p r ih => simp [ends] at ih ⊢; omega
theorem words_ends {S : Sp} (hf : Fits S) : Words (ends S) := by
  intro x hx
  obtain ⟨p, hp, rfl | rfl⟩ := mem_ends.1 hx
  · exact ⟨(hf p hp).1, (hf p hp).2.1⟩
  · exact ⟨(hf p hp).2.2.1, (hf p hp).2.2.2⟩

/-- One word of a row under a name of its own. -/
theorem wordAt {w : World} {zs : List Int} {b off k : Nat} (hv : Words zs) (hc : ∀ i, i < zs.length → w.cell? ⟨b, off + i, none⟩ = some (.int .u64 (zs.getD i 0))) (h : k < zs.length) :
    ∃ c : Int, Hid (zs[k] = c) ∧ 0 ≤ c ∧ c ≤ 18446744073709551615 ∧ w.cell? ⟨b, off + k, none⟩ = some (.int .u64 c) := by
  have e : zs.getD k 0 = zs[k] := by simp [h]
  exact ⟨zs[k], rfl, (hv _ (List.getElem_mem h)).1, (hv _ (List.getElem_mem h)).2, by rw [hc k h, e]⟩

/-- What the inner loop has made behind k of the points: still looking, or x is in. -/
def Mid (x : Int) (out : List Int) (k : Nat) (done : Bool) (next : List Int) : Prop :=
  (done = false ∧ (∀ y ∈ out.take k, y < x) ∧ next = out.take k) ∨ (done = true ∧ (∃ y ∈ out.take k, x ≤ y) ∧ next = ins x (out.take k))

theorem mid_start (x : Int) (out : List Int) : Mid x out 0 false [] := .inl ⟨rfl, by simp, by simp⟩
theorem mid_below {x y : Int} {out next : List Int} {k : Nat} (h : Mid x out k false next) (hk : k < out.length) (hy : out[k] = y) (hlt : y < x) : Mid x out (k + 1) false (next ++ [y]) := by
  rcases h with ⟨_, h1, h2⟩ | ⟨h0, _⟩
  · refine .inl ⟨rfl, ?_, by rw [List.take_succ_eq_append_getElem hk, h2, hy]⟩
    intro z hz
    rw [List.take_succ_eq_append_getElem hk] at hz
    rcases List.mem_append.1 hz with hz | hz
    · exact h1 z hz
    · simp at hz; omega
  · cases h0
theorem mid_same {x y : Int} {out next : List Int} {k : Nat} (h : Mid x out k false next) (hk : k < out.length) (hy : out[k] = y) (he : x = y) : Mid x out (k + 1) true (next ++ [y]) := by
  rcases h with ⟨_, h1, h2⟩ | ⟨h0, _⟩
  · refine .inr ⟨rfl, ⟨y, by rw [List.take_succ_eq_append_getElem hk, hy]; simp, by omega⟩, ?_⟩
    rw [List.take_succ_eq_append_getElem hk, hy, ins_at h1 (by omega), if_pos he, h2]
  · cases h0
theorem mid_here {x y : Int} {out next : List Int} {k : Nat} (h : Mid x out k false next) (hk : k < out.length) (hy : out[k] = y) (hlt : x < y) : Mid x out (k + 1) true (next ++ [x] ++ [y]) := by
  rcases h with ⟨_, h1, h2⟩ | ⟨h0, _⟩
  · refine .inr ⟨rfl, ⟨y, by rw [List.take_succ_eq_append_getElem hk, hy]; simp, by omega⟩, ?_⟩
    rw [List.take_succ_eq_append_getElem hk, hy, ins_at h1 (by omega), if_neg (by omega), h2]
    simp
  · cases h0
theorem mid_past {x y : Int} {out next : List Int} {k : Nat} (h : Mid x out k true next) (hk : k < out.length) (hy : out[k] = y) : Mid x out (k + 1) true (next ++ [y]) := by
  rcases h with ⟨h0, _⟩ | ⟨_, h1, h2⟩
  · cases h0
  · refine .inr ⟨rfl, ?_, ?_⟩
    · obtain ⟨z, hz, hx⟩ := h1
      exact ⟨z, by rw [List.take_succ_eq_append_getElem hk]; exact List.mem_append.2 (.inl hz), hx⟩
    · rw [List.take_succ_eq_append_getElem hk, hy, ins_past h1, h2]
theorem mid_end_no {x : Int} {out next : List Int} {k : Nat} (h : Mid x out k false next) (hk : ¬ k < out.length) : next ++ [x] = ins x out := by
  rcases h with ⟨_, h1, h2⟩ | ⟨h0, _⟩
  · rw [List.take_of_length_le (by omega)] at h1 h2
    rw [ins_behind h1, h2]
  · cases h0
theorem mid_end_yes {x : Int} {out next : List Int} {k : Nat} (h : Mid x out k true next) (hk : ¬ k < out.length) : next = ins x out := by
  rcases h with ⟨h0, _⟩ | ⟨_, h1, h2⟩
  · cases h0
  · rw [List.take_of_length_le (by omega)] at h2
    exact h2
theorem mid_length {x : Int} {out next : List Int} {k : Nat} {d : Bool} (h : Mid x out k d next) : next.length ≤ out.length + 1 := by
  have h3 : (out.take k).length ≤ out.length := by simp; omega
  rcases h with ⟨_, _, h2⟩ | ⟨_, _, h2⟩
  · rw [h2]; omega
  · rw [h2]; have := length_ins x (out.take k); omega

def allOf (p q : Int) (S : Sp) : List Int := p :: q :: ends S
theorem allOf_length (p q : Int) (S : Sp) : (allOf p q S).length = 2 + S.length * 2 := by simp [allOf, ends_length]; omega
theorem allOf_take {S : Sp} {k : Nat} (hk : k < S.length) {c d : Int} (hn : S[k] = (c, d)) (p q : Int) : allOf p q (S.take k) ++ [c] ++ [d] = allOf p q (S.take (k + 1)) := by
  unfold allOf
  rw [ends_take hk hn]
  simp
theorem pointsOf_take {A : List Int} {m : Nat} (hm : m < A.length) {x : Int} (hx : A[m] = x) : pointsOf (A.take (m + 1)) = ins x (pointsOf (A.take m)) := by
  rw [List.take_succ_eq_append_getElem hm, hx, pointsOf_snoc]
theorem words_points {A : List Int} (h : Words A) (m : Nat) : Words (pointsOf (A.take m)) := by
  intro x hx
  exact h x (List.mem_of_mem_take (mem_pointsOf.1 hx))

/-- The first loop: all ends in a row. -/
def Gathered (w : World) (S : Sp) (p q : Int) (k : Nat) (v : Value) (wr : World) : Prop :=
  ∃ av cp, v = .slice av (allOf p q (S.take k)).length cp ∧ wr.ownsRow w.heap.size 23 1 (.slice av (allOf p q (S.take k)).length cp) (allOf p q (S.take k)).length ((allOf p q (S.take k)).map (.int .u64)) ∧ Below w.heap.size w wr

set_option maxHeartbeats 4000000 in
theorem specPoints (a : Option Addr) (S : Sp) (cap : Nat) (p q : Int) (w : World) (hS : Spans w a S) (hf : Fits S) (hl : S.length ≤ 1048576) (p0 : 0 ≤ p) (p1 : p ≤ 18446744073709551615) (q0 : 0 ≤ q) (q1 : q ≤ 18446744073709551615) :
    Calls Try.prog 39 #[.slice a S.length cap, .agg #[.int .u64 p, .int .u64 q]] w fun e w' => ∃ av cap', e = .returned (.slice av (pts S (p, q)).length cap') ∧
      w'.ownsRow w.heap.size 23 1 (.slice av (pts S (p, q)).length cap') (pts S (p, q)).length ((pts S (p, q)).map (.int .u64)) ∧ Below w.heap.size w w' := by
  go_enter Try.func39, Try.ntmps39
  go_wp2
  go_loopw [5, 6] (fun v i wr => ∃ k : Nat, k ≤ S.length ∧ i = .int .i64 k ∧ Gathered w S p q k v wr) (fun _ i _ => S.length - (intOf i).toNat)
  case atStart =>
    refine ⟨0, Nat.zero_le _, rfl, some ⟨w.heap.size + 1, 0, none⟩, 2, rfl, ?_, ((Below.refl _ _).alloc (Nat.le_refl _) _).alloc (by simp) _⟩
    have h := World.ownsRow_lit (base := w.heap.size) (e := 23) (size := 1) (w.alloc (.cells #[.int .u64 p, .int .u64 q] 31)) #[.int .u64 p, .int .u64 q] 2 (by simp) (by unfold maxLen; omega) rfl
    simpa [allOf, ends] using h
  case round =>
    obtain ⟨k, hk, rfl, av, cp, rfl, hown, hb⟩ := hrel
    have hlen : (allOf p q (S.take k)).length ≤ 2097154 := by rw [allOf_length]; simp; omega
    by_cases hlt : k < S.length
    · rcases hS with h | ⟨b, off, rfl, hc⟩
      · simp [h] at hlt
      obtain ⟨c, d, hn, c0, c1, d0, d1, r1, r2⟩ := Spans.at hf hc hlt
      have hbl := World.block_lt_of_cell? w _ r1
      have t1 : wr.cell? ⟨b, off + k * 2, none⟩ = some (.int .u64 c) := by rw [hb.cell hbl]; exact r1
      have hsz := hb.size
      clear hc
      go_wp2_with (first
        | (at_builtin; refine wpList_app1 _ rfl (.tmp 23) (.tmp 29) 55 23 rfl .u64 8 Try.underlying55 info_u64 (by decide) w.heap.size _ _ _ _ c rfl (hown.alloc _) _ rfl (cell_alloc1 _ _ _ _ rfl) (by omega) (by simp; omega) ?_; intro g1 cp1 w1 ho1 hg1; have hb1 := below_grown (hb.alloc hsz _) (hown.alloc _) hg1 (Nat.le_refl _) (by simp; omega); have t2 : w1.cell? ⟨b, off + k * 2 + 1, none⟩ = some (.int .u64 d) := by { rw [hb1.cell (World.block_lt_of_cell? w _ r2)]; exact r2 })
        | (at_builtin; refine wpList_app1 _ rfl (.tmp 31) (.tmp 37) 55 23 rfl .u64 8 Try.underlying55 info_u64 (by decide) w.heap.size _ _ _ _ d rfl (ho1.alloc _) _ rfl (cell_alloc1 _ _ _ _ rfl) (by omega) (by simp; have := hb1.size; omega) ?_; intro g2 cp2 w2 ho2 hg2; have hb2 := below_grown (hb1.alloc hb1.size _) (ho1.alloc _) hg2 (Nat.le_refl _) (by simp; have := hb1.size; omega)))
      have hfin : Gathered w S p q (k + 1) (.slice (some ⟨g2, 0, none⟩) ((allOf p q (S.take k)).length + 1 + 1) cp2) w2 := by
        refine ⟨some ⟨g2, 0, none⟩, cp2, ?_, ?_, hb2⟩
        · rw [← allOf_take hlt hn.out]; simp
        · rw [← allOf_take hlt hn.out]
          simpa using ho2
      clear ho2 ho1 hown hb hb1 hb2 hg1 hg2 hn
      go_wp2
      go_roundw
      case rel => exact ⟨k + 1, by omega, by go_num, hfin⟩
      case measure => simp [intOf]; omega
    · have hkS : k = S.length := by omega
      subst hkS
      rw [List.take_length] at hown hlen
      rw [List.take_length]
      obtain ⟨A, hA⟩ : ∃ A, A = allOf p q S := ⟨_, rfl⟩
      rw [← hA] at hown hlen
      rw [← hA]
      have hpts : Hid (pts S (p, q) = pointsOf A) := by unfold Hid; rw [hA]; rfl
      have hwA : Words A := by
        intro x hx
        rw [hA] at hx
        simp only [allOf, List.mem_cons] at hx
        rcases hx with rfl | rfl | hx
        · exact ⟨p0, p1⟩
        · exact ⟨q0, q1⟩
        · exact words_ends hf x hx
      have hAlen : A.length ≤ 2097154 := by omega
      rcases Ints.ofRow hown with h | ⟨ba, oa, rfl, hca⟩
      · rw [h] at hA; simp [allOf] at hA
      clear hlen hlt hk hA
      obtain ⟨wa, hwa⟩ : ∃ x, x = wr := ⟨_, rfl⟩
      subst hwa
      have hsz0 := hb.size
      clear hown
      have hstart : (wa.alloc (.cells #[] 23)).ownsRow wa.heap.size 23 1 (.slice (some ⟨wa.heap.size, 0, none⟩) 0 0) 0 [] := World.ownsRow_made wa #[] 0 (Nat.le_refl _) (by unfold maxLen; omega) rfl
      go_wp2
      go_loopw [7, 8] (fun v i w2 => ∃ (m : Nat) (av : Option Addr) (cp : Nat), m ≤ A.length ∧ i = .int .i64 m ∧ v = .slice av (pointsOf (A.take m)).length cp ∧
          w2.ownsRow wa.heap.size 23 1 (.slice av (pointsOf (A.take m)).length cp) (pointsOf (A.take m)).length ((pointsOf (A.take m)).map (.int .u64)) ∧ Below wa.heap.size wa w2) (fun _ i _ => A.length - (intOf i).toNat)
      case atStart => exact ⟨0, _, _, Nat.zero_le _, rfl, rfl, hstart, (Below.refl _ _).alloc (Nat.le_refl _) _⟩
      case round =>
        clear hstart
        obtain ⟨m, av, cp2, hm, rfl, rfl, hownP, hb2⟩ := hrel
        have hplen : (pointsOf (A.take m)).length ≤ 2097154 := by have := length_pointsOf (A.take m); simp at this; omega
        by_cases hlt : m < A.length
        · obtain ⟨x, hx, x0, x1, hxc⟩ := wordAt hwA hca hlt
          have hwP := words_points hwA m
          obtain ⟨P, hP⟩ : ∃ P, P = pointsOf (A.take m) := ⟨_, rfl⟩
          have hnext : Hid (pointsOf (A.take (m + 1)) = ins x P) := by unfold Hid; rw [pointsOf_take hlt hx.out, hP]
          rw [← hP] at hownP hplen hwP
          rw [← hP]
          clear hP hx hca
          have hxc2 : wr.cell? ⟨ba, oa + m, none⟩ = some (.int .u64 x) := by rw [hb2.cell (World.block_lt_of_cell? wa _ hxc)]; exact hxc
          have hstart3 : (wr.alloc (.cells #[] 23)).ownsRow wr.heap.size 23 1 (.slice (some ⟨wr.heap.size, 0, none⟩) 0 0) 0 (([] : List Int).map (.int .u64)) := World.ownsRow_made wr #[] 0 (Nat.le_refl _) (by unfold maxLen; omega) rfl
          have hsz2 := hb2.size
          obtain ⟨wb, hwb⟩ : ∃ x, x = wr := ⟨_, rfl⟩
          subst hwb
          go_wp2
          go_loopw [9, 10, 11] (fun v t j w3 => ∃ (k : Nat) (dn : Bool) (nx : List Int) (an : Option Addr) (cn : Nat), k ≤ P.length ∧ j = .int .i64 k ∧ t = .bool dn ∧ Hid (Mid x P k dn nx) ∧ v = .slice an nx.length cn ∧
              w3.ownsRow wb.heap.size 23 1 (.slice an nx.length cn) nx.length (nx.map (.int .u64)) ∧ Below wb.heap.size wb w3) (fun _ _ j _ => P.length - (intOf j).toNat)
          case atStart => exact ⟨0, false, [], _, _, Nat.zero_le _, rfl, rfl, mid_start x P, rfl, hstart3, (Below.refl _ _).alloc (Nat.le_refl _) _⟩
          case round =>
            clear hstart3
            obtain ⟨k, dn, nx, an, cn, hk, rfl, rfl, hmid, rfl, hownN, hb3⟩ := hrel
            have hnl : nx.length ≤ 2097155 := by have := mid_length hmid.out; omega
            have hsz3 := hb3.size
            have hxc3 : wr.cell? ⟨ba, oa + m, none⟩ = some (.int .u64 x) := by rw [hb3.cell (World.block_lt_of_cell? wb _ hxc2)]; exact hxc2
            by_cases hltk : k < P.length
            · rcases Ints.ofRow hownP with h | ⟨bp, op, rfl, hcp⟩
              · simp [h] at hltk
              obtain ⟨y, hy, y0, y1, hyc⟩ := wordAt hwP hcp hltk
              have hyc3 : wr.cell? ⟨bp, op + k, none⟩ = some (.int .u64 y) := by rw [hb3.cell (World.block_lt_of_cell? wb _ hyc)]; exact hyc
              clear hcp
              cases dn with
              | true =>
                have HF : Hid (Mid x P (k + 1) true (nx ++ [y])) := mid_past hmid.out hltk hy.out
                clear hmid hy
                go_wp2
                go_quiet (fail)
                go_wp2_with (at_builtin; refine wpList_app1 _ rfl (.tmp 82) (.tmp 87) 55 23 rfl .u64 8 Try.underlying55 info_u64 (by decide) wb.heap.size _ _ _ _ y rfl ((owned_drewN hownN _).alloc _) _ rfl (cell_alloc1 _ _ _ _ rfl) (by omega) (by simp; omega) ?_; intro g5 c5 w5 ho5 hg5; have hb5 := below_grown ((drewsN hb3 _).alloc hsz3 _) ((owned_drewN hownN _).alloc _) hg5 (Nat.le_refl _) (by simp; omega))
                go_wp2
                go_roundw
                case rel => exact ⟨k + 1, true, nx ++ [y], _, _, by omega, by go_num, rfl, HF, by simp; exact ⟨rfl, rfl⟩, by simpa using ho5, hb5⟩
                case measure => simp [intOf]; omega
              | false =>
                rcases (show y < x ∨ x = y ∨ x < y from by omega) with hxy | hxy | hxy
                · have HF : Hid (Mid x P (k + 1) false (nx ++ [y])) := mid_below hmid.out hltk hy.out hxy
                  have g1 : decide (x ≤ y) = false := by simp; omega
                  clear hmid hy
                  go_wp2
                  go_quiet (fail)
                  go_wp2_with (at_builtin; refine wpList_app1 _ rfl (.tmp 82) (.tmp 87) 55 23 rfl .u64 8 Try.underlying55 info_u64 (by decide) wb.heap.size _ _ _ _ y rfl ((owned_drewN hownN _).alloc _) _ rfl (cell_alloc1 _ _ _ _ rfl) (by omega) (by simp; omega) ?_; intro g5 c5 w5 ho5 hg5; have hb5 := below_grown ((drewsN hb3 _).alloc hsz3 _) ((owned_drewN hownN _).alloc _) hg5 (Nat.le_refl _) (by simp; omega))
                  go_wp2
                  go_roundw
                  case rel => exact ⟨k + 1, false, nx ++ [y], _, _, by omega, by go_num, rfl, HF, by simp; exact ⟨rfl, rfl⟩, by simpa using ho5, hb5⟩
                  case measure => simp [intOf]; omega
                · have HF : Hid (Mid x P (k + 1) true (nx ++ [y])) := mid_same hmid.out hltk hy.out hxy
                  subst hxy
                  have g1 : decide (x ≤ x) = true := by simp
                  clear hmid hy
                  go_wp2
                  go_quiet (fail)
                  go_wp2
                  go_quiet (fail)
                  go_wp2_with (at_builtin; refine wpList_app1 _ rfl (.tmp 82) (.tmp 87) 55 23 rfl .u64 8 Try.underlying55 info_u64 (by decide) wb.heap.size _ _ _ _ x rfl ((owned_drewN hownN _).alloc _) _ rfl (cell_alloc1 _ _ _ _ rfl) (by omega) (by simp; omega) ?_; intro g5 c5 w5 ho5 hg5; have hb5 := below_grown ((drewsN hb3 _).alloc hsz3 _) ((owned_drewN hownN _).alloc _) hg5 (Nat.le_refl _) (by simp; omega); have hz5 := hb5.size)
                  go_wp2
                  go_roundw
                  case rel => exact ⟨k + 1, true, nx ++ [x], _, _, by omega, by go_num, rfl, HF, by simp; exact ⟨rfl, rfl⟩, by simpa using ho5, hb5⟩
                  case measure => simp [intOf]; omega
                · have HF : Hid (Mid x P (k + 1) true (nx ++ [x] ++ [y])) := mid_here hmid.out hltk hy.out hxy
                  have g1 : decide (x ≤ y) = true := by simp; omega
                  have g2 : (x != y) = true := by simp; omega
                  clear hmid hy
                  go_wp2
                  go_quiet (fail)
                  go_wp2
                  go_quiet (fail)
                  go_wp2_with (first | (at_builtin; refine wpList_app1 _ rfl (.tmp 75) (.tmp 80) 55 23 rfl .u64 8 Try.underlying55 info_u64 (by decide) wb.heap.size _ _ _ _ x rfl ((owned_drewN hownN _).alloc _) _ rfl (cell_alloc1 _ _ _ _ rfl) (by omega) (by simp; omega) ?_; intro g4 c4 w4 ho4 hg4; have hb4 := below_grown ((drewsN hb3 _).alloc hsz3 _) ((owned_drewN hownN _).alloc _) hg4 (Nat.le_refl _) (by simp; omega); have hz4 := hb4.size; have hyc4 := (hb4.cell (World.block_lt_of_cell? wb _ hyc)).trans hyc) | (at_builtin; refine wpList_app1 _ rfl (.tmp 82) (.tmp 87) 55 23 rfl .u64 8 Try.underlying55 info_u64 (by decide) wb.heap.size _ _ _ _ y rfl (ho4.alloc _) _ rfl (cell_alloc1 _ _ _ _ rfl) (by omega) (by simp; omega) ?_; intro g5 c5 w5 ho5 hg5; have hb5 := below_grown (hb4.alloc hz4 _) (ho4.alloc _) hg5 (Nat.le_refl _) (by simp; omega); have hz5 := hb5.size))
                  go_wp2
                  go_roundw
                  case rel => exact ⟨k + 1, true, nx ++ [x] ++ [y], _, _, by omega, by go_num, rfl, HF, by simp; exact ⟨rfl, rfl⟩, by simpa using ho5, hb5⟩
                  case measure => simp [intOf]; omega
            · cases dn with
              | true =>
                have HF : Hid (nx = pointsOf (A.take (m + 1))) := by unfold Hid; rw [hnext.out]; exact mid_end_yes hmid.out hltk
                clear hmid hnext
                go_wp2
                go_roundw
                case rel => exact ⟨m + 1, an, cn, by omega, by go_num, by rw [← HF.out], by rw [← HF.out]; exact owned_base hownN hsz2, hb2.trans (hb3.mono hsz2)⟩
                case measure => simp [intOf]; omega
              | false =>
                have HF : Hid (nx ++ [x] = pointsOf (A.take (m + 1))) := by unfold Hid; rw [hnext.out]; exact mid_end_no hmid.out hltk
                clear hmid hnext
                go_wp2_with (at_builtin; refine wpList_app1 _ rfl (.tmp 91) (.tmp 96) 55 23 rfl .u64 8 Try.underlying55 info_u64 (by decide) wb.heap.size _ _ _ _ x rfl (hownN.alloc _) _ rfl (cell_alloc1 _ _ _ _ rfl) (by omega) (by simp; omega) ?_; intro g5 c5 w5 ho5 hg5; have hb5 := below_grown (hb3.alloc hsz3 _) (hownN.alloc _) hg5 (Nat.le_refl _) (by simp; omega); have hz5 := hb5.size)
                go_wp2
                go_roundw
                case rel => exact ⟨m + 1, _, _, by omega, by go_num, by rw [← HF.out]; simp; exact ⟨rfl, rfl⟩, by rw [← HF.out]; exact owned_base (by simpa using ho5) hsz2, hb2.trans (hb5.mono hsz2)⟩
                case measure => simp [intOf]; omega
        · go_wp2
          go_ret
          have hme : m = A.length := by omega
          subst hme
          rw [List.take_length] at hownP
          exact ⟨av, cp2, by rw [hpts.out, List.take_length]; rfl, by rw [hpts.out]; exact owned_base hownP hsz0, hb.trans (hb2.mono hsz0)⟩
end Go.Proofs.Ytgjcdejiolenkaa
