import Derived.Test.YtkamdaadgndmbaaNSp0
namespace Go.Proofs.Ytkamdaadgndmbaa
open Go.ChangeShapes Go.WideShapes Go.ChangeAt Go.RowKit
set_option linter.unusedVariables false

theorem l1Copy_any (a : Option Addr) (zs : List Int) (n cap : Nat) (w : World) (hz : Ints .u8 w a zs) (hn : zs.length = n) (hl : n ≤ 1048576) :
    Calls Try.prog 50 #[.slice a n cap] w fun e w' => ∃ av cp, e = .returned (.slice av n cp) ∧ w'.ownsRow w.heap.size 5 1 (.slice av n cp) n (zs.map (.int .u8)) ∧ Below w.heap.size w w' := by
  have hmade : (w.alloc (.cells #[] 5)).ownsRow w.heap.size 5 1 (.slice (some ⟨w.heap.size, 0, none⟩) 0 0) 0 (([] : List Int).map (.int .u8)) := World.ownsRow_made w #[] 0 (Nat.le_refl _) (by unfold maxLen; omega) rfl
  go_enter Try.func50, Try.ntmps50
  go_wp2
  go_loopw [3, 4] (fun v i wr => ∃ (k : Nat) (av : Option Addr) (cp : Nat), k ≤ n ∧ i = .int .i64 k ∧ v = .slice av k cp ∧ wr.ownsRow w.heap.size 5 1 (.slice av k cp) k ((zs.take k).map (.int .u8)) ∧ Below w.heap.size w wr) (fun _ i _ => n - (intOf i).toNat)
  case atStart => exact ⟨0, _, _, Nat.zero_le _, rfl, rfl, hmade, (Below.refl _ _).alloc (Nat.le_refl _) _⟩
  case round =>
    clear hmade
    obtain ⟨k, av, cp, hk, rfl, rfl, hown, hb⟩ := hrel
    by_cases hlt : k < n
    · rcases hz with h | ⟨b, off, rfl, hcz⟩
      · simp [h] at hn; omega
      · have hcell := (hb.cell (World.block_lt_of_cell? w _ (hcz k (by omega)))).trans (hcz k (by omega))
        obtain ⟨c, hcc⟩ : ∃ c, zs.getD k 0 = c := ⟨_, rfl⟩
        have hstep : Hid (zs.take (k + 1) = zs.take k ++ [c]) := by
          unfold Hid
          rw [List.take_succ_eq_append_getElem (by omega), ← hcc]
          simp [show k < zs.length by omega]
        rw [hcc] at hcell
        have hsz := hb.size
        clear hcc hcz
        go_wp2_with (at_builtin; refine wpList_app1 _ (by rfl) _ _ 22 5 (by rfl) .u8 1 Try.underlying22 info_byte (by decide) w.heap.size av k cp (zs.take k) c (by rfl) (hown.alloc _) ⟨wr.heap.size, 0, none⟩ (by rfl) (by simp) (by omega) (by simp; omega) ?_; intro g cap' w4 ho4 hg4)
        have hb4 := below_grown (hb.alloc hsz _) (hown.alloc _) hg4 (Nat.le_refl _) (by simp; omega)
        go_roundw
        case rel => exact ⟨k + 1, _, _, by omega, by go_num, rfl, by rw [hstep.out]; exact ho4, hb4⟩
        case measure => simp [intOf]; omega
    · go_wp2
      go_ret
      have : k = n := by omega
      subst this
      rw [← hn, List.take_length, hn] at hown
      exact ⟨_, _, rfl, hown, hb⟩
theorem l3Code_any (c : Int) (w : World) : Calls Try.prog 54 #[.int .i64 c] w fun e w' => e = .returned (.agg #[.int .i64 c, .slice none 0 0]) ∧ Below w.heap.size w w' := by
  obtain ⟨⟨z0, z1⟩, _⟩ := cells2r (heap_alloc_new w (.cells #[.int .i64 c, .slice none 0 0] 37))
  go_enter Try.func54, Try.ntmps54
  go_wp2_with fail
  exact bodyPost_ret (v := .agg #[.int .i64 c, .slice none 0 0]) (by simp [results, Try.results54, go_sem, z0, z1]) rfl ⟨rfl, (Below.refl _ _).alloc (Nat.le_refl _) _⟩

theorem info_int : (Try.prog.info? 3).map (fun i => (i.zero, i.size, i.bytes)) = some (some (.int .i64 0), 1, 8) := by kernel_rfl
def natI (l : List Nat) : List Int := l.map fun x : Nat => (x : Int)
theorem natI_snoc (l : List Nat) (k : Nat) : natI (l ++ [k]) = natI l ++ [(k : Int)] := by simp [natI]
theorem idxF_le (p d : Int) : ∀ (I : List SI) (o : Nat), (idxF p d o I).length ≤ I.length := by
  intro I
  induction I with
  | nil => intro o; simp [idxF]
  | cons x r ih =>
    intro o
    have := ih (o + 1)
    rw [idxF]
    split <;> simp <;> omega
set_option maxHeartbeats 800000 in
set_option maxRecDepth 100000 in
theorem l3Flight_any (w : World) (B base n : Nat) (s : NS) (cv av : Value) (C : List Int) (I : SIs) (h : SpN w B base n s cv av C I) (hl : I.length ≤ 1048576) (p d : Int) :
    Calls Try.prog 49 #[.pointer (some ⟨B, 0, none⟩), .int .i64 p, .int .i64 d] w fun e w' => ∃ xa xc, e = .returned (.slice xa (s.bag p d).length xc) ∧ w'.ownsRow w.heap.size 3 1 (.slice xa (s.bag p d).length xc) (s.bag p d).length ((natI (idxF p d 0 (I.map (·.1)))).map (.int .i64)) ∧ Below w.heap.size w w' := by
  have hmade : (w.alloc (.cells #[] 3)).ownsRow w.heap.size 3 1 (.slice (some ⟨w.heap.size, 0, none⟩) 0 0) 0 (([] : List Int).map (.int .i64)) := World.ownsRow_made w #[] 0 (Nat.le_refl _) (by unfold maxLen; omega) rfl
  obtain ⟨J, hJ⟩ : ∃ J, J = I.map (·.1) := ⟨_, rfl⟩
  obtain ⟨N, hN⟩ : ∃ N, Hid (N = I.length) := ⟨_, rfl⟩
  have hNl : N ≤ 1048576 := by rw [hN.out]; exact hl
  have hbg : (idxF p d 0 J).length = (s.bag p d).length := by rw [idxF_length, hJ, h.bs]
  obtain ⟨aa, ac, hav⟩ := own_shape h.all
  subst hav
  rw [← hbg]
  rw [← hJ]
  have H : Hid _ := h
  have HL : Hid _ := hl
  have HJ : Hid _ := hJ
  obtain ⟨c0, c1, c2⟩ := h.cells.1
  rw [← hN.out] at c2
  have hBl := h.lt
  clear h hl hJ hbg c0 c1
  go_enter Try.func49, Try.ntmps49
  go_wp2
  go_loopw [7, 8] (fun v i wr => ∃ (k m : Nat) (xa : Option Addr) (cp : Nat), k ≤ N ∧ i = .int .i64 k ∧ v = .slice xa m cp ∧ (idxF p d 0 (J.take k)).length = m ∧ wr.ownsRow w.heap.size 3 1 (.slice xa m cp) m ((natI (idxF p d 0 (J.take k))).map (.int .i64)) ∧ Below w.heap.size w wr) (fun _ i _ => N - (intOf i).toNat)
  case atStart => exact ⟨0, 0, _, _, Nat.zero_le _, rfl, rfl, rfl, hmade, (Below.refl _ _).alloc (Nat.le_refl _) _⟩
  case round =>
    clear hmade
    obtain ⟨k, m, xa, cp, hk, rfl, rfl, hm, hown, hb⟩ := hrel
    have hsz := hb.size
    have b2 := (hb.cell (World.block_lt_of_cell? w _ c2)).trans c2
    by_cases hlt : k < N
    · have hkl : k < I.length := by rw [← hN.out]; exact hlt
      have hall := H.out.all
      rcases hall.2 with ⟨e, _⟩ | ⟨g, cap', cur, e, rest⟩
      · simp only [Value.slice.injEq] at e; omega
      simp only [Value.slice.injEq] at e
      obtain ⟨rfl, _, _⟩ := e
      obtain ⟨q0, q1, q2, q3⟩ := flatI_at hkl
      have a0 := (own_cell hall q0).1
      have a1 := (own_cell hall q1).1
      have a3 := (own_cell hall q3).1
      have a0 := (hb.cell (World.block_lt_of_cell? w _ a0)).trans a0
      have a1 := (hb.cell (World.block_lt_of_cell? w _ a1)).trans a1
      have a3 := (hb.cell (World.block_lt_of_cell? w _ a3)).trans a3
      obtain ⟨⟨⟨pa, di, dat, gone⟩, iv⟩, hi⟩ : ∃ i, I[k] = i := ⟨_, rfl⟩
      rw [hi] at a0 a1 a3
      simp only at a0 a1 a3
      have hJk : Hid (J.take (k + 1) = J.take k ++ [⟨pa, di, dat, gone⟩]) := by
        unfold Hid
        have hkJ : k < J.length := by rw [HJ.out]; simpa using hkl
        rw [List.take_succ_eq_append_getElem hkJ]
        congr 2
        subst HJ
        simp [hi]
      have hlen : Hid ((J.take k).length = k) := by unfold Hid; rw [List.length_take, HJ.out, List.length_map]; omega
      have hmN : m ≤ 1048576 := by have := idxF_le p d (J.take k) 0; rw [hlen.out] at this; omega
      have HM : Hid _ := hm
      clear hi q0 q1 q2 q3 hall rest hm
      have hIx : Hid (idxF p d 0 (J.take (k + 1)) = idxF p d 0 (J.take k) ++ if liveI p d ⟨pa, di, dat, gone⟩ = true then [k] else []) := by
        unfold Hid; rw [hJk.out, idxF_snoc, hlen.out, Nat.zero_add]
      have no : liveI p d ⟨pa, di, dat, gone⟩ = false → ∃ (k' m' : Nat) (xa' : Option Addr) (cp' : Nat), k' ≤ N ∧ Value.int .i64 ((k : Int) + 1) = .int .i64 k' ∧ Value.slice xa m cp = .slice xa' m' cp' ∧ (idxF p d 0 (J.take k')).length = m' ∧ wr.ownsRow w.heap.size 3 1 (.slice xa' m' cp') m' ((natI (idxF p d 0 (J.take k'))).map (.int .i64)) ∧ Below w.heap.size w wr := fun e => by
        refine ⟨k + 1, m, xa, cp, hlt, by simp, rfl, ?_, ?_, hb⟩
        · rw [hIx.out, e]; simpa using HM.out
        · rw [hIx.out, e]; simpa using hown
      have NO : Hid _ := no
      clear no
      cases gone with
      | true =>
        have e : Hid (liveI p d ⟨pa, di, dat, true⟩ = false) := rfl
        go_wp2_with fail
        go_roundw
        case rel =>
          have := NO.out e.out
          simpa using this
        case measure => simp [intOf]; omega
      | false =>
        by_cases hp : pa = p
        · have bp : (pa == p) = true := by simpa using hp
          by_cases hd : di = d
          · have bd : (di == d) = true := by simpa using hd
            have e : Hid (liveI p d ⟨pa, di, dat, false⟩ = true) := by unfold Hid liveI; simp [hp, hd]
            have HP : Hid _ := hp
            have HD : Hid _ := hd
            clear hp hd
            go_wp2_with (at_builtin; refine wpList_app1 _ (by rfl) _ _ 97 3 (by rfl) .i64 8 Try.underlying97 info_int (by decide) w.heap.size xa m cp (natI (idxF p d 0 (J.take k))) k (by rfl) (hown.alloc _) ⟨wr.heap.size, 0, none⟩ (by rfl) (by simp) (by omega) (by simp; omega) ?_; intro g9 cap9 w4 ho4 hg4)
            have hb4 := below_grown (hb.alloc hsz _) (hown.alloc _) hg4 (Nat.le_refl _) (by simp; omega)
            go_roundw
            case rel =>
              refine ⟨k + 1, m + 1, _, _, by omega, by go_num, rfl, ?_, ?_, hb4⟩
              · rw [hIx.out, e.out, if_pos rfl, List.length_append, HM.out]; rfl
              · rw [hIx.out, e.out, if_pos rfl, natI_snoc]; exact ho4
            case measure => simp [intOf]; omega
          · have bd : (di == d) = false := by simpa using hd
            have e : Hid (liveI p d ⟨pa, di, dat, false⟩ = false) := by unfold Hid liveI; simp [hd]
            have HP : Hid _ := hp
            clear hp hd
            go_wp2_with fail
            go_roundw
            case rel =>
              have := NO.out e.out
              simpa using this
            case measure => simp [intOf]; omega
        · have bp : (pa == p) = false := by simpa using hp
          have e : Hid (liveI p d ⟨pa, di, dat, false⟩ = false) := by unfold Hid liveI; simp [hp]
          clear hp
          go_wp2_with fail
          go_roundw
          case rel =>
            have := NO.out e.out
            simpa using this
          case measure => simp [intOf]; omega
    · have e : Hid (J.take k = J) := by unfold Hid; rw [List.take_of_length_le]; rw [HJ.out, List.length_map, ← hN.out]; omega
      rw [e.out] at hown hm
      go_wp2_with fail
      go_ret
      rw [← hm] at hown
      rw [hm] at hown ⊢
      exact ⟨_, _, rfl, hown, hb⟩
end Go.Proofs.Ytkamdaadgndmbaa
