import Derived.Test.YtpeecjoadgefjaaROuts
namespace Go.Proofs.Ytpeecjoadgefjaa
open Go.ChangeShapes Go.WideShapes Go.ChangeAt Go.RowKit
set_option linter.unusedVariables false

/-- All events, one behind the other. -/
structure AllR (w0 : World) (B base z g cap : Nat) (x : Int) (es : List REv) (wr : World) (ob : Nat) (ov : Value) (G : GotO) : Prop where
  buf : ∃ L, BufAt wr B base z (stateR z x es) g cap L
  outs : OutsR wr ob ov G
  got : G.map (·.1) = outsR z (startR x) es
  two : Buf2 w0 wr B g
theorem Buf2.below {w V w' : World} {B g : Nat} (h : Buf2 w V B g) (hb : ∀ k, k < w.heap.size → w'.heap[k]? = V.heap[k]?) (h1 : w'.os = V.os) (h2 : w'.tape = V.tape) (h3 : w'.output = V.output) (h4 : V.heap.size ≤ w'.heap.size) : Buf2 w w' B g :=
  ⟨h1.trans h.os, h2.trans h.tape, h3.trans h.output, Nat.le_trans h.size h4, fun k a b c => (hb k a).trans (h.block k a b c)⟩

set_option maxHeartbeats 2000000 in
set_option maxRecDepth 100000 in
theorem runAllR_any (B base z g cap lim : Nat) (x : Int) (x0 : 0 ≤ x) (x1 : x ≤ 4611686018427387904) (a : Option Addr) (es : Evs) (n ecap : Nat) (w : World) (hn : es.length = n) (hl : n ≤ 4000) (L0 : SlotL) (hb0 : BufAt w B base z (startR x) g cap L0) (hB : lim ≤ B) (hg : lim ≤ g) (hz : EvLie w lim a es) (hok : ∀ p ∈ es, EvOk p.1) :
    Calls Try.prog 75 #[.slice a n ecap, .func (.func 76) #[.pointer (some ⟨B, 0, none⟩)] #[]] w fun e w' => ∃ av cp G, e = .returned (.tuple #[.slice av n cp, .int .i64 0]) ∧ AllR w B base z g cap x (es.map (·.1)) w' w.heap.size (.slice av n cp) G := by
  have hltB : B < w.heap.size := (Array.getElem?_eq_some_iff.1 hb0.blk).1
  have hltg := (hb0.row.lt g rfl).2
  have hz1 := hb0.z1
  have hz2 := hb0.z2
  obtain ⟨i0, hi, hz0, hz1', hz2'⟩ := info_parts info_ro
  have d4 : decide ((4000 : Int) < (n : Int)) = false := by rw [decide_eq_false_iff_not]; omega
  go_enter Try.func75, Try.ntmps75
  go_wp2_with (at_make; refine wpList_make_own _ rfl _ _ 40 rfl w.heap.size 50 i0 (.agg #[.int .i64 0, .int .i64 0, .slice none 0 0]) 3 Try.underlying40 hi hz0 hz1' .i64 .i64 _ n rfl rfl (by omega) (by rw [hz2']; omega) (by unfold maxLen; omega) (Nat.le_refl _) ?_; intro w2 hr1 hg2)
  have hb2 : BufAt w2 B base z (startR x) g cap L0 := hb0.kept (hg2.block B hltB (by simp)) (hg2.block g hltg (by simp))
  have ht2 : Buf2 w w2 B g := ⟨hg2.os, hg2.tape, hg2.output, hg2.size, fun k h1 _ _ => hg2.block k h1 (by simp)⟩
  have hD0 : AllR w B base z g cap x ((es.map (·.1)).take 0) w2 w.heap.size (.slice (some ⟨w.heap.size, 0, none⟩) 0 n) [] := ⟨⟨L0, hb2⟩, OutsR.start hr1, rfl, ht2⟩
  clear hg2 hb2 ht2 hr1
  have HN : Hid (es.length = n) := hn
  have HZ : Hid _ := hz
  clear hn hz
  go_loopw [6, 17] (fun ov i wr => ∃ (k : Nat) (av : Option Addr) (cp : Nat) (G : GotO), k ≤ n ∧ i = .int .i64 k ∧ ov = .slice av k cp ∧ G.length = k ∧ AllR w B base z g cap x ((es.map (·.1)).take k) wr w.heap.size (.slice av k cp) G) (fun _ i _ => n - (intOf i).toNat)
  case atStart => exact ⟨0, _, _, [], Nat.zero_le _, rfl, rfl, rfl, hD0⟩
  case round =>
    clear hD0
    obtain ⟨k, av, cp, G, hk, rfl, rfl, hGk, hD⟩ := hrel
    by_cases hlt : k < n
    · have hkl : k < es.length := by have := HN.out; omega
      have hszr := hD.two.size
      have hzr : EvLie wr lim a es := HZ.out.stays fun j hj => hD.two.block j (by omega) (by omega) (by omega)
      rcases hzr.at_ with h | ⟨b, off, rfl, hbl, hcz⟩
      · have := HN.out; simp [h] at this; omega
      obtain ⟨c1, c2, c3, c4⟩ := hcz k hkl
      have hpm : es[k] ∈ es := List.getElem_mem hkl
      have hok1 := hok _ hpm
      have hdt := hzr.dat _ hpm
      obtain ⟨⟨e, da, dc⟩, he⟩ : ∃ p, es[k] = p := ⟨_, rfl⟩
      rw [he] at c1 c2 c3 c4 hok1 hdt
      simp only at c1 c2 c3 c4 hok1 hdt
      have hkm : k < (es.map (·.1)).length := by simpa using hkl
      have hSt := stateR_take z x (es.map (·.1)) k hkm
      have hOt := outsR_take z x (es.map (·.1)) k hkm
      have hem : (es.map (·.1))[k] = e := by rw [List.getElem_map, he]
      rw [hem] at hSt hOt
      have hin := rinv_at (z := z) x0 ((es.map (·.1)).take k) (by
        intro e' he' v hv
        obtain ⟨p, hp, rfl⟩ := List.mem_map.1 (List.mem_of_mem_take he')
        exact (hok p hp).dv v hv)
      have hln : ((es.map (·.1)).take k).length = k := by rw [List.length_take, List.length_map]; omega
      rw [hln] at hin
      have hso := stepOk_of hin x0 x1 (by omega) hz2 hok1
      obtain ⟨L, hbL⟩ := hD.buf
      have hBr : B < wr.heap.size := by omega
      have hgr : g < wr.heap.size := by omega
      have hba : ∀ o, BufAt (wr.alloc o) B base z (stateR z x ((es.map (·.1)).take k)) g cap L := fun o => hbL.kept (Below.heap_alloc _ _ _ hBr) (Below.heap_alloc _ _ _ hgr)
      have hst := fun o => step_any (wr.alloc o) B base z g cap _ L (hba o) e hso da dc (hdt.1.moved ((Below.refl _ _).alloc (Nat.le_refl _) _)) (fun b' o' ha => by have := hdt.2 b' o' ha; omega)
      obtain ⟨kd, off', dat, nn⟩ := e
      simp only [evV] at c1 c2 c3 c4 hst
      obtain ⟨Q, hQ⟩ : ∃ Q, Q = stepR z (stateR z x ((es.map (·.1)).take k)) ⟨kd, off', dat, nn⟩ := ⟨_, rfl⟩
      rw [← hQ] at hst hSt hOt
      have HST : Hid _ := hSt
      have HOT : Hid _ := hOt
      have HGK : Hid (G.length = k) := hGk
      have HD : Hid _ := hD
      have hrow := hD.outs.row
      rw [hGk] at hrow
      clear hSt hOt hQ hcz hem hin hln hGk he hok hso hba hbL hdt hok1 hpm hzr hkm
      have hbr : b < wr.heap.size := by omega
      go_wp2_with fail
      refine (hst _).mono ?_
      rintro e3 w3 ⟨dv, dcp, rfl, hs⟩
      have hw3 := hs.two.size
      have hw3' : wr.heap.size < w3.heap.size := by simp at hw3; omega
      have hk3 : ∀ j, w.heap.size ≤ j → j < wr.heap.size → w3.heap[j]? = wr.heap[j]? := fun j h1 h2 => (hs.two.block j (by simp; omega) (by omega) (by omega)).trans (Below.heap_alloc _ _ _ h2)
      have ho3 : OutsR w3 w.heap.size (.slice av k cp) G := HD.out.outs.stays fun j cs t h1 _ hj => hk3 j h1 (Array.getElem?_eq_some_iff.1 hj).1
      have hrow3 := ho3.row
      rw [HGK.out] at hrow3
      have hnb := box_new w3 (.cells #[.int .i64 Q.1.code, .int .i64 Q.1.n, .slice dv Q.1.dat.length dcp] 50) _ rfl
      clear hst c1 c2 c3 c4
      go_wp2_with (at_builtin; refine wpList_appR _ (by rfl) _ _ (by rfl) w.heap.size av k cp (flatO G) (by rfl) (own_alloc hrow3 _) w3.heap.size _ _ _ (by rfl) hnb (by simp [Value.oneCell']) (by omega) (by simp; omega) ?_; intro g9 cap' w4 ho4 hg4)
      have hP := OutsR.push (q := Q.1) (dv := .slice dv Q.1.dat.length dcp) (lim := wr.heap.size) (base := w.heap.size) (ov := .slice av k cp) (G := G) (g := g9) (cap := cap') (w := w3.alloc (.cells #[.int .i64 Q.1.code, .int .i64 Q.1.n, .slice dv Q.1.dat.length dcp] 50)) (w' := w4)
        (ho3.stays fun j cs t _ _ hj => Below.heap_alloc _ _ _ (Array.getElem?_eq_some_iff.1 hj).1) hszr (own_alloc (owned_base hs.row (by simp)) _) (fun p hp j hj => ((HD.out.outs.dat p hp).lt j hj).2) hg4 (by rw [HGK.out]; exact ho4)
      rw [HGK.out] at hP
      have hgv : ∀ j, j < w.heap.size → w4.heap[j]? = w3.heap[j]? := fun j hj => by
        refine (hg4.block j (by simp; omega) (fun e => ?_)).trans (Below.heap_alloc _ _ _ (by omega))
        have := (hrow3.lt j e.symm).1
        omega
      obtain ⟨L4, hb4⟩ := hs.buf
      have hT4 : Buf2 w w4 B g := (HD.out.two.trans ((show Buf2 wr (wr.alloc _) B g from ⟨rfl, rfl, rfl, by simp, fun j hj _ _ => Below.heap_alloc _ _ _ hj⟩).trans hs.two)).below hgv hg4.os hg4.tape hg4.output (by have := hg4.size; simp at this; omega)
      go_roundw
      case rel =>
        refine ⟨k + 1, _, _, _, by omega, by go_num, rfl, by rw [List.length_append, HGK.out]; rfl, ⟨L4, ?_⟩, hP, ?_, hT4⟩
        · rw [HST.out]
          exact hb4.kept (hgv B hltB) (hgv g hltg)
        · rw [HOT.out, List.map_append, HD.out.got]
          rfl
      case measure => simp [intOf]; omega
    · obtain rfl : k = n := by omega
      go_wp2
      go_ret2
      rw [List.take_of_length_le (by have := HN.out; simp; omega)] at hD
      exact ⟨av, cp, G, rfl, hD⟩
end Go.Proofs.Ytpeecjoadgefjaa
