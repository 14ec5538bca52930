import Derived.Test.YtkamdaadgndmbaaNNew
namespace Go.Proofs.Ytkamdaadgndmbaa
open Go.ChangeShapes Go.WideShapes Go.ChangeAt Go.RowKit
set_option linter.unusedVariables false

theorem NetAt.stays {w w' : World} {X base : Nat} {s : NS} {L : List Lk} (h : NetAt w X base s L) (hb : ∀ (k : Nat) (cs : Array Value) (t : TypeId), (t = 92 ∨ t = 22 ∨ t = 5) → w.heap[k]? = some (.cells cs t (0, 0)) → w'.heap[k]? = w.heap[k]?) : NetAt w' X base s L :=
  ⟨(hb X _ _ (.inl rfl) h.blk).trans h.blk, h.bags.stays fun k cs t _ ht hk => hb k cs t (.inr ht) hk, h.cut, h.bag⟩
theorem Keeps.trans {w w1 w2 : World} {X base : Nat} (h : Keeps w w1 X base) (h2 : Keeps w1 w2 X base) : Keeps w w2 X base :=
  ⟨h2.os.trans h.os, h2.tape.trans h.tape, h2.output.trans h.output, Nat.le_trans h.size h2.size, fun k hk h3 h4 => by
    have e := h.block k hk h3 h4
    exact (h2.block k (Nat.lt_of_lt_of_le hk h.size) h3 (h4.imp id fun h5 cs => by rw [e]; exact h5 cs)).trans e⟩
theorem Keeps.below {w V w' : World} {X base : Nat} (h : Keeps w V X base) (hb : ∀ k, k < w.heap.size → w'.heap[k]? = V.heap[k]?) (h1 : w'.os = V.os) (h2 : w'.tape = V.tape) (h3 : w'.output = V.output) (h4 : V.heap.size ≤ w'.heap.size) : Keeps w w' X base :=
  ⟨h1.trans h.os, h2.trans h.tape, h3.trans h.output, Nat.le_trans h.size h4, fun k a b c => (hb k a).trans (h.block k a b c)⟩
/-- No answer's bytes lie in a bag. -/
def ApartG (L : List Lk) (G : GotO) : Prop := ∀ p ∈ G, ∀ k, p.2.ownBlock = some k → ∀ q ∈ bagsL L, ∀ r ∈ q.2, r.2.ownBlock ≠ some k
/-- All events, one behind the other. -/
structure AllN (w0 : World) (X base n : Nat) (es : List NEv) (wr : World) (ov : Value) (G : GotO) : Prop where
  net : ∃ L, L.length = n ∧ NetAt wr X base (stateN n es) L ∧ ApartG L G
  row : wr.ownsRow w0.heap.size 37 2 ov G.length (flatO G)
  outs : OutsN wr base ov G
  got : G.map (·.1) = outsN n startN es
  keep : Keeps w0 wr X base

set_option maxHeartbeats 2000000 in
set_option maxRecDepth 100000 in
theorem runAllN_any (NB X base m lim : Nat) (a : Option Addr) (es : Evs) (n ecap : Nat) (w : World) (hn : es.length = n) (hl : n ≤ 4000) (L0 : List Lk) (hL0 : L0.length = m) (hm8 : m ≤ 8) (hb0 : NetAt w X base startN L0) (hnb : w.heap[NB]? = some (.cells #[.slice (some ⟨X, 0, none⟩) m m] 62 (0, 0))) (hbw : base ≤ w.heap.size) (hlb : lim ≤ base) (hlX : lim ≤ X) (hz : EvLie w lim a es) (hok : ∀ p ∈ es, EvOk p.1) :
    Calls Try.prog 41 #[.slice a n ecap, .func (.func 42) #[.pointer (some ⟨NB, 0, none⟩)] #[]] w fun e w' => ∃ av cp G, e = .returned (.tuple #[.slice av n cp, .int .i64 0]) ∧ AllN w X base m (es.map (·.1)) w' (.slice av n cp) G := by
  have hltX : X < w.heap.size := (Array.getElem?_eq_some_iff.1 hb0.blk).1
  have hltN : NB < w.heap.size := (Array.getElem?_eq_some_iff.1 hnb).1
  have hNX : NB ≠ X := type_ne hnb hb0.blk (by decide)
  obtain ⟨i0, hi, hz0, hz1', hz2'⟩ := info_parts info_no
  have d4 : decide ((4000 : Int) < (n : Int)) = false := by rw [decide_eq_false_iff_not]; omega
  go_enter Try.func41, Try.ntmps41
  go_wp2_with (at_make; refine wpList_make_own _ rfl _ _ 26 rfl w.heap.size 37 i0 (.agg #[.int .i64 0, .slice none 0 0]) 2 Try.underlying26 hi hz0 hz1' .i64 .i64 _ n rfl rfl (by omega) (by rw [hz2']; omega) (by unfold maxLen; omega) (Nat.le_refl _) ?_; intro w2 hr1 hg2)
  have hb2 : NetAt w2 X base startN L0 := hb0.kept fun k hk => hg2.block k hk (by simp)
  have hK2 : Keeps w w2 X base := ⟨hg2.os, hg2.tape, hg2.output, hg2.size, fun k h1 _ _ => hg2.block k h1 (by simp)⟩
  have hD0 : AllN w X base m ((es.map (·.1)).take 0) w2 (.slice (some ⟨w.heap.size, 0, none⟩) 0 n) [] := ⟨⟨L0, hL0, hb2, fun p hp => by cases hp⟩, hr1, OutsN.start (owned_base hr1 hbw), rfl, hK2⟩
  clear hg2 hb2 hK2 hr1
  have HN : Hid (es.length = n) := hn
  have HZ : Hid _ := hz
  clear hn hz
  go_loopw [6, 17] (fun ov i wr => ∃ (k : Nat) (av : Option Addr) (cp : Nat) (G : GotO), k ≤ n ∧ i = .int .i64 k ∧ ov = .slice av k cp ∧ G.length = k ∧ AllN w X base m ((es.map (·.1)).take k) wr (.slice av k cp) G) (fun _ i _ => n - (intOf i).toNat)
  case atStart => exact ⟨0, _, _, [], Nat.zero_le _, rfl, rfl, rfl, hD0⟩
  case round =>
    clear hD0
    obtain ⟨k, av, cp, G, hk, rfl, rfl, hGk, hD⟩ := hrel
    by_cases hlt : k < n
    · have hkl : k < es.length := by have := HN.out; omega
      have hszr := hD.keep.size
      have hzr : EvLie wr lim a es := HZ.out.stays fun j hj => hD.keep.block j (by omega) (by omega) (.inl (by omega))
      rcases hzr.at_ with h | ⟨b, off, rfl, hbl, hcz⟩
      · have := HN.out; simp [h] at this; omega
      obtain ⟨c1, c2, c3, c4, c5⟩ := hcz k hkl
      have hpm : es[k] ∈ es := List.getElem_mem hkl
      have hok1 := hok _ hpm
      have hdt := hzr.dat _ hpm
      have hnl := hzr.nil _ hpm
      obtain ⟨⟨e, da, dc⟩, he⟩ : ∃ p, es[k] = p := ⟨_, rfl⟩
      rw [he] at c1 c2 c3 c4 c5 hok1 hdt hnl
      simp only at c1 c2 c3 c4 c5 hok1 hdt hnl
      have hkm : k < (es.map (·.1)).length := by simpa using hkl
      have hSt := stateN_take m (es.map (·.1)) k hkm
      have hOt := outsN_take m (es.map (·.1)) k hkm
      have hem : (es.map (·.1))[k] = e := by rw [List.getElem_map, he]
      rw [hem] at hSt hOt
      have hin := (invN_all m ((es.map (·.1)).take k) (by
        intro e' he' v hv
        obtain ⟨p, hp, rfl⟩ := List.mem_map.1 (List.mem_of_mem_take he')
        exact (hok p hp).dv v hv) startN invN_start).1
      obtain ⟨L, hLm, hbL, hAG⟩ := hD.net
      have hBr : NB < wr.heap.size := by omega
      have hba : ∀ o, NetAt (wr.alloc o) X base (stateN m ((es.map (·.1)).take k)) L := fun o => hbL.moved ((Below.refl _ _).alloc (Nat.le_refl _) _)
      have hnb1 : wr.heap[NB]? = some (.cells #[.slice (some ⟨X, 0, none⟩) m m] 62 (0, 0)) := (hD.keep.block NB hltN hNX (.inr fun cs => by rw [hnb]; simp)).trans hnb
      obtain ⟨kd, pa, di, ix, dat⟩ := e
      simp only at c1 c2 c3 c4 c5 hdt
      obtain ⟨dl, hdl⟩ : ∃ dl, dat.length = dl := ⟨_, rfl⟩
      rw [hdl] at c5
      obtain ⟨Q, hQ⟩ : ∃ Q, Q = stepN m (stateN m ((es.map (·.1)).take k)) ⟨kd, pa, di, ix, dat⟩ := ⟨_, rfl⟩
      have hst := fun o => step_net NB X base m m _ L (wr.alloc o) (hba o) ((Below.heap_alloc _ _ _ hBr).trans hnb1) hLm hm8 hin (by simp; omega) kd pa di ix dat hok1 da dl dc hdl (hdt.1.moved ((Below.refl _ _).alloc (Nat.le_refl _) _)) hnl Q hQ
      rw [← hQ] at hSt hOt
      have HST : Hid _ := hSt
      have HOT : Hid _ := hOt
      have HGK : Hid (G.length = k) := hGk
      have HD : Hid _ := hD
      have HAG : Hid _ := hAG
      have HLM : Hid _ := hLm
      have HBL : Hid _ := hbL
      have hrow := hD.outs.row
      rw [hGk] at hrow
      clear hSt hOt hQ hcz hem hin hGk he hok hba hbL hdt hok1 hpm hzr hkm hAG hLm hnb1 hnl hdl
      have hbr : b < wr.heap.size := by omega
      go_wp2_with fail
      refine (hst _).mono ?_
      rintro e3 w3 ⟨L', va, vc, rfl, hL', hN3, hS3, hK3, hO3⟩
      have hw3 := hK3.size
      have hw3' : wr.heap.size < w3.heap.size := by simp at hw3; omega
      have hk3 : ∀ (j : Nat) (cs : Array Value) (t : TypeId), t ≠ 92 → t ≠ 22 → wr.heap[j]? = some (.cells cs t (0, 0)) → w3.heap[j]? = wr.heap[j]? := fun j cs t h1 h2 h3 => by
        have hj := (Array.getElem?_eq_some_iff.1 h3).1
        exact (hK3.block j (by simp; omega) (type_ne h3 HBL.out.blk h1) (.inr fun cs' => by rw [Below.heap_alloc _ _ _ hj, h3]; simp; intro _ e; exact absurd e h2)).trans (Below.heap_alloc _ _ _ hj)
      have ho3 : OutsN w3 base (.slice av k cp) G := HD.out.outs.stays fun j cs t _ ht hj => hk3 j cs t (by rcases ht with rfl | rfl <;> decide) (by rcases ht with rfl | rfl <;> decide) hj
      have hrow3 : w3.ownsRow w.heap.size 37 2 (.slice av k cp) k (flatO G) := by
        have h9 := HD.out.row
        rw [HGK.out] at h9
        refine row_stays h9 fun j hj => ?_
        obtain ⟨cs, hc⟩ := row_block h9 hj
        exact hk3 j cs _ (by decide) (by decide) hc
      have hnb := box_new w3 (.cells #[.int .i64 Q.1.code, .slice va Q.1.dat.length vc] 37) _ rfl
      clear hst c1 c2 c3 c4 c5
      go_wp2_with (at_builtin; refine wpList_appO _ (by rfl) _ _ (by rfl) w.heap.size av k cp (flatO G) (by rfl) (own_alloc hrow3 _) w3.heap.size _ _ (by rfl) hnb (by simp [Value.oneCell']) (by omega) (by simp; omega) ?_; intro g9 cap' w4 ho4 hg4)
      have hsG : ∀ p ∈ G, ∀ j, p.2.ownBlock = some j → j < wr.heap.size := fun p hp j hj => ((HD.out.outs.dat p hp).lt j hj).2
      have hP := OutsN.push (q := Q.1) (dv := .slice va Q.1.dat.length vc) (base := base) (ov := .slice av k cp) (G := G) (g := g9) (cap := cap') (w := w3.alloc (.cells #[.int .i64 Q.1.code, .slice va Q.1.dat.length vc] 37)) (w' := w4)
        (ho3.stays fun j cs t _ _ hj => Below.heap_alloc _ _ _ (Array.getElem?_eq_some_iff.1 hj).1) (own_alloc hO3.row _) (fun p hp j hj e => by
          obtain ⟨⟨q, hq, r, hr, hrj⟩, _⟩ := hO3.old j e
          exact HAG.out p hp j hj q hq r hr hrj) hg4 (by rw [HGK.out]; exact owned_base ho4 hbw)
      rw [HGK.out] at hP
      have hgv : ∀ j, j < w.heap.size → w4.heap[j]? = w3.heap[j]? := fun j hj => by
        refine (hg4.block j (by simp; omega) (fun e => ?_)).trans (Below.heap_alloc _ _ _ (by omega))
        have := (hrow3.lt j e.symm).1
        omega
      have hKa : Keeps wr (wr.alloc (.cells #[.int .i64 kd, .int .i64 pa, .int .i64 di, .int .i64 ix, .slice da dl dc] 35)) X base := ⟨rfl, rfl, rfl, by simp, fun j hj _ _ => Below.heap_alloc _ _ _ hj⟩
      have hK4 : Keeps w w4 X base := (HD.out.keep.trans (hKa.trans hK3)).below hgv hg4.os hg4.tape hg4.output (by have := hg4.size; simp at this; omega)
      have hN4 : NetAt w4 X base Q.2 L' := hN3.stays fun j cs t ht hj => by
        have hj1 := (Array.getElem?_eq_some_iff.1 hj).1
        refine (hg4.block j (by simp; omega) (fun e => ?_)).trans (Below.heap_alloc _ _ _ hj1)
        obtain ⟨c9, hc9⟩ := row_block hrow3 e.symm
        exact type_ne hj hc9 (by rcases ht with rfl | rfl | rfl <;> decide) rfl
      have hA4 : ApartG L' (G ++ [(Q.1, .slice va Q.1.dat.length vc)]) := by
        intro p hp j hj q hq r hr e
        rcases List.mem_append.1 hp with hp | hp
        · rcases hS3 q hq r hr j e with h | ⟨p', hp', q', hq', h⟩
          · have := hsG p hp j hj; simp at h; omega
          · exact HAG.out p hp j hj p' hp' q' hq' h
        · simp at hp; subst hp
          exact (hO3.old j hj).2 q hq r hr e
      go_roundw
      case rel =>
        refine ⟨k + 1, _, _, _, by omega, by go_num, rfl, by rw [List.length_append, HGK.out]; rfl, ⟨L', hL'.trans HLM.out, ?_, hA4⟩, ?_, hP, ?_, hK4⟩
        · rw [HST.out]
          exact hN4
        · rw [flatO_snoc, List.length_append, HGK.out]
          exact ho4
        · rw [HOT.out, List.map_append, HD.out.got]
          rfl
      case measure => simp [intOf]; omega
    · obtain rfl : k = n := by omega
      go_wp2
      go_ret2
      rw [List.take_of_length_le (by have := HN.out; simp; omega)] at hD
      exact ⟨av, cp, G, rfl, hD⟩
end Go.Proofs.Ytkamdaadgndmbaa
