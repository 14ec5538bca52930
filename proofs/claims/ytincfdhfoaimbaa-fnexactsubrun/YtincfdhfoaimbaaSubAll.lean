import Derived.Test.YtincfdhfoaimbaaSubOuts
namespace Go.Proofs.Ytincfdhfoaimbaa
open Go.ChangeShapes Go.WideShapes Go.ChangeAt Go.RowKit
set_option linter.unusedVariables false

/-- All events, one behind the other. -/
structure AllDone (w0 : World) (B base : Nat) (c : Cf) (es : Triples) (wr : World) (v ov : Value) (G : Got) : Prop where
  snd : SndAt wr B base c (stAt c es) v
  outs : Outs wr base v ov G
  got : G.map (·.1) = outsF c (startF c) es
  mv : Mv w0 wr B none

set_option maxHeartbeats 2000000 in
set_option maxRecDepth 100000 in
theorem runAll_any (B : Nat) (c : Cf) (hc : c.Ok) (v0 : Value) (a : Option Addr) (es : Triples) (n cap : Nat) (w : World) (hn : es.length = n) (hl : n ≤ 4000) (hS0 : SndAt w B w.heap.size c (startF c) v0) (hx : ∀ e ∈ es, 0 ≤ e.2.2 ∧ e.2.2 ≤ 4294967295)
    (hz : es = [] ∨ ∃ b off, a = some ⟨b, off, none⟩ ∧ b ≠ B ∧ ∀ i, ∀ h : i < es.length, w.cell? ⟨b, off + i * 3, none⟩ = some (.int .i64 (es[i]).1) ∧ w.cell? ⟨b, off + i * 3 + 1, none⟩ = some (.int .i64 (es[i]).2.1) ∧ w.cell? ⟨b, off + i * 3 + 2, none⟩ = some (.int .u32 (es[i]).2.2)) :
    Calls Try.prog 58 #[.slice a n cap, .func (.func 59) #[] #[.pointer (some ⟨B, 0, none⟩)]] w fun e w' => ∃ av cp v G, e = .returned (.tuple #[.slice av n cp, .int .i64 0]) ∧ AllDone w B w.heap.size c es w' v (.slice av n cp) G := by
  have hltB := hS0.lt
  obtain ⟨i0, hi, hz0, hz1, hz2⟩ := info_parts info_so
  go_enter Try.func58, Try.ntmps58
  go_wp2_with (at_make; refine wpList_make_own _ rfl _ _ 39 rfl w.heap.size 47 i0 (.agg #[.int .i64 0, .slice none 0 0, .slice none 0 0, .int .i64 0, .int .i64 0]) 5 Try.underlying39 hi hz0 hz1 .i64 .i64 _ n rfl rfl (by omega) (by rw [hz2]; omega) (by unfold maxLen; omega) (Nat.le_refl _) ?_; intro w2 hr1 hg2)
  have hS2 : SndAt w2 B w.heap.size c (startF c) v0 := ⟨(hg2.block B hltB (by simp)).trans hS0.blk, hS0.row.kept (fun k hk => hg2.block k (hS0.row.lt hk).2 (by simp)), hS0.ne⟩
  have hM2 : Mv w w2 B none := ⟨hg2.os, hg2.tape, hg2.output, hg2.size, fun k h1 _ _ => hg2.block k h1 (by simp)⟩
  have hD0 : AllDone w B w.heap.size c (es.take 0) w2 v0 (.slice (some ⟨w.heap.size, 0, none⟩) 0 n) [] := ⟨hS2, Outs.start hr1, rfl, hM2⟩
  clear hg2
  have HN : Hid (es.length = n) := hn
  clear hn
  go_loopw [6, 17] (fun ov i wr => ∃ (k : Nat) (av : Option Addr) (cp : Nat) (v : Value) (G : Got), k ≤ n ∧ i = .int .i64 k ∧ ov = .slice av k cp ∧ G.length = k ∧ AllDone w B w.heap.size c (es.take k) wr v (.slice av k cp) G) (fun _ i _ => n - (intOf i).toNat)
  case atStart => exact ⟨0, _, _, v0, [], Nat.zero_le _, rfl, rfl, rfl, hD0⟩
  case round =>
    clear hr1 hS2 hM2 hD0
    obtain ⟨k, av, cp, v, G, hk, rfl, rfl, hGk, hD⟩ := hrel
    by_cases hlt : k < n
    · rcases hz with h | ⟨b, off, rfl, hbB, hcz⟩
      · have := HN.out; simp [h] at this; omega
      have hkl : k < es.length := by have := HN.out; omega
      obtain ⟨z1, z2, z3⟩ := hcz k hkl
      obtain ⟨⟨e1, e2, e3⟩, he⟩ : ∃ e, es[k] = e := ⟨_, rfl⟩
      rw [he] at z1 z2 z3
      have hxe := hx es[k] (List.getElem_mem hkl)
      rw [he] at hxe
      have hbw : b < w.heap.size := World.block_lt_of_cell? w _ z1
      have hcell : ∀ j, wr.cell? ⟨b, j, none⟩ = w.cell? ⟨b, j, none⟩ := fun j => World.cell?_of_block (hD.mv.block b hbw hbB (by simp))
      rw [← hcell] at z1 z2 z3
      have hgd : es.getD k (0, 0, 0) = (e1, e2, e3) := by rw [List.getD_eq_getElem?_getD, List.getElem?_eq_getElem hkl, he]; rfl
      have hSt := stAt_take c es k hkl
      have hOt := outsF_take c es k hkl
      rw [hgd] at hSt hOt
      have hgk := good_at hc (es.take k)
      have hln : (es.take k).length = k := by rw [List.length_take]; omega
      rw [hln] at hgk
      have hszr := hD.mv.size
      have hcl := closure_any B w.heap.size c hc (stAt c (es.take k)) v (wr.alloc (.cells #[.int .i64 e1, .int .i64 e2, .int .u32 e3] 43)) k hgk (by omega) (by simp; omega) (alloc_keeps hD.snd _) e1 e2 e3 hxe.1 hxe.2
      obtain ⟨R, hR⟩ : ∃ R, R = stepF c (stAt c (es.take k)) (e1, e2, e3) := ⟨_, rfl⟩
      rw [← hR] at hcl hSt hOt
      have HST : Hid _ := hSt
      have HOT : Hid _ := hOt
      have HGK : Hid (G.length = k) := hGk
      clear hSt hOt hR hcz hcell hgd hgk hln hGk he hx
      have hltr : b < wr.heap.size := by omega
      go_wp2_with fail
      refine hcl.mono ?_
      rintro e w3 ⟨fv, ak, v', rfl, hs⟩
      have hs' := stepped_from ((Below.refl _ _).alloc (Nat.le_refl _) _) hs
      obtain ⟨n1, n2, n3, n4, n5, n6⟩ := hD.outs.step hD.snd hszr hs'
      have hM3 := hD.mv.trans hs'.mv (.inr fun j hj => (hD.snd.row.lt hj).1)
      have hS3 := hs'.snd
      obtain ⟨fa, fc, hfv⟩ := own_shape hs'.fr
      obtain ⟨aa, ac, hav⟩ := own_shape hs'.ak
      rw [hfv, hav] at n2 n3 n4 n5 n6
      rw [hfv, hav]
      clear hfv hav hcl hs hs' z1 z2 z3
      rw [HGK.out] at n1
      have hs3 := hM3.size
      have hnb : (w3.alloc (.cells #[.int .i64 R.1.code, .slice fa R.1.frames.length fc, .slice aa R.1.acked.length ac, .int .i64 R.1.died, .int .i64 R.1.revived] 47)).heap[w3.heap.size]? = some (.cells #[.int .i64 R.1.code, .slice fa R.1.frames.length fc, .slice aa R.1.acked.length ac, .int .i64 R.1.died, .int .i64 R.1.revived] 47) := box_new _ _ _ rfl
      go_wp2_with (at_builtin; refine wpList_app5 _ (by rfl) _ _ (by rfl) w.heap.size av k cp (flatO G) (by rfl) (own_alloc n1 _) w3.heap.size _ _ _ _ _ (by rfl) hnb (by simp [Value.oneCell']) (by omega) (by simp; omega) ?_; intro g cap' w4 ho4 hg4)
      have hG1 : (G ++ [((R.1, Value.slice fa R.1.frames.length fc, Value.slice aa R.1.acked.length ac) : Ot × Value × Value)]).length = k + 1 := by rw [List.length_append, HGK.out]; rfl
      have hfl : flatO (G ++ [(R.1, Value.slice fa R.1.frames.length fc, Value.slice aa R.1.acked.length ac)]) = flatO G ++ [.int .i64 R.1.code, .slice fa R.1.frames.length fc, .slice aa R.1.acked.length ac, .int .i64 R.1.died, .int .i64 R.1.revived] := flatO_snoc G _
      have hP := Outs.push (w := w3.alloc (.cells #[.int .i64 R.1.code, .slice fa R.1.frames.length fc, .slice aa R.1.acked.length ac, .int .i64 R.1.died, .int .i64 R.1.revived] 47)) (g := g) (cap := cap') (alloc_keeps hS3 _) (own_alloc n1 _) (fun p hp => own_alloc (n2 p hp) _) (fun p hp => own_alloc (n3 p hp) _) n4 n5 n6 hg4 (by rw [hfl, hG1]; exact ho4)
      rw [hG1] at hP
      have hM4 := (hM3.alloc (.cells #[.int .i64 R.1.code, .slice fa R.1.frames.length fc, .slice aa R.1.acked.length ac, .int .i64 R.1.died, .int .i64 R.1.revived] 47)).grown hg4 (.inr (.inr fun j hj => (n1.lt j hj).1))
      go_roundw
      case rel =>
        refine ⟨k + 1, _, _, v', _, by omega, by go_num, rfl, hG1, ?_, hP.1, ?_, hM4⟩
        · rw [HST.out]
          exact hP.2
        · rw [HOT.out, List.map_append, hD.got]
          rfl
      case measure => simp [intOf]; omega
    · obtain rfl : k = n := by omega
      go_wp2
      go_ret2
      rw [List.take_of_length_le (by have := HN.out; omega)] at hD
      exact ⟨av, cp, v, G, rfl, hD⟩
end Go.Proofs.Ytincfdhfoaimbaa
