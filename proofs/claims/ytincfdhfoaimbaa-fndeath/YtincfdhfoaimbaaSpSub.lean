import Derived.Test.YtincfdhfoaimbaaSubTop3
namespace Go.Proofs.Ytincfdhfoaimbaa
open Go.ChangeShapes Go.WideShapes Go.ChangeAt Go.RowKit
set_option linter.unusedVariables false

abbrev spCells (c : Cf) (s : St) (v : Value) : Array Value := #[.int .u32 c.isn, .int .i64 c.win, .int .i64 c.rto, .int .i64 c.mrto, .int .i64 c.da, .int .i64 c.pe, v, .int .i64 s.done, .int .i64 s.timer, .int .i64 s.rto, .int .i64 s.count, .int .i64 s.probe, .bool (decide (s.dead = 1))]
/-- The specification's sender at B: it keeps all tags. -/
structure SpAt (w : World) (B base : Nat) (c : Cf) (s : St) (v : Value) (all : List Int) : Prop where
  blk : w.heap[B]? = some (.cells (spCells c s v) 85 (0, 0))
  row : Tags w base v all
  len : all.length = s.done + s.tags.length
  tg : s.tags = all.drop s.done
  ne : v.ownBlock ≠ some B
theorem SpAt.lt {w : World} {B base : Nat} {c : Cf} {s : St} {v : Value} {all : List Int} (h : SpAt w B base c s v all) : B < w.heap.size := (Array.getElem?_eq_some_iff.1 h.blk).1
theorem SpAt.moved {w w' : World} {B base : Nat} {c : Cf} {s : St} {v : Value} {all : List Int} (h : SpAt w B base c s v all) (hb : Below w.heap.size w w') : SpAt w' B base c s v all :=
  ⟨(hb.block B h.lt).trans h.blk, h.row.kept fun k hk => hb.block k (h.row.lt hk).2, h.len, h.tg, h.ne⟩

/-- A sender on the way of a call that began in w0; its answer lies in the block R. -/
structure AtS (w0 : World) (R B base : Nat) (c : Cf) (s : St) (v : Value) (all : List Int) (w : World) : Prop where
  snd : SpAt w B base c s v all
  mv : Mv w0 w B none
  hb : B < w0.heap.size
  hR : w0.heap.size ≤ R
  hv : v.ownBlock ≠ some R
section
variable {w0 w : World} {R B base : Nat} {c : Cf} {s : St} {v : Value} {all : List Int}
theorem AtS.begin (h : SpAt w B base c s v all) (hR : w.heap.size ≤ R) : AtS w R B base c s v all w := ⟨h, Mv.refl w B none, h.lt, hR, fun e => by have := (h.row.lt e).2; omega⟩
theorem AtS.alloc (h : AtS w0 R B base c s v all w) (o : Obj) : AtS w0 R B base c s v all (w.alloc o) := ⟨h.snd.moved ((Below.refl _ _).alloc (Nat.le_refl _) o), h.mv.alloc o, h.hb, h.hR, h.hv⟩
theorem AtS.drewN (h : AtS w0 R B base c s v all w) (n : Nat) : AtS w0 R B base c s v all (w.drewN n) := ⟨h.snd.moved (below_drewN (Below.refl _ _) n), ⟨h.mv.os, h.mv.tape, h.mv.output, h.mv.size, h.mv.block⟩, h.hb, h.hR, h.hv⟩
theorem AtS.drew (h : AtS w0 R B base c s v all w) : AtS w0 R B base c s v all w.drew := ⟨h.snd.moved (Below.refl _ _).drew, h.mv.drew, h.hb, h.hR, h.hv⟩
theorem AtS.below (h : AtS w0 R B base c s v all w) {w' : World} (hb : Below w.heap.size w w') : AtS w0 R B base c s v all w' := ⟨h.snd.moved hb, h.mv.below hb h.mv.size, h.hb, h.hR, h.hv⟩
theorem AtS.far (h : AtS w0 R B base c s v all w) (k j : Nat) (x : Value) (hk : w0.heap.size ≤ k) (hv : v.ownBlock ≠ some k) : AtS w0 R B base c s v all (w.setCell ⟨k, j, none⟩ x) :=
  ⟨⟨(heap_setCell_other _ _ _ _ (by have := h.hb; simp; omega)).trans h.snd.blk, h.snd.row.kept fun i hi => heap_setCell_other _ _ _ _ (fun e => hv (by rw [hi, e])), h.snd.len, h.snd.tg, h.snd.ne⟩, h.mv.grown (grown_set _ _ _ _) (.inr (.inr fun i hi => by have := Option.some.inj hi; omega)), h.hb, h.hR, h.hv⟩
theorem AtS.put (h : AtS w0 R B base c s v all w) (i : Nat) (x : Value) {s' : St} (hl : all.length = s'.done + s'.tags.length) (ht : s'.tags = all.drop s'.done) (hc : (spCells c s v).setIfInBounds i x = spCells c s' v) : AtS w0 R B base c s' v all (w.setCell ⟨B, i, none⟩ x) :=
  ⟨⟨by rw [Go.Joins.block_setCell h.snd.blk _, hc], h.snd.row.kept fun k hk => heap_setCell_other _ _ _ _ (fun e => h.snd.ne (by rw [hk, e])), hl, ht, h.snd.ne⟩, h.mv.set i x, h.hb, h.hR, h.hv⟩
theorem AtS.done (h : AtS w0 R B base c s v all w) (k : Nat) (hk : k ≤ s.tags.length) : AtS w0 R B base c (cutF s k) v all (w.setCell ⟨B, 7, none⟩ (.int .i64 ((s.done + k : Nat) : Int))) :=
  h.put 7 _ (by have := h.snd.len; simp [cutF]; omega) (by simp only [cutF]; rw [h.snd.tg, List.drop_drop]) rfl
theorem AtS.timer (h : AtS w0 R B base c s v all w) (x : Int) : AtS w0 R B base c { s with timer := x } v all (w.setCell ⟨B, 8, none⟩ (.int .i64 x)) := h.put 8 _ h.snd.len h.snd.tg rfl
theorem AtS.rto (h : AtS w0 R B base c s v all w) (x : Int) : AtS w0 R B base c { s with rto := x } v all (w.setCell ⟨B, 9, none⟩ (.int .i64 x)) := h.put 9 _ h.snd.len h.snd.tg rfl
theorem AtS.count (h : AtS w0 R B base c s v all w) (x : Int) : AtS w0 R B base c { s with count := x } v all (w.setCell ⟨B, 10, none⟩ (.int .i64 x)) := h.put 10 _ h.snd.len h.snd.tg rfl
theorem AtS.probe (h : AtS w0 R B base c s v all w) (x : Int) : AtS w0 R B base c { s with probe := x } v all (w.setCell ⟨B, 11, none⟩ (.int .i64 x)) := h.put 11 _ h.snd.len h.snd.tg rfl
theorem AtS.dies (h : AtS w0 R B base c s v all w) : AtS w0 R B base c { s with dead := 1 } v all (w.setCell ⟨B, 12, none⟩ (.bool true)) := h.put 12 _ h.snd.len h.snd.tg rfl
theorem AtS.lives (h : AtS w0 R B base c s v all w) : AtS w0 R B base c { s with dead := 0 } v all (w.setCell ⟨B, 12, none⟩ (.bool false)) := h.put 12 _ h.snd.len h.snd.tg rfl
end

/-- What comes of an event, on the specification's side. -/
structure SteppedS (w : World) (B base : Nat) (c : Cf) (v : Value) (Q : Ot × St) (w' : World) (fv av v' : Value) (all' : List Int) : Prop where
  snd : SpAt w' B base c Q.2 v' all'
  blk : v'.ownBlock = v.ownBlock ∨ ∀ k, v'.ownBlock = some k → w.heap.size ≤ k
  fr : w'.ownsRow w.heap.size 49 3 fv Q.1.frames.length (flat3 .i64 .u32 .i64 Q.1.frames)
  ak : Tags w' w.heap.size av Q.1.acked
  ap : ∀ k, av.ownBlock = some k → v'.ownBlock ≠ some k
  mv : Mv w w' B v.ownBlock
def StepsToS (w : World) (B base : Nat) (c : Cf) (v : Value) (Q : Ot × St) (e : Ending) (w' : World) : Prop :=
  ∃ fv av v' all', e = .returned (.agg #[.int .i64 Q.1.code, fv, av, .int .i64 Q.1.died, .int .i64 Q.1.revived]) ∧ SteppedS w B base c v Q w' fv av v' all'

theorem AtS.plain {w0 w : World} {R B base : Nat} {c : Cf} {s' : St} {v : Value} {all : List Int} {Q : Ot × St} (h : AtS w0 R B base c s' v all w) (hs : s' = Q.2) (hf : Q.1.frames = []) (ha : Q.1.acked = []) {e : Ending}
    (he : e = .returned (.agg #[.int .i64 Q.1.code, .slice none 0 0, .slice none 0 0, .int .i64 Q.1.died, .int .i64 Q.1.revived])) : StepsToS w0 B base c v Q e w := by
  subst hs
  exact ⟨_, _, v, all, he, h.snd, .inl rfl, by rw [hf]; exact World.ownsRow_nil _ _ _ _, by rw [ha]; exact Tags.nil _ _, (fun k hk => by cases hk), mv_none h.mv⟩

set_option maxHeartbeats 400000 in
theorem l4Out_any (B base : Nat) (c : Cf) (s : St) (v : Value) (all : List Int) (w : World) (h : SpAt w B base c s v all) (hl : all.length ≤ 1000000) :
    Calls Try.prog 53 #[.pointer (some ⟨B, 0, none⟩)] w fun e w' => ∃ n, e = .returned (.int .i64 (s.tags.length : Int)) ∧ w' = w.drewN n := by
  obtain ⟨⟨k0, k1, k2, k3, k4, k5, k6, k7, k8, k9, k10, k11, k12⟩, kf⟩ := cells13 h.blk
  obtain ⟨a, cap, rfl, h1, h2, h3, hi⟩ := h.row.shape
  have hlen := h.len
  have e1 : (all.length : Int) - (s.done : Int) = (s.tags.length : Int) := by omega
  clear kf hlen
  go_enter Try.func53, Try.ntmps53
  go_wp2
  go_quiet (fail)
  go_wp2
  go_ret
  exact ⟨nq, rfl, rfl⟩

theorem own_drew {w : World} {base : Nat} {e : TypeId} {size : Nat} {v : Value} {n : Nat} {xs : List Value} (h : w.ownsRow base e size v n xs) : w.drew.ownsRow base e size v n xs := h
/-- One append of one frame that lies in block b, in a region that draws. -/
theorem step_app3 (w : World) {ops : Array Oper} {o : Oper} {a : Act} {K : Act → World → Prop} {Q : Exit → Act → World → Prop} {E : Prop} (hgd : o.guard = none) (s x : Operand)
    (ho : o.op = .call { callee := .builtin .append, args := #[s, x], argTypes := #[45, 45] })
    (base : Nat) (av : Option Addr) (n cap : Nat) (S : Triples) (hn : S.length = n) (c d f : Int) (hs : a.eval s = .slice av n cap) (hown : w.ownsRow base 49 3 (.slice av n cap) n (flat3 .i64 .u32 .i64 S))
    (b : Nat) (hx : a.eval x = .slice (some ⟨b, 0, none⟩) 1 1) (hb : w.heap[b]? = some (.cells #[.int .i64 c, .int .u32 d, .int .i64 f] 49 (0, 0))) (hl : n ≤ 1048576) (hbase : base ≤ w.heap.size)
    (h : ∀ g cap' w', w'.ownsRow base 49 3 (.slice (some ⟨g, 0, none⟩) (n + 1) cap') (n + 1) (flat3 .i64 .u32 .i64 (S ++ [(c, d, f)])) → w.grownBy w' (Value.slice av n cap).ownBlock → K (a.put o.dst (.slice (some ⟨g, 0, none⟩) (n + 1) cap')) w') :
    if Region.wanted o (yielded ops a.tmps) = true then Oper.wp Try.prog o a w K Q else E := by
  obtain ⟨i0, hi, hz0, hz1, hz2⟩ := info_parts info_sf
  refine step_append_lies w hgd s x 45 ho base 49 i0 (.agg #[.int .i64 0, .int .u32 0, .int .i64 0]) 3 24 Try.underlying45 hi hz0 hz1 hz2 rfl (by decide) (.slice av n cap) n (flat3 .i64 .u32 .i64 S) hs hown ⟨b, 0, none⟩ 1 1 [.int .i64 c, .int .u32 d, .int .i64 f] hx rfl (World.news_of_block (cs := #[.int .i64 c, .int .u32 d, .int .i64 f]) hb) (by intro u hu; simp at hu; rcases hu with rfl | rfl | rfl <;> rfl) (by omega) (by unfold maxLen; omega) (by omega) hbase w.heap.size rfl ?_
  intro g cap' w' h2 h3 _ _
  exact h g cap' w' (by rw [flat3_append, flat3_one]; exact h2) h3

set_option maxHeartbeats 2000000 in
set_option maxRecDepth 100000 in
theorem l4Again_any (B base : Nat) (c : Cf) (s : St) (v : Value) (all : List Int) (w : World) (h : SpAt w B base c s v all) (hl : all.length ≤ 1000000) (hi0 : 0 ≤ c.isn ∧ c.isn ≤ 4294967295) :
    Calls Try.prog 70 #[.pointer (some ⟨B, 0, none⟩)] w fun e w' => ∃ av cp, e = .returned (.slice av s.tags.length cp) ∧ w'.ownsRow w.heap.size 49 3 (.slice av s.tags.length cp) s.tags.length (flat3 .i64 .u32 .i64 (againF c s.done s.tags)) ∧ Below w.heap.size w w' := by
  obtain ⟨⟨k0, k1, k2, k3, k4, k5, k6, k7, k8, k9, k10, k11, k12⟩, kf⟩ := cells13 h.blk
  obtain ⟨a, cap, rfl, h1, h2, h3, hi⟩ := h.row.shape
  have hB := h.lt
  have HLEN : Hid (all.length = s.done + s.tags.length) := h.len
  have HTG : Hid (s.tags = all.drop s.done) := h.tg
  clear kf
  obtain ⟨L, hL⟩ : ∃ L, Hid (L = all.length) := ⟨_, rfl⟩
  obtain ⟨m, hm⟩ : ∃ m, Hid (m = s.tags.length) := ⟨_, rfl⟩
  have hLm : L = s.done + m := by rw [hL.out, hm.out]; exact HLEN.out
  have hL5 : L ≤ 1000000 := by rw [hL.out]; exact hl
  have HLM : Hid (L = s.done + m) := hLm
  rw [← hL.out] at k6 h1 hl
  rw [← hm.out]
  clear hLm
  obtain ⟨i0, hi2, hz0, hz1, hz2⟩ := info_parts info_sf
  have hmade : (w.alloc (.cells #[] 49)).ownsRow w.heap.size 49 3 (.slice (some ⟨w.heap.size, 0, none⟩) 0 0) 0 (flat3 .i64 .u32 .i64 (againF c s.done (s.tags.take 0))) := World.ownsRow_made w #[] 0 (Nat.le_refl _) (by unfold maxLen; omega) rfl
  go_enter Try.func70, Try.ntmps70
  go_wp2
  go_loopw [3, 4] (fun v i wr => ∃ (k : Nat) (av : Option Addr) (cp : Nat), k ≤ m ∧ i = .int .i64 ((s.done + k : Nat) : Int) ∧ v = .slice av k cp ∧ wr.ownsRow w.heap.size 49 3 (.slice av k cp) k (flat3 .i64 .u32 .i64 (againF c s.done (s.tags.take k))) ∧ Below w.heap.size w wr) (fun _ i _ => L - (intOf i).toNat)
  case atStart => exact ⟨0, _, _, Nat.zero_le _, by simp, rfl, hmade, (Below.refl _ _).alloc (Nat.le_refl _) _⟩
  case round =>
    clear hmade
    obtain ⟨k, av, cp, hk, rfl, rfl, hown, hbr⟩ := hrel
    have k0r : wr.cell? ⟨B, 0, none⟩ = some (.int .u32 c.isn) := by rw [hbr.cell hB]; exact k0
    have k6r : wr.cell? ⟨B, 6, none⟩ = some (.slice a L cap) := by rw [hbr.cell hB]; exact k6
    by_cases hlt : k < m
    · rcases hi with h0 | ⟨b, off, rfl, hc⟩
      · have := hL.out; have := HLM.out; simp [h0] at *; omega
      have hck := hc (s.done + k) (by have := hL.out; have := HLM.out; omega)
      obtain ⟨t, ht⟩ : ∃ t, Hid (all.getD (s.done + k) 0 = t) := ⟨_, rfl⟩
      have htg : Hid (s.tags.getD k 0 = t) := by unfold Hid; rw [← ht.out, HTG.out, List.getD_eq_getElem?_getD, List.getD_eq_getElem?_getD, List.getElem?_drop]
      rw [ht.out] at hck
      have hltb : b < w.heap.size := World.block_lt_of_cell? w _ hck
      have hcr : wr.cell? ⟨b, off + (s.done + k), none⟩ = some (.int .i64 t) := by rw [hbr.cell hltb]; exact hck
      obtain ⟨q2, hq2⟩ : ∃ q2, Hid (q2 = seqOf c (s.done + k)) := ⟨_, rfl⟩
      have hsq : (c.isn + ((s.done + k : Nat) : Int)) % 4294967296 = q2 := by rw [hq2.out]; rfl
      obtain ⟨S, hS⟩ : ∃ S, Hid (S = againF c s.done (s.tags.take k)) := ⟨_, rfl⟩
      rw [← hS.out] at hown
      have hSl : Hid (S.length = k) := by unfold Hid; rw [hS.out, againF_length]; have := hm.out; simp; omega
      have hS2 : Hid (againF c s.done (s.tags.take (k + 1)) = S ++ [(2, q2, t)]) := by unfold Hid; rw [againF_take c s.done s.tags k (by have := hm.out; omega), ← hS.out, ← hq2.out, htg.out]
      have hszr := hbr.size
      obtain ⟨D, hD⟩ : ∃ D, D = s.done + k := ⟨_, rfl⟩
      rw [← hD] at hcr hsq hck ⊢
      have hDL : (D : Int) < (L : Int) := by have := HLM.out; omega
      have hD0 : (0 : Int) ≤ (D : Int) := by omega
      have hDb : D < 1000000 := by have := HLM.out; omega
      have hk5 : k ≤ 1000000 := by have := HLM.out; omega
      have HDD : Hid (D = s.done + k) := hD
      clear hc hck k6 k0 hD
      have hsz4 : w.heap.size ≤ (wr.alloc (.cells #[.int .i64 2, .int .u32 q2, .int .i64 t] 49)).drew.heap.size := by
        have h9 : (wr.alloc (.cells #[.int .i64 2, .int .u32 q2, .int .i64 t] 49)).drew.heap.size = wr.heap.size + 1 := by simp
        omega
      have hw1 : IntKind.u32.wrap (D : Int) = (D : Int) := by rw [IntKind.wrap_u32]; omega
      have hw2 : IntKind.u32.wrap (c.isn + (D : Int)) = q2 := by rw [IntKind.wrap_u32]; exact hsq
      have hown9 : (wr.alloc (.cells #[.int .i64 2, .int .u32 q2, .int .i64 t] 49)).drew.ownsRow w.heap.size 49 3 (.slice av k cp) k (flat3 .i64 .u32 .i64 S) := own_drew (own_alloc hown _)
      have hnb9 : (wr.alloc (.cells #[.int .i64 2, .int .u32 q2, .int .i64 t] 49)).drew.heap[wr.heap.size]? = some (.cells #[.int .i64 2, .int .u32 q2, .int .i64 t] 49) := box_new wr _ _ rfl
      have hk9 : k ≤ 1048576 := by omega
      have hbz9 : Below w.heap.size w (wr.alloc (.cells #[.int .i64 2, .int .u32 q2, .int .i64 t] 49)).drew := (hbr.alloc hszr _).drew
      have hSS : Hid (∀ W : World, Below w.heap.size w W → (fun w' => w'.cell? ⟨B, 0, none⟩ = some (.int .u32 c.isn) ∧ w'.cell? ⟨B, 6, none⟩ = some (.slice (some ⟨b, off, none⟩) L cap) ∧ w'.cell? ⟨b, off + D, none⟩ = some (.int .i64 t)) W) := by
        unfold Hid
        intro W hW
        refine ⟨?_, ?_, ?_⟩
        · rw [hW.cell hB, ← hbr.cell hB]; exact k0r
        · rw [hW.cell hB, ← hbr.cell hB]; exact k6r
        · rw [hW.cell hltb, ← hbr.cell hltb]; exact hcr
      go_wp2
      go_region_held3 (fun w' => w'.cell? ⟨B, 0, none⟩ = some (.int .u32 c.isn) ∧ w'.cell? ⟨B, 6, none⟩ = some (.slice (some ⟨b, off, none⟩) L cap) ∧ w'.cell? ⟨b, off + D, none⟩ = some (.int .i64 t))
        (first | (go_keep; done) | exact ⟨by assumption, by assumption, by assumption⟩)
        (first | (refine step_app3 (wr.alloc (.cells #[.int .i64 2, .int .u32 q2, .int .i64 t] 49)).drew (by rfl) _ _ (by rfl) w.heap.size av k cp S hSl.out 2 q2 t (by rfl) hown9 wr.heap.size (by rfl) hnb9 hk9 hsz4 ?_; intro g4 c4 w4 ho4 hg4; have hb4 := hbz9.grown hg4 hsz4 (fun k' hk' => (hown.lt k' hk').1); obtain ⟨l1, l2, l3⟩ := hSS.out w4 hb4))
      go_wp2
      go_roundw
      case rel => exact ⟨k + 1, _, _, by omega, by rw [HDD.out]; go_num, rfl, by rw [hS2.out]; exact ho4, hb4⟩
      case measure => simp [intOf]; omega
    · obtain rfl : k = m := by omega
      have hge : ¬ ((s.done + k : Nat) : Int) < (L : Int) := by have := HLM.out; omega
      obtain ⟨D, hD⟩ : ∃ D, D = s.done + k := ⟨_, rfl⟩
      rw [← hD] at hge ⊢
      clear hD
      go_wp2
      go_ret
      exact ⟨av, cp, rfl, by rw [show s.tags.take k = s.tags by rw [List.take_of_length_le (by have := hm.out; omega)]] at hown; exact hown, hbr⟩
end Go.Proofs.Ytincfdhfoaimbaa
