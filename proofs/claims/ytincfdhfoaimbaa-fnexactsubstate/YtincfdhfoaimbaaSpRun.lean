import Derived.Test.YtincfdhfoaimbaaSpOuts
namespace Go.Proofs.Ytincfdhfoaimbaa
open Go.ChangeShapes Go.WideShapes Go.ChangeAt Go.RowKit
set_option linter.unusedVariables false

theorem l4Begin_any (c : Cf) (w : World) : Calls Try.prog 52 #[cfV c] w fun e w' => e = .returned (.agg #[.int .u32 c.isn, .int .i64 c.win, .int .i64 c.rto, .int .i64 c.mrto, .int .i64 c.da, .int .i64 c.pe, .slice none 0 0, .int .i64 0, .int .i64 0, .int .i64 c.rto, .int .i64 0, .int .i64 0, .bool false]) ∧ Below w.heap.size w w' := by
  go_enter Try.func52, Try.ntmps52
  go_wp2
  exact bodyPost_ret (v := .agg #[.int .u32 c.isn, .int .i64 c.win, .int .i64 c.rto, .int .i64 c.mrto, .int .i64 c.da, .int .i64 c.pe, .slice none 0 0, .int .i64 0, .int .i64 0, .int .i64 c.rto, .int .i64 0, .int .i64 0, .bool false]) (by simp [results, Try.results52, go_sem]) rfl ⟨rfl, ((Below.refl _ _).alloc (Nat.le_refl _) _).alloc (by simp) _⟩

set_option maxHeartbeats 1000000 in
set_option maxRecDepth 100000 in
theorem l4Run_bad (c : Cf) (hc : ¬ c.Ok) (a : Option Addr) (n cap : Nat) (w : World) :
    Calls Try.prog 40 #[cfV c, .slice a n cap] w fun e w' => e = .returned (.tuple #[.agg #[.int .u32 0, .int .i64 0, .int .i64 0, .int .i64 0, .int .i64 0, .int .i64 0, .slice none 0 0, .int .i64 0, .int .i64 0, .int .i64 0, .int .i64 0, .int .i64 0, .bool false], .slice none 0 0, .int .i64 17]) ∧ Below w.heap.size w w' := by
  have hc' : ¬ OkL c.win c.rto c.mrto c.da c.pe := fun h => hc ((ok_l c).2 h)
  have hb0 : Below w.heap.size w ((w.alloc (.cells #[.int .u32 c.isn, .int .i64 c.win, .int .i64 c.rto, .int .i64 c.mrto, .int .i64 c.da, .int .i64 c.pe] 35)).alloc (.cells #[.int .u32 0, .int .i64 0, .int .i64 0, .int .i64 0, .int .i64 0, .int .i64 0, .slice none 0 0, .int .i64 0, .int .i64 0, .int .i64 0, .int .i64 0, .int .i64 0, .bool false] 85)) := ((Below.refl _ _).alloc (Nat.le_refl _) _).alloc (by simp) _
  have hR0 : ((w.alloc (.cells #[.int .u32 c.isn, .int .i64 c.win, .int .i64 c.rto, .int .i64 c.mrto, .int .i64 c.da, .int .i64 c.pe] 35)).alloc (.cells #[.int .u32 0, .int .i64 0, .int .i64 0, .int .i64 0, .int .i64 0, .int .i64 0, .slice none 0 0, .int .i64 0, .int .i64 0, .int .i64 0, .int .i64 0, .int .i64 0, .bool false] 85)).heap[w.heap.size + 1]? = some (.cells #[.int .u32 0, .int .i64 0, .int .i64 0, .int .i64 0, .int .i64 0, .int .i64 0, .slice none 0 0, .int .i64 0, .int .i64 0, .int .i64 0, .int .i64 0, .int .i64 0, .bool false] 85) := box_new _ _ _ (by simp)
  have hC0 : ((w.alloc (.cells #[.int .u32 c.isn, .int .i64 c.win, .int .i64 c.rto, .int .i64 c.mrto, .int .i64 c.da, .int .i64 c.pe] 35)).alloc (.cells #[.int .u32 0, .int .i64 0, .int .i64 0, .int .i64 0, .int .i64 0, .int .i64 0, .slice none 0 0, .int .i64 0, .int .i64 0, .int .i64 0, .int .i64 0, .int .i64 0, .bool false] 85)).heap[w.heap.size]? = some (.cells #[.int .u32 c.isn, .int .i64 c.win, .int .i64 c.rto, .int .i64 c.mrto, .int .i64 c.da, .int .i64 c.pe] 35) := (Below.heap_alloc _ _ _ (by simp)).trans (box_new _ _ _ rfl)
  have hz0 : w.heap.size + 1 < ((w.alloc (.cells #[.int .u32 c.isn, .int .i64 c.win, .int .i64 c.rto, .int .i64 c.mrto, .int .i64 c.da, .int .i64 c.pe] 35)).alloc (.cells #[.int .u32 0, .int .i64 0, .int .i64 0, .int .i64 0, .int .i64 0, .int .i64 0, .slice none 0 0, .int .i64 0, .int .i64 0, .int .i64 0, .int .i64 0, .int .i64 0, .bool false] 85)).heap.size := by simp
  go_enter Try.func40, Try.ntmps40
  go_wp2_with fail
  refine (l4_no c.isn c.win c.rto c.mrto c.da c.pe _ hc').mono ?_
  rintro e w1 ⟨rfl, hb1⟩
  have hR1 := (hb1.block _ hz0).trans hR0
  have hbw := hb0.trans (hb1.mono hb0.size)
  obtain ⟨⟨k0, k1, k2, k3, k4, k5, k6, k7, k8, k9, k10, k11, k12⟩, kf⟩ := cells13 hR1
  have f0 := kf 0
  have f1 := kf 1
  have f2 := kf 2
  have f3 := kf 3
  have f4 := kf 4
  have f5 := kf 5
  have f6 := kf 6
  have f7 := kf 7
  have f8 := kf 8
  have f9 := kf 9
  have f10 := kf 10
  have f11 := kf 11
  have f12 := kf 12
  clear kf
  have hZ := put13_block hR1 (.int .u32 0) (.int .i64 0) (.int .i64 0) (.int .i64 0) (.int .i64 0) (.int .i64 0) (.slice none 0 0) (.int .i64 0) (.int .i64 0) (.int .i64 0) (.int .i64 0) (.int .i64 0) (.bool false)
  obtain ⟨⟨z0, z1, z2, z3, z4, z5, z6, z7, z8, z9, z10, z11, z12⟩, _⟩ := cells13 hZ
  go_wp2
  exact bodyPost_ret (v := .tuple #[.agg #[.int .u32 0, .int .i64 0, .int .i64 0, .int .i64 0, .int .i64 0, .int .i64 0, .slice none 0 0, .int .i64 0, .int .i64 0, .int .i64 0, .int .i64 0, .int .i64 0, .bool false], .slice none 0 0, .int .i64 17]) (by simp [results, Try.results40, go_sem, z0, z1, z2, z3, z4, z5, z6, z7, z8, z9, z10, z11, z12]) rfl ⟨rfl, put13_below hbw _ (by omega) _ _ _ _ _ _ _ _ _ _ _ _ _⟩

set_option maxHeartbeats 1000000 in
set_option maxRecDepth 100000 in
theorem l4Run_limit (c : Cf) (hc : c.Ok) (a : Option Addr) (n cap : Nat) (w : World) (hl : 4000 < n) :
    Calls Try.prog 40 #[cfV c, .slice a n cap] w fun e w' => e = .returned (.tuple #[.agg #[.int .u32 0, .int .i64 0, .int .i64 0, .int .i64 0, .int .i64 0, .int .i64 0, .slice none 0 0, .int .i64 0, .int .i64 0, .int .i64 0, .int .i64 0, .int .i64 0, .bool false], .slice none 0 0, .int .i64 5]) ∧ Below w.heap.size w w' := by
  have hc' : OkL c.win c.rto c.mrto c.da c.pe := (ok_l c).1 hc
  have hd : decide ((4000 : Int) < (n : Int)) = true := by simp; omega
  have hb0 : Below w.heap.size w ((w.alloc (.cells #[.int .u32 c.isn, .int .i64 c.win, .int .i64 c.rto, .int .i64 c.mrto, .int .i64 c.da, .int .i64 c.pe] 35)).alloc (.cells #[.int .u32 0, .int .i64 0, .int .i64 0, .int .i64 0, .int .i64 0, .int .i64 0, .slice none 0 0, .int .i64 0, .int .i64 0, .int .i64 0, .int .i64 0, .int .i64 0, .bool false] 85)) := ((Below.refl _ _).alloc (Nat.le_refl _) _).alloc (by simp) _
  have hR0 : ((w.alloc (.cells #[.int .u32 c.isn, .int .i64 c.win, .int .i64 c.rto, .int .i64 c.mrto, .int .i64 c.da, .int .i64 c.pe] 35)).alloc (.cells #[.int .u32 0, .int .i64 0, .int .i64 0, .int .i64 0, .int .i64 0, .int .i64 0, .slice none 0 0, .int .i64 0, .int .i64 0, .int .i64 0, .int .i64 0, .int .i64 0, .bool false] 85)).heap[w.heap.size + 1]? = some (.cells #[.int .u32 0, .int .i64 0, .int .i64 0, .int .i64 0, .int .i64 0, .int .i64 0, .slice none 0 0, .int .i64 0, .int .i64 0, .int .i64 0, .int .i64 0, .int .i64 0, .bool false] 85) := box_new _ _ _ (by simp)
  have hC0 : ((w.alloc (.cells #[.int .u32 c.isn, .int .i64 c.win, .int .i64 c.rto, .int .i64 c.mrto, .int .i64 c.da, .int .i64 c.pe] 35)).alloc (.cells #[.int .u32 0, .int .i64 0, .int .i64 0, .int .i64 0, .int .i64 0, .int .i64 0, .slice none 0 0, .int .i64 0, .int .i64 0, .int .i64 0, .int .i64 0, .int .i64 0, .bool false] 85)).heap[w.heap.size]? = some (.cells #[.int .u32 c.isn, .int .i64 c.win, .int .i64 c.rto, .int .i64 c.mrto, .int .i64 c.da, .int .i64 c.pe] 35) := (Below.heap_alloc _ _ _ (by simp)).trans (box_new _ _ _ rfl)
  have hz0 : w.heap.size + 1 < ((w.alloc (.cells #[.int .u32 c.isn, .int .i64 c.win, .int .i64 c.rto, .int .i64 c.mrto, .int .i64 c.da, .int .i64 c.pe] 35)).alloc (.cells #[.int .u32 0, .int .i64 0, .int .i64 0, .int .i64 0, .int .i64 0, .int .i64 0, .slice none 0 0, .int .i64 0, .int .i64 0, .int .i64 0, .int .i64 0, .int .i64 0, .bool false] 85)).heap.size := by simp
  go_enter Try.func40, Try.ntmps40
  go_wp2_with fail
  refine (l4_yes c.isn c.win c.rto c.mrto c.da c.pe _ hc').mono ?_
  rintro e w1 ⟨rfl, hb1⟩
  have hR1 := (hb1.block _ hz0).trans hR0
  have hbw := hb0.trans (hb1.mono hb0.size)
  obtain ⟨⟨k0, k1, k2, k3, k4, k5, k6, k7, k8, k9, k10, k11, k12⟩, kf⟩ := cells13 hR1
  have f0 := kf 0
  have f1 := kf 1
  have f2 := kf 2
  have f3 := kf 3
  have f4 := kf 4
  have f5 := kf 5
  have f6 := kf 6
  have f7 := kf 7
  have f8 := kf 8
  have f9 := kf 9
  have f10 := kf 10
  have f11 := kf 11
  have f12 := kf 12
  clear kf
  have hZ := put13_block hR1 (.int .u32 0) (.int .i64 0) (.int .i64 0) (.int .i64 0) (.int .i64 0) (.int .i64 0) (.slice none 0 0) (.int .i64 0) (.int .i64 0) (.int .i64 0) (.int .i64 0) (.int .i64 0) (.bool false)
  obtain ⟨⟨z0, z1, z2, z3, z4, z5, z6, z7, z8, z9, z10, z11, z12⟩, _⟩ := cells13 hZ
  go_wp2
  exact bodyPost_ret (v := .tuple #[.agg #[.int .u32 0, .int .i64 0, .int .i64 0, .int .i64 0, .int .i64 0, .int .i64 0, .slice none 0 0, .int .i64 0, .int .i64 0, .int .i64 0, .int .i64 0, .int .i64 0, .bool false], .slice none 0 0, .int .i64 5]) (by simp [results, Try.results40, go_sem, z0, z1, z2, z3, z4, z5, z6, z7, z8, z9, z10, z11, z12]) rfl ⟨rfl, put13_below hbw _ (by omega) _ _ _ _ _ _ _ _ _ _ _ _ _⟩

set_option maxHeartbeats 2000000 in
set_option maxRecDepth 100000 in
theorem l4Run_ok (c : Cf) (hc : c.Ok) (hi : 0 ≤ c.isn ∧ c.isn ≤ 4294967295) (a : Option Addr) (es : Triples) (n cap : Nat) (w : World) (hn : es.length = n) (hl : n ≤ 4000) (hx : ∀ e ∈ es, 0 ≤ e.2.2 ∧ e.2.2 ≤ 4294967295) (hz : Lie3 .i64 .i64 .u32 w a es) :
    Calls Try.prog 40 #[cfV c, .slice a n cap] w fun e w' => ∃ av cp v all G, e = .returned (.tuple #[.agg (spCells c (stAt c es) v), .slice av n cp, .int .i64 0]) ∧ Tags w' w.heap.size v all ∧ (all.length = (stAt c es).done + (stAt c es).tags.length ∧ (stAt c es).tags = all.drop (stAt c es).done) ∧ OutsS w' w.heap.size v (.slice av n cp) G ∧ G.map (·.1) = outsF c (startF c) es ∧ Below w.heap.size w w' := by
  have hc' : OkL c.win c.rto c.mrto c.da c.pe := (ok_l c).1 hc
  have hd4 : decide ((4000 : Int) < (n : Int)) = false := by simp; omega
  have hb0 : Below w.heap.size w ((w.alloc (.cells #[.int .u32 c.isn, .int .i64 c.win, .int .i64 c.rto, .int .i64 c.mrto, .int .i64 c.da, .int .i64 c.pe] 35)).alloc (.cells #[.int .u32 0, .int .i64 0, .int .i64 0, .int .i64 0, .int .i64 0, .int .i64 0, .slice none 0 0, .int .i64 0, .int .i64 0, .int .i64 0, .int .i64 0, .int .i64 0, .bool false] 85)) := ((Below.refl _ _).alloc (Nat.le_refl _) _).alloc (by simp) _
  have hR0 : ((w.alloc (.cells #[.int .u32 c.isn, .int .i64 c.win, .int .i64 c.rto, .int .i64 c.mrto, .int .i64 c.da, .int .i64 c.pe] 35)).alloc (.cells #[.int .u32 0, .int .i64 0, .int .i64 0, .int .i64 0, .int .i64 0, .int .i64 0, .slice none 0 0, .int .i64 0, .int .i64 0, .int .i64 0, .int .i64 0, .int .i64 0, .bool false] 85)).heap[w.heap.size + 1]? = some (.cells #[.int .u32 0, .int .i64 0, .int .i64 0, .int .i64 0, .int .i64 0, .int .i64 0, .slice none 0 0, .int .i64 0, .int .i64 0, .int .i64 0, .int .i64 0, .int .i64 0, .bool false] 85) := box_new _ _ _ (by simp)
  have hC0 : ((w.alloc (.cells #[.int .u32 c.isn, .int .i64 c.win, .int .i64 c.rto, .int .i64 c.mrto, .int .i64 c.da, .int .i64 c.pe] 35)).alloc (.cells #[.int .u32 0, .int .i64 0, .int .i64 0, .int .i64 0, .int .i64 0, .int .i64 0, .slice none 0 0, .int .i64 0, .int .i64 0, .int .i64 0, .int .i64 0, .int .i64 0, .bool false] 85)).heap[w.heap.size]? = some (.cells #[.int .u32 c.isn, .int .i64 c.win, .int .i64 c.rto, .int .i64 c.mrto, .int .i64 c.da, .int .i64 c.pe] 35) := (Below.heap_alloc _ _ _ (by simp)).trans (box_new _ _ _ rfl)
  have hz0 : w.heap.size + 1 < ((w.alloc (.cells #[.int .u32 c.isn, .int .i64 c.win, .int .i64 c.rto, .int .i64 c.mrto, .int .i64 c.da, .int .i64 c.pe] 35)).alloc (.cells #[.int .u32 0, .int .i64 0, .int .i64 0, .int .i64 0, .int .i64 0, .int .i64 0, .slice none 0 0, .int .i64 0, .int .i64 0, .int .i64 0, .int .i64 0, .int .i64 0, .bool false] 85)).heap.size := by simp
  go_enter Try.func40, Try.ntmps40
  go_wp2_with fail
  refine (l4_yes c.isn c.win c.rto c.mrto c.da c.pe _ hc').mono ?_
  rintro e w1 ⟨rfl, hb1⟩
  have hR1 := (hb1.block _ hz0).trans hR0
  have hC1 := (hb1.block _ (by omega)).trans hC0
  have hbw := hb0.trans (hb1.mono hb0.size)
  have c0 : w1.cell? ⟨w.heap.size, 0, none⟩ = some (.int .u32 c.isn) := Go.Joins.cell_of_block hC1 0
  have c1 : w1.cell? ⟨w.heap.size, 1, none⟩ = some (.int .i64 c.win) := Go.Joins.cell_of_block hC1 1
  have c2 : w1.cell? ⟨w.heap.size, 2, none⟩ = some (.int .i64 c.rto) := Go.Joins.cell_of_block hC1 2
  have c3 : w1.cell? ⟨w.heap.size, 3, none⟩ = some (.int .i64 c.mrto) := Go.Joins.cell_of_block hC1 3
  have c4 : w1.cell? ⟨w.heap.size, 4, none⟩ = some (.int .i64 c.da) := Go.Joins.cell_of_block hC1 4
  have c5 : w1.cell? ⟨w.heap.size, 5, none⟩ = some (.int .i64 c.pe) := Go.Joins.cell_of_block hC1 5
  go_wp2_with fail
  refine (l4Begin_any c w1).mono ?_
  rintro e w2 ⟨rfl, hb2⟩
  have s1 : w.heap.size + 1 < w1.heap.size := Nat.lt_of_lt_of_le hz0 hb1.size
  have hR2 := (hb2.block _ s1).trans hR1
  have hbw2 := hbw.trans (hb2.mono hbw.size)
  have s2 := hb2.size
  clear c0 c1 c2 c3 c4 c5 hC1 hC0
  obtain ⟨W3, hW3⟩ : ∃ W, W = w2.alloc (.cells #[.int .u32 c.isn, .int .i64 c.win, .int .i64 c.rto, .int .i64 c.mrto, .int .i64 c.da, .int .i64 c.pe, .slice none 0 0, .int .i64 0, .int .i64 0, .int .i64 c.rto, .int .i64 0, .int .i64 0, .bool false] 85) := ⟨_, rfl⟩
  have hb3 : Below w2.heap.size w2 W3 := by rw [hW3]; exact (Below.refl _ _).alloc (Nat.le_refl _) _
  have hB3 : W3.heap[w2.heap.size]? = some (.cells #[.int .u32 c.isn, .int .i64 c.win, .int .i64 c.rto, .int .i64 c.mrto, .int .i64 c.da, .int .i64 c.pe, .slice none 0 0, .int .i64 0, .int .i64 0, .int .i64 c.rto, .int .i64 0, .int .i64 0, .bool false] 85) := by rw [hW3]; exact box_new _ _ _ rfl
  have s3 : W3.heap.size = w2.heap.size + 1 := by rw [hW3]; simp
  have hS3 : SpAt W3 w2.heap.size W3.heap.size c (startF c) (.slice none 0 0) [] := ⟨by rw [hB3]; simp [spCells, startF], Tags.nil _ _, rfl, rfl, by simp [Value.ownBlock]⟩
  have hbw3 := hbw2.trans (hb3.mono hbw2.size)
  have sw := hbw2.size
  have hmade : (W3.alloc (.cells #[] 47)).ownsRow W3.heap.size 47 5 (.slice (some ⟨W3.heap.size, 0, none⟩) 0 0) 0 [] := World.ownsRow_made W3 #[] 0 (Nat.le_refl _) (by unfold maxLen; omega) rfl
  have hD0 : AllDoneS W3 w2.heap.size W3.heap.size c (es.take 0) (W3.alloc (.cells #[] 47)) (.slice none 0 0) (.slice (some ⟨W3.heap.size, 0, none⟩) 0 0) [] [] := ⟨hS3.moved ((Below.refl _ _).alloc (Nat.le_refl _) _), OutsS.start hmade, rfl, (Mv.refl _ _ _).alloc _⟩
  have HN : Hid (es.length = n) := hn
  have HZ : Hid _ := hz.moved hbw3
  have HZB : Hid (∀ b off, a = some ⟨b, off, none⟩ → 0 < es.length → b < w.heap.size) := by
    unfold Hid
    intro b off ha h0
    rcases hz with h | ⟨b2, off2, ha2, hc2⟩
    · simp [h] at h0
    · rw [ha] at ha2
      simp only [Option.some.injEq, Addr.mk.injEq, and_true] at ha2
      obtain ⟨rfl, rfl⟩ := ha2
      exact World.block_lt_of_cell? w _ (hc2 0 h0).1
  have HX : Hid _ := hx
  have HS3 : Hid (W3.heap.size = w2.heap.size + 1) := s3
  have s3' : w2.heap.size < W3.heap.size := by omega
  clear hn hx hz s3
  go_wp2_with fail
  go_loopw [8, 9] (fun ov i wr => ∃ (k : Nat) (av : Option Addr) (cp : Nat) (v : Value) (all : List Int) (G : Got), k ≤ n ∧ i = .int .i64 k ∧ ov = .slice av k cp ∧ G.length = k ∧ AllDoneS W3 w2.heap.size W3.heap.size c (es.take k) wr v (.slice av k cp) all G) (fun _ i _ => n - (intOf i).toNat)
  case atStart => rw [← hW3]; exact ⟨0, _, _, _, [], [], Nat.zero_le _, rfl, by rw [HS3.out], rfl, hD0⟩
  case round =>
    clear hW3 hD0 hmade hS3 hB3
    obtain ⟨k, av, cp, v, all, G, hk, rfl, rfl, hGk, hD⟩ := hrel
    by_cases hlt : k < n
    · have hkl : k < es.length := by have := HN.out; omega
      rcases HZ.out with h | ⟨b, off, rfl, hcz⟩
      · have := HN.out; simp [h] at this; omega
      obtain ⟨z1, z2, z3⟩ := hcz k hkl
      obtain ⟨⟨e1, e2, e3⟩, he⟩ : ∃ e, es[k] = e := ⟨_, rfl⟩
      rw [he] at z1 z2 z3
      have hxe := HX.out es[k] (List.getElem_mem hkl)
      rw [he] at hxe
      have hbw4 : b < W3.heap.size := World.block_lt_of_cell? W3 _ z1
      have hbB : b ≠ w2.heap.size := fun e => by
        have := HZB.out b off rfl (by omega)
        omega
      have hcell : ∀ j, wr.cell? ⟨b, j, none⟩ = W3.cell? ⟨b, j, none⟩ := fun j => World.cell?_of_block (hD.mv.block b hbw4 hbB (by simp))
      rw [← hcell] at z1 z2 z3
      have hgd : es.getD k (0, 0, 0) = (e1, e2, e3) := by rw [List.getD_eq_getElem?_getD, List.getElem?_eq_getElem hkl, he]; rfl
      have hSt := stAt_take c es k hkl
      have hOt := outsF_take c es k hkl
      rw [hgd] at hSt hOt
      have hgk := good_at hc (es.take k)
      have hln : (es.take k).length = k := by rw [List.length_take]; omega
      rw [hln] at hgk
      have hszr := hD.mv.size
      have hcl := l4Step_any w2.heap.size W3.heap.size c hc (stAt c (es.take k)) v all wr k hgk (by omega) hi hszr hD.snd e1 e2 e3 hxe.1 hxe.2
      obtain ⟨R, hR⟩ : ∃ R, R = stepF c (stAt c (es.take k)) (e1, e2, e3) := ⟨_, rfl⟩
      rw [← hR] at hcl hSt hOt
      have HST : Hid _ := hSt
      have HOT : Hid _ := hOt
      have HGK : Hid (G.length = k) := hGk
      clear hSt hOt hR hcz hcell hgd hgk hln hGk he
      have hltr : b < wr.heap.size := by omega
      go_wp2_with fail
      refine hcl.mono ?_
      rintro e w3 ⟨fv, ak, v', all', rfl, hs⟩
      obtain ⟨n1, n2, n3, n6⟩ := hD.outs.step hD.snd hszr hs
      have hM3 := hD.mv.trans hs.mv (.inr fun j hj => (hD.snd.row.lt hj).1)
      have hS3 := hs.snd
      obtain ⟨fa, fc, hfv⟩ := own_shape hs.fr
      obtain ⟨aa, ac, hav, _⟩ := hs.ak.shape
      rw [hfv, hav] at n2 n3 n6
      rw [hfv, hav]
      clear hfv hav hcl hs z1 z2 z3
      rw [HGK.out] at n1
      have hs3 := hM3.size
      have hnb : (w3.alloc (.cells #[.int .i64 R.1.code, .slice fa R.1.frames.length fc, .slice aa R.1.acked.length ac, .int .i64 R.1.died, .int .i64 R.1.revived] 47)).heap[w3.heap.size]? = some (.cells #[.int .i64 R.1.code, .slice fa R.1.frames.length fc, .slice aa R.1.acked.length ac, .int .i64 R.1.died, .int .i64 R.1.revived] 47) := box_new _ _ _ rfl
      go_wp2_with (at_builtin; refine wpList_app5 _ (by rfl) _ _ (by rfl) W3.heap.size av k cp (flatO G) (by rfl) (own_alloc n1 _) w3.heap.size _ _ _ _ _ (by rfl) hnb (by simp [Value.oneCell']) (by omega) (by simp; omega) ?_; intro g cap' w4 ho4 hg4)
      have hG1 : (G ++ [((R.1, Value.slice fa R.1.frames.length fc, Value.slice aa R.1.acked.length ac) : Ot × Value × Value)]).length = k + 1 := by rw [List.length_append, HGK.out]; rfl
      have hfl : flatO (G ++ [(R.1, Value.slice fa R.1.frames.length fc, Value.slice aa R.1.acked.length ac)]) = flatO G ++ [.int .i64 R.1.code, .slice fa R.1.frames.length fc, .slice aa R.1.acked.length ac, .int .i64 R.1.died, .int .i64 R.1.revived] := flatO_snoc G _
      have hP := OutsS.push (w := w3.alloc (.cells #[.int .i64 R.1.code, .slice fa R.1.frames.length fc, .slice aa R.1.acked.length ac, .int .i64 R.1.died, .int .i64 R.1.revived] 47)) (g := g) (cap := cap') (hS3.moved ((Below.refl _ _).alloc (Nat.le_refl _) _)) (own_alloc n1 _) (fun p hp => own_alloc (n2 p hp) _) (fun p hp => (n3 p hp).kept fun j hj => Below.heap_alloc _ _ _ ((n3 p hp).lt hj).2) n6 hg4 (by rw [hfl, hG1]; exact ho4)
      rw [hG1] at hP
      have hM4 := (hM3.alloc (.cells #[.int .i64 R.1.code, .slice fa R.1.frames.length fc, .slice aa R.1.acked.length ac, .int .i64 R.1.died, .int .i64 R.1.revived] 47)).grown hg4 (.inr (.inr fun j hj => (n1.lt j hj).1))
      go_roundw
      case rel =>
        refine ⟨k + 1, _, _, v', all', _, by omega, by go_num, rfl, hG1, ?_, hP.1, ?_, hM4⟩
        · rw [HST.out]
          exact hP.2
        · rw [HOT.out, List.map_append, hD.got]
          rfl
      case measure => simp [intOf]; omega
    · obtain rfl : k = n := by omega
      rw [List.take_of_length_le (by have := HN.out; omega)] at hD
      have hR4 := (hD.mv.block _ (by omega) (by omega) (by simp)).trans ((hb3.block _ (by omega)).trans hR2)
      have hb4 : Below w.heap.size w wr := ⟨hD.mv.os.trans hbw3.os, hD.mv.tape.trans hbw3.tape, hD.mv.output.trans hbw3.output, Nat.le_trans hbw3.size hD.mv.size, fun k hk => (hD.mv.block k (Nat.lt_of_lt_of_le hk hbw3.size) (by omega) (by simp)).trans (hbw3.block k hk)⟩
      obtain ⟨⟨k0, k1, k2, k3, k4, k5, k6, k7, k8, k9, k10, k11, k12⟩, _⟩ := cells13 hD.snd.blk
      obtain ⟨ta, tc, hv, t1, t2, t3, t4⟩ := hD.snd.row.shape
      obtain ⟨⟨r0, r1, r2, r3, r4, r5, r6, r7, r8, r9, r10, r11, r12⟩, kf⟩ := cells13 hR4
      have f0 := kf 0
      have f1 := kf 1
      have f2 := kf 2
      have f3 := kf 3
      have f4 := kf 4
      have f5 := kf 5
      have f6 := kf 6
      have f7 := kf 7
      have f8 := kf 8
      have f9 := kf 9
      have f10 := kf 10
      have f11 := kf 11
      have f12 := kf 12
      obtain ⟨L, hL⟩ : ∃ L, Hid (L = all.length) := ⟨_, rfl⟩
      rw [← hL.out] at hv t1
      have HV : Hid (v = .slice ta L tc) := hv
      rw [hv] at k6
      clear kf hv
      obtain ⟨s, hs⟩ : ∃ s, Hid (s = stAt c es) := ⟨_, rfl⟩
      rw [← hs.out] at k7 k8 k9 k10 k11 k12
      obtain ⟨sd, hsd⟩ : ∃ sd, Hid (sd = decide (s.dead = 1)) := ⟨_, rfl⟩
      rw [← hsd.out] at k12
      have hZ := put13_block hR4 (.int .u32 c.isn) (.int .i64 c.win) (.int .i64 c.rto) (.int .i64 c.mrto) (.int .i64 c.da) (.int .i64 c.pe) (.slice ta L tc) (.int .i64 s.done) (.int .i64 s.timer) (.int .i64 s.rto) (.int .i64 s.count) (.int .i64 s.probe) (.bool sd)
      have hO := put13_other wr (w.heap.size + 1) (.int .u32 c.isn) (.int .i64 c.win) (.int .i64 c.rto) (.int .i64 c.mrto) (.int .i64 c.da) (.int .i64 c.pe) (.slice ta L tc) (.int .i64 s.done) (.int .i64 s.timer) (.int .i64 s.rto) (.int .i64 s.count) (.int .i64 s.probe) (.bool sd)
      have hbZ := put13_below hb4 (w.heap.size + 1) (by omega) (.int .u32 c.isn) (.int .i64 c.win) (.int .i64 c.rto) (.int .i64 c.mrto) (.int .i64 c.da) (.int .i64 c.pe) (.slice ta L tc) (.int .i64 s.done) (.int .i64 s.timer) (.int .i64 s.rto) (.int .i64 s.count) (.int .i64 s.probe) (.bool sd)
      have m1 : ¬ w2.heap.size = w.heap.size + 1 := by omega
      have m2 : ¬ w.heap.size + 1 = w2.heap.size := by omega
      go_wp2
      obtain ⟨⟨z0, z1, z2, z3, z4, z5, z6, z7, z8, z9, z10, z11, z12⟩, _⟩ := cells13 hZ
      exact bodyPost_ret (v := .tuple #[.agg #[.int .u32 c.isn, .int .i64 c.win, .int .i64 c.rto, .int .i64 c.mrto, .int .i64 c.da, .int .i64 c.pe, .slice ta L tc, .int .i64 s.done, .int .i64 s.timer, .int .i64 s.rto, .int .i64 s.count, .int .i64 s.probe, .bool sd], .slice av k cp, .int .i64 0]) (by simp [results, Try.results40, go_sem, z0, z1, z2, z3, z4, z5, z6, z7, z8, z9, z10, z11, z12]) rfl
        ⟨av, cp, v, all, G, by rw [HV.out, hsd.out, hs.out], (hD.snd.row.kept fun k hk => hO k (by have := (hD.snd.row.lt hk).1; omega)).base (by omega), ⟨hD.snd.len, hD.snd.tg⟩, (hD.outs.same hO (by omega)).based (by omega), hD.got, hbZ⟩
end Go.Proofs.Ytincfdhfoaimbaa
