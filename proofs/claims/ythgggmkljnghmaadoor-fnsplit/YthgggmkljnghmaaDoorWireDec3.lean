import Derived.Test.YthgggmkljnghmaaDoorWireDec2
import Derived.Defers
import Derived.Recover
import Derived.Laws.Pointers
namespace Go.Proofs.YthgggmkljnghmaaDoor
open Go.ChangeShapes Go.WideShapes Go.ChangeAt Go.RowKit
set_option linter.unusedVariables false

theorem block6 {w : World} {R : Nat} {t : TypeId} {v0 v1 v2 v3 v4 v5 u0 u1 u2 u3 u4 u5 : Value} (h : w.heap[R]? = some (.cells #[v0, v1, v2, v3, v4, v5] t)) :
    ((((((w.setCell ⟨R, 0, none⟩ u0).setCell ⟨R, 1, none⟩ u1).setCell ⟨R, 2, none⟩ u2).setCell ⟨R, 3, none⟩ u3).setCell ⟨R, 4, none⟩ u4).setCell ⟨R, 5, none⟩ u5).heap[R]? = some (.cells #[u0, u1, u2, u3, u4, u5] t) := by
  have h0 : (w.setCell ⟨R, 0, none⟩ u0).heap[R]? = some (.cells #[u0, v1, v2, v3, v4, v5] t) := Go.Joins.block_setCell h u0
  have h1 : ((w.setCell ⟨R, 0, none⟩ u0).setCell ⟨R, 1, none⟩ u1).heap[R]? = some (.cells #[u0, u1, v2, v3, v4, v5] t) := Go.Joins.block_setCell h0 u1
  have h2 : (((w.setCell ⟨R, 0, none⟩ u0).setCell ⟨R, 1, none⟩ u1).setCell ⟨R, 2, none⟩ u2).heap[R]? = some (.cells #[u0, u1, u2, v3, v4, v5] t) := Go.Joins.block_setCell h1 u2
  have h3 : ((((w.setCell ⟨R, 0, none⟩ u0).setCell ⟨R, 1, none⟩ u1).setCell ⟨R, 2, none⟩ u2).setCell ⟨R, 3, none⟩ u3).heap[R]? = some (.cells #[u0, u1, u2, u3, v4, v5] t) := Go.Joins.block_setCell h2 u3
  have h4 : (((((w.setCell ⟨R, 0, none⟩ u0).setCell ⟨R, 1, none⟩ u1).setCell ⟨R, 2, none⟩ u2).setCell ⟨R, 3, none⟩ u3).setCell ⟨R, 4, none⟩ u4).heap[R]? = some (.cells #[u0, u1, u2, u3, u4, v5] t) := Go.Joins.block_setCell h3 u4
  exact Go.Joins.block_setCell h4 u5
theorem other6 {w : World} {R K : Nat} {u0 u1 u2 u3 u4 u5 : Value} (h : K ≠ R) :
    ((((((w.setCell ⟨R, 0, none⟩ u0).setCell ⟨R, 1, none⟩ u1).setCell ⟨R, 2, none⟩ u2).setCell ⟨R, 3, none⟩ u3).setCell ⟨R, 4, none⟩ u4).setCell ⟨R, 5, none⟩ u5).heap[K]? = w.heap[K]? := by
  rw [heap_setCell_other _ _ _ _ (by simpa using h), heap_setCell_other _ _ _ _ (by simpa using h), heap_setCell_other _ _ _ _ (by simpa using h), heap_setCell_other _ _ _ _ (by simpa using h), heap_setCell_other _ _ _ _ (by simpa using h), heap_setCell_other _ _ _ _ (by simpa using h)]

theorem assertFault (v : Value) (w : World) : (Instr.typeAssert (.iface 70 v) 20 49 true).run Tryd.prog w = .ok (.tuple #[.iface 70 v, .bool true]) w := by kernel_rfl
theorem assertNil (w : World) : (Instr.typeAssert .nilIface 20 49 true).run Tryd.prog w = .ok (.tuple #[.nilIface, .bool false]) w := by kernel_rfl

set_option maxHeartbeats 400000 in
set_option maxRecDepth 100000 in
theorem catch_panicking (R K : Nat) (c : Int) (v0 v1 v2 v3 v4 v5 u : Value) (w : World) (hg : Laid w) (older : List PanicEntry)
    (hR : w.heap[R]? = some (.cells #[v0, v1, v2, v3, v4, v5] 30)) (hK : w.heap[K]? = some (.cells #[u] 2)) (hRK : R ≠ K) :
    CallsD Tryd.prog 35 #[.pointer (some ⟨R, 0, none⟩), .pointer (some ⟨K, 0, none⟩)] (.panicking ({ v := .iface 70 (.agg #[.int .i64 c]), recovered := false } :: older)) w fun e u' w' =>
      e = .returned (.tuple #[]) ∧ u' = .panicking ({ v := .iface 70 (.agg #[.int .i64 c]), recovered := true } :: older) ∧
      w'.heap[R]? = some (.cells #[.int .i64 0, .int .i64 0, .int .u32 0, .int .u64 0, .int .i64 0, .slice none 0 0] 30) ∧ w'.heap[K]? = some (.cells #[.int .i64 c] 2) ∧ ∀ B, B ≤ R → B ≤ K → Below B w w' := by
  refine callsD_of_wpS Tryd.func35 rfl fun c₀ cs hu => ?_
  apply wpS_seq
  apply wpS_region
  simp [wpOpsS, go_sem, recoverD, hu, Tryd.ntmps35, Exit.thenS, assertFault, Oper.upon, Act.put]
  have hRl : R < w.heap.size := (Array.getElem?_eq_some_iff.1 hR).1
  have hKl : K < w.heap.size := (Array.getElem?_eq_some_iff.1 hK).1
  refine wpS_of_wp ?_
  generalize hT : (HAppend.hAppend _ _ : Array Value) = T
  have hT' : T = #[.pointer (some ⟨R, 0, none⟩), .pointer (some ⟨K, 0, none⟩), .iface 70 (.agg #[.int .i64 c]), .bool true, .tuple #[.iface 70 (.agg #[.int .i64 c]), .bool true], .iface 70 (.agg #[.int .i64 c]), .tuple #[.iface 70 (.agg #[.int .i64 c]), .bool true], .iface 70 (.agg #[.int .i64 c]), .bool true, undef, undef, undef, undef] := by rw [← hT]; first | kernel_rfl | simp [Array.replicate]
  subst hT'
  clear hT
  go_wp2_with fail
  refine (codeOf_fault c w hg).mono ?_
  rintro e w1 ⟨rfl, hb1⟩
  have u1 := (hb1.block R hRl).trans hR
  have u2 := (hb1.block K hKl).trans hK
  obtain ⟨⟨s0, s1, s2, s3, s4, s5⟩, sf⟩ := six_at u1
  have sf0 := sf 0
  have sf1 := sf 1
  have sf2 := sf 2
  have sf3 := sf 3
  have sf4 := sf 4
  have sf5 := sf 5
  have cK : w1.cell? ⟨K, 0, none⟩ = some u := Go.Joins.cell_of_block u2 0
  have fK := Go.Joins.unfrozen_of_block u2 0
  have hKR : K ≠ R := fun h => hRK h.symm
  clear sf
  go_wp2
  simp only [bodyPostS, results, Tryd.results35]
  have k1 : (((((((w1.setCell ⟨R, 0, none⟩ (.int .i64 0)).setCell ⟨R, 1, none⟩ (.int .i64 0)).setCell ⟨R, 2, none⟩ (.int .u32 0)).setCell ⟨R, 3, none⟩ (.int .u64 0)).setCell ⟨R, 4, none⟩ (.int .i64 0)).setCell ⟨R, 5, none⟩ (.slice none 0 0)).setCell ⟨K, 0, none⟩ (.int .i64 c)).heap[R]? = some (.cells #[.int .i64 0, .int .i64 0, .int .u32 0, .int .u64 0, .int .i64 0, .slice none 0 0] 30) := by
    rw [heap_setCell_other _ _ _ _ (by simpa using hRK)]
    exact block6 u1
  have k2 : (((((((w1.setCell ⟨R, 0, none⟩ (.int .i64 0)).setCell ⟨R, 1, none⟩ (.int .i64 0)).setCell ⟨R, 2, none⟩ (.int .u32 0)).setCell ⟨R, 3, none⟩ (.int .u64 0)).setCell ⟨R, 4, none⟩ (.int .i64 0)).setCell ⟨R, 5, none⟩ (.slice none 0 0)).setCell ⟨K, 0, none⟩ (.int .i64 c)).heap[K]? = some (.cells #[.int .i64 c] 2) := by
    rw [Go.Joins.block_setCell ((other6 hKR).trans u2)]
    rfl
  have k3 : ∀ B, B ≤ R → B ≤ K → Below B w (((((((w1.setCell ⟨R, 0, none⟩ (.int .i64 0)).setCell ⟨R, 1, none⟩ (.int .i64 0)).setCell ⟨R, 2, none⟩ (.int .u32 0)).setCell ⟨R, 3, none⟩ (.int .u64 0)).setCell ⟨R, 4, none⟩ (.int .i64 0)).setCell ⟨R, 5, none⟩ (.slice none 0 0)).setCell ⟨K, 0, none⟩ (.int .i64 c)) :=
    fun B h1 h2 => (set6r (hb1.mono (by omega)) h1).setCell h2 _
  exact ⟨trivial, _, rfl, .tuple #[], by simp, rfl, rfl, k1, k2, k3⟩

set_option maxHeartbeats 400000 in
set_option maxRecDepth 100000 in
theorem catch_idle (R K : Nat) (w : World) :
    CallsD Tryd.prog 35 #[.pointer (some ⟨R, 0, none⟩), .pointer (some ⟨K, 0, none⟩)] .returning w fun e u' w' => e = .returned (.tuple #[]) ∧ u' = .returning ∧ w' = w := by
  refine callsD_of_wpS Tryd.func35 rfl fun c₀ cs hu => ?_
  apply wpS_seq
  apply wpS_region
  simp [wpOpsS, go_sem, recoverD, hu, Tryd.ntmps35, Exit.thenS, assertNil, Oper.upon, Act.put]
  apply wpS_seq
  apply wpS_region
  simp [wpOpsS, go_sem, Exit.thenS, Oper.upon, Act.put]
  refine wpS_cond (t := false) (by first | kernel_rfl | simp [Act.eval, Array.replicate]) ?_
  simp only [Bool.false_eq_true, if_false]
  refine wpS_of_wp (wp_skip ?_)
  cases c₀
  simp_all [bodyPostS, results, Tryd.results35]

def SumOk (zs : List Int) : Prop := fld zs (18 + szOf zs) 4 = crcOf (zs.take (18 + szOf zs))
def Fine (zs : List Int) : Prop := fld zs 0 1 = 213 ∧ Valid (fld zs 1 1) (fld zs 2 1) (fld zs 4 4) (fld zs 8 8) (fld zs 16 2) (szOf zs)
/-- The bytes are no frame, and c is the code that says so. -/
def Bad (zs : List Int) (c : Int) : Prop := (zs.length ≠ 22 + szOf zs ∧ c = 2) ∨ (zs.length = 22 + szOf zs ∧ ¬ SumOk zs ∧ c = 3) ∨ (zs.length = 22 + szOf zs ∧ SumOk zs ∧ ¬ Fine zs ∧ c = 1)
def Good (zs : List Int) : Prop := zs.length = 22 + szOf zs ∧ SumOk zs ∧ Fine zs
/-- The frame that the bytes hold, its payload at av. -/
def frameAt (zs : List Int) (av : Option Addr) (cp : Nat) : Value := .agg #[.int .i64 (fld zs 1 1), .int .i64 (fld zs 2 1), .int .u32 (fld zs 4 4), .int .u64 (fld zs 8 8), .int .i64 (fld zs 16 2), .slice av (szOf zs) cp]
def zeroFrame : Value := .agg #[.int .i64 0, .int .i64 0, .int .u32 0, .int .u64 0, .int .i64 0, .slice none 0 0]

def Decodes (zs : List Int) (w : World) (e : Ending) (w' : World) : Prop :=
  Below w.heap.size w w' ∧ ((∃ c, Bad zs c ∧ e = .returned (.tuple #[zeroFrame, .int .i64 c])) ∨
    (Good zs ∧ ∃ av cp, w'.ownsRow w.heap.size 5 1 (.slice av (szOf zs) cp) (szOf zs) (((zs.drop 18).take (szOf zs)).map (.int .u8)) ∧ e = .returned (.tuple #[frameAt zs av cp, .int .i64 0])))

set_option maxHeartbeats 2000000 in
set_option maxRecDepth 100000 in
theorem implDecode (a : Option Addr) (zs : List Int) (L cap : Nat) (w : World) (hg : Laid w) (hz : Ints .u8 w a zs) (hL : zs.length = L) (hzv : ∀ x ∈ zs, 0 ≤ x ∧ x ≤ 255) (hno : a = none → cap = 0) (hcap : L ≤ cap) (hl : L ≤ 1048576) :
    Calls Tryd.prog 18 #[.slice a L cap] w (Decodes zs w) := by
  have hmf : ∀ (fn : Fn) (first cap : Array Value) (w : World), (Instr.makeFunc fn first cap).run Tryd.prog w = .ok (.func fn first cap) w := fun _ _ _ _ => rfl
  obtain ⟨W, hW⟩ : ∃ W, W = (w.alloc (.cells #[.int .i64 0, .int .i64 0, .int .u32 0, .int .u64 0, .int .i64 0, .slice none 0 0] 30)).alloc (.cells #[.int .i64 0] 2) := ⟨_, rfl⟩
  have hb0 : Below w.heap.size w W := by rw [hW]; exact ((Below.refl _ _).alloc (Nat.le_refl _) _).alloc (by simp) _
  have hsW : W.heap.size = w.heap.size + 2 := by rw [hW]; simp
  have hR0 : W.heap[w.heap.size]? = some (.cells #[.int .i64 0, .int .i64 0, .int .u32 0, .int .u64 0, .int .i64 0, .slice none 0 0] 30) := by rw [hW]; exact (Below.heap_alloc _ _ _ (by simp)).trans (alloc_block _ _ _ rfl)
  have hK0 : W.heap[w.heap.size + 1]? = some (.cells #[.int .i64 0] 2) := by rw [hW]; exact alloc_block _ _ _ (by simp)
  have hgW := hg.moved hb0
  have hzW := hz.moved hb0
  go_enter_defers Tryd.func18, Tryd.ntmps18
  go_wp2_with fail
  rw [← hW]
  clear hW
  refine (readFrame_any a zs L cap W hzW hL hzv hno hcap hl).mono ?_
  rintro e w1 ⟨hB1, h⟩
  have hR1 := (hB1.block _ (by omega)).trans hR0
  have hK1 := (hB1.block _ (by omega)).trans hK0
  have hg1 := hgW.moved hB1
  have hBw : Below w.heap.size w w1 := hb0.trans (hB1.mono hb0.size)
  obtain ⟨⟨r0, r1, r2, r3, r4, r5⟩, rf⟩ := six_at hR1
  have rf0 := rf 0
  have rf1 := rf 1
  have rf2 := rf 2
  have rf3 := rf 3
  have rf4 := rf 4
  have rf5 := rf 5
  have cK : w1.cell? ⟨w.heap.size + 1, 0, none⟩ = some (.int .i64 0) := Go.Joins.cell_of_block hK1 0
  have fK := Go.Joins.unfrozen_of_block hK1 0
  clear rf hR0 hK0 hgW hzW
  rcases h with ⟨hlt, rfl⟩ | ⟨hgt, rfl⟩ | ⟨heq, hsum, rfl⟩ | ⟨heq, hsum, hmg, rfl⟩ | ⟨heq, hsum, hmg, av, cp, ho, ⟨hv, rfl⟩ | ⟨hv, rfl⟩⟩
  · refine leaves_cons (f := 35) (args := #[.pointer (some ⟨w.heap.size, 0, none⟩), .pointer (some ⟨w.heap.size + 1, 0, none⟩)]) (by simp) (by simp [go_sem]) ?_
    refine (catch_panicking w.heap.size (w.heap.size + 1) 2 _ _ _ _ _ _ _ w1 hg1 [] hR1 hK1 (by omega)).mono ?_
    rintro e u' w2 ⟨rfl, rfl, k1, k2, k3⟩
    obtain ⟨⟨s0, s1, s2, s3, s4, s5⟩, _⟩ := six_at k1
    have sK : w2.cell? ⟨w.heap.size + 1, 0, none⟩ = some (.int .i64 2) := Go.Joins.cell_of_block k2 0
    have hfin : Decodes zs w (.returned (.tuple #[zeroFrame, .int .i64 2])) w2 := ⟨hBw.trans (k3 _ (Nat.le_refl _) (by omega)), .inl ⟨2, .inl ⟨by omega, rfl⟩, rfl⟩⟩
    unfold zeroFrame at hfin
    simpa [Leaves, settle, results, Tryd.results18, go_sem, s0, s1, s2, s3, s4, s5, sK] using hfin
  · obtain ⟨V, hV⟩ : ∃ V, V = w1.alloc (.cells #[.int .i64 0, .int .i64 0, .int .u32 0, .int .u64 0, .int .i64 0, .slice none 0 0] 30) := ⟨_, rfl⟩
    have hbV : Below w1.heap.size w1 V := by rw [hV]; exact (Below.refl _ _).alloc (Nat.le_refl _) _
    go_wp2_with fail
    rw [← hV]
    refine (codeOf_fault 2 V (hg1.moved hbV)).mono ?_
    rintro e w3 ⟨rfl, hb3⟩
    have hb13 := hbV.trans (hb3.mono hbV.size)
    have hR3 := (hb13.block _ (World.block_lt_of_cell? w1 _ r0)).trans hR1
    have hK3 := (hb13.block _ (World.block_lt_of_cell? w1 _ cK)).trans hK1
    clear hV r0 r1 r2 r3 r4 r5 rf0 rf1 rf2 rf3 rf4 rf5 cK fK
    obtain ⟨⟨r0, r1, r2, r3, r4, r5⟩, rf⟩ := six_at hR3
    have rf0 := rf 0
    have rf1 := rf 1
    have rf2 := rf 2
    have rf3 := rf 3
    have rf4 := rf 4
    have rf5 := rf 5
    have cK : w3.cell? ⟨w.heap.size + 1, 0, none⟩ = some (.int .i64 0) := Go.Joins.cell_of_block hK3 0
    have fK := Go.Joins.unfrozen_of_block hK3 0
    clear rf
    go_wp2
    refine leaves_cons (f := 35) (args := #[.pointer (some ⟨w.heap.size, 0, none⟩), .pointer (some ⟨w.heap.size + 1, 0, none⟩)]) (by simp) (by simp [go_sem]) ?_
    refine (catch_idle w.heap.size (w.heap.size + 1) _).mono ?_
    rintro e u' w4 ⟨rfl, rfl, hw4⟩
    have k1 : w4.heap[w.heap.size]? = some (.cells #[.int .i64 0, .int .i64 0, .int .u32 0, .int .u64 0, .int .i64 0, .slice none 0 0] 30) := by rw [hw4, heap_setCell_other _ _ _ _ (by simp)]; exact block6 hR3
    have k2 : w4.heap[w.heap.size + 1]? = some (.cells #[.int .i64 2] 2) := by rw [hw4, Go.Joins.block_setCell ((other6 (by omega)).trans hK3)]; rfl
    have k3 : Below w.heap.size w w4 := by rw [hw4]; exact (set6r (hBw.trans (hb13.mono hBw.size)) (Nat.le_refl _)).setCell (show w.heap.size ≤ w.heap.size + 1 by omega) _
    clear hw4
    obtain ⟨⟨s0, s1, s2, s3, s4, s5⟩, _⟩ := six_at k1
    have sK : w4.cell? ⟨w.heap.size + 1, 0, none⟩ = some (.int .i64 2) := Go.Joins.cell_of_block k2 0
    have hfin : Decodes zs w (.returned (.tuple #[zeroFrame, .int .i64 2])) w4 := ⟨k3, .inl ⟨2, .inl ⟨by omega, rfl⟩, rfl⟩⟩
    unfold zeroFrame at hfin
    simpa [Leaves, settle, results, Tryd.results18, go_sem, s0, s1, s2, s3, s4, s5, sK] using hfin
  · obtain ⟨V, hV⟩ : ∃ V, V = w1.alloc (.cells #[.int .i64 0, .int .i64 0, .int .u32 0, .int .u64 0, .int .i64 0, .slice none 0 0] 30) := ⟨_, rfl⟩
    have hbV : Below w1.heap.size w1 V := by rw [hV]; exact (Below.refl _ _).alloc (Nat.le_refl _) _
    go_wp2_with fail
    rw [← hV]
    refine (codeOf_fault 3 V (hg1.moved hbV)).mono ?_
    rintro e w3 ⟨rfl, hb3⟩
    have hb13 := hbV.trans (hb3.mono hbV.size)
    have hR3 := (hb13.block _ (World.block_lt_of_cell? w1 _ r0)).trans hR1
    have hK3 := (hb13.block _ (World.block_lt_of_cell? w1 _ cK)).trans hK1
    clear hV r0 r1 r2 r3 r4 r5 rf0 rf1 rf2 rf3 rf4 rf5 cK fK
    obtain ⟨⟨r0, r1, r2, r3, r4, r5⟩, rf⟩ := six_at hR3
    have rf0 := rf 0
    have rf1 := rf 1
    have rf2 := rf 2
    have rf3 := rf 3
    have rf4 := rf 4
    have rf5 := rf 5
    have cK : w3.cell? ⟨w.heap.size + 1, 0, none⟩ = some (.int .i64 0) := Go.Joins.cell_of_block hK3 0
    have fK := Go.Joins.unfrozen_of_block hK3 0
    clear rf
    go_wp2
    refine leaves_cons (f := 35) (args := #[.pointer (some ⟨w.heap.size, 0, none⟩), .pointer (some ⟨w.heap.size + 1, 0, none⟩)]) (by simp) (by simp [go_sem]) ?_
    refine (catch_idle w.heap.size (w.heap.size + 1) _).mono ?_
    rintro e u' w4 ⟨rfl, rfl, hw4⟩
    have k1 : w4.heap[w.heap.size]? = some (.cells #[.int .i64 0, .int .i64 0, .int .u32 0, .int .u64 0, .int .i64 0, .slice none 0 0] 30) := by rw [hw4, heap_setCell_other _ _ _ _ (by simp)]; exact block6 hR3
    have k2 : w4.heap[w.heap.size + 1]? = some (.cells #[.int .i64 3] 2) := by rw [hw4, Go.Joins.block_setCell ((other6 (by omega)).trans hK3)]; rfl
    have k3 : Below w.heap.size w w4 := by rw [hw4]; exact (set6r (hBw.trans (hb13.mono hBw.size)) (Nat.le_refl _)).setCell (show w.heap.size ≤ w.heap.size + 1 by omega) _
    clear hw4
    obtain ⟨⟨s0, s1, s2, s3, s4, s5⟩, _⟩ := six_at k1
    have sK : w4.cell? ⟨w.heap.size + 1, 0, none⟩ = some (.int .i64 3) := Go.Joins.cell_of_block k2 0
    have hfin : Decodes zs w (.returned (.tuple #[zeroFrame, .int .i64 3])) w4 := ⟨k3, .inl ⟨3, .inr (.inl ⟨heq, hsum, rfl⟩), rfl⟩⟩
    unfold zeroFrame at hfin
    simpa [Leaves, settle, results, Tryd.results18, go_sem, s0, s1, s2, s3, s4, s5, sK] using hfin
  · obtain ⟨V, hV⟩ : ∃ V, V = w1.alloc (.cells #[.int .i64 0, .int .i64 0, .int .u32 0, .int .u64 0, .int .i64 0, .slice none 0 0] 30) := ⟨_, rfl⟩
    have hbV : Below w1.heap.size w1 V := by rw [hV]; exact (Below.refl _ _).alloc (Nat.le_refl _) _
    go_wp2_with fail
    rw [← hV]
    refine (codeOf_fault 1 V (hg1.moved hbV)).mono ?_
    rintro e w3 ⟨rfl, hb3⟩
    have hb13 := hbV.trans (hb3.mono hbV.size)
    have hR3 := (hb13.block _ (World.block_lt_of_cell? w1 _ r0)).trans hR1
    have hK3 := (hb13.block _ (World.block_lt_of_cell? w1 _ cK)).trans hK1
    clear hV r0 r1 r2 r3 r4 r5 rf0 rf1 rf2 rf3 rf4 rf5 cK fK
    obtain ⟨⟨r0, r1, r2, r3, r4, r5⟩, rf⟩ := six_at hR3
    have rf0 := rf 0
    have rf1 := rf 1
    have rf2 := rf 2
    have rf3 := rf 3
    have rf4 := rf 4
    have rf5 := rf 5
    have cK : w3.cell? ⟨w.heap.size + 1, 0, none⟩ = some (.int .i64 0) := Go.Joins.cell_of_block hK3 0
    have fK := Go.Joins.unfrozen_of_block hK3 0
    clear rf
    go_wp2
    refine leaves_cons (f := 35) (args := #[.pointer (some ⟨w.heap.size, 0, none⟩), .pointer (some ⟨w.heap.size + 1, 0, none⟩)]) (by simp) (by simp [go_sem]) ?_
    refine (catch_idle w.heap.size (w.heap.size + 1) _).mono ?_
    rintro e u' w4 ⟨rfl, rfl, hw4⟩
    have k1 : w4.heap[w.heap.size]? = some (.cells #[.int .i64 0, .int .i64 0, .int .u32 0, .int .u64 0, .int .i64 0, .slice none 0 0] 30) := by rw [hw4, heap_setCell_other _ _ _ _ (by simp)]; exact block6 hR3
    have k2 : w4.heap[w.heap.size + 1]? = some (.cells #[.int .i64 1] 2) := by rw [hw4, Go.Joins.block_setCell ((other6 (by omega)).trans hK3)]; rfl
    have k3 : Below w.heap.size w w4 := by rw [hw4]; exact (set6r (hBw.trans (hb13.mono hBw.size)) (Nat.le_refl _)).setCell (show w.heap.size ≤ w.heap.size + 1 by omega) _
    clear hw4
    obtain ⟨⟨s0, s1, s2, s3, s4, s5⟩, _⟩ := six_at k1
    have sK : w4.cell? ⟨w.heap.size + 1, 0, none⟩ = some (.int .i64 1) := Go.Joins.cell_of_block k2 0
    have hfin : Decodes zs w (.returned (.tuple #[zeroFrame, .int .i64 1])) w4 := ⟨k3, .inl ⟨1, .inr (.inr ⟨heq, hsum, fun h => hmg h.1, rfl⟩), rfl⟩⟩
    unfold zeroFrame at hfin
    simpa [Leaves, settle, results, Tryd.results18, go_sem, s0, s1, s2, s3, s4, s5, sK] using hfin
  · obtain ⟨V, hV⟩ : ∃ V, V = w1.alloc (.cells #[.int .i64 (fld zs 1 1), .int .i64 (fld zs 2 1), .int .u32 (fld zs 4 4), .int .u64 (fld zs 8 8), .int .i64 (fld zs 16 2), .slice av (szOf zs) cp] 30) := ⟨_, rfl⟩
    have hbV : Below w1.heap.size w1 V := by rw [hV]; exact (Below.refl _ _).alloc (Nat.le_refl _) _
    have hR3 := (hbV.block _ (World.block_lt_of_cell? w1 _ r0)).trans hR1
    have hK3 := (hbV.block _ (World.block_lt_of_cell? w1 _ cK)).trans hK1
    rw [hV] at hR3 hK3
    clear r0 r1 r2 r3 r4 r5 rf0 rf1 rf2 rf3 rf4 rf5 cK fK
    obtain ⟨⟨r0, r1, r2, r3, r4, r5⟩, rf⟩ := six_at hR3
    have rf0 := rf 0
    have rf1 := rf 1
    have rf2 := rf 2
    have rf3 := rf 3
    have rf4 := rf 4
    have rf5 := rf 5
    have cK : (w1.alloc (.cells #[.int .i64 (fld zs 1 1), .int .i64 (fld zs 2 1), .int .u32 (fld zs 4 4), .int .u64 (fld zs 8 8), .int .i64 (fld zs 16 2), .slice av (szOf zs) cp] 30)).cell? ⟨w.heap.size + 1, 0, none⟩ = some (.int .i64 0) := Go.Joins.cell_of_block hK3 0
    have fK := Go.Joins.unfrozen_of_block hK3 0
    clear rf
    go_wp2
    refine leaves_cons (f := 35) (args := #[.pointer (some ⟨w.heap.size, 0, none⟩), .pointer (some ⟨w.heap.size + 1, 0, none⟩)]) (by simp) (by simp [go_sem]) ?_
    refine (catch_idle w.heap.size (w.heap.size + 1) _).mono ?_
    rintro e u' w4 ⟨rfl, rfl, hw4⟩
    have k1 : w4.heap[w.heap.size]? = some (.cells #[.int .i64 (fld zs 1 1), .int .i64 (fld zs 2 1), .int .u32 (fld zs 4 4), .int .u64 (fld zs 8 8), .int .i64 (fld zs 16 2), .slice av (szOf zs) cp] 30) := by rw [hw4, heap_setCell_other _ _ _ _ (by simp)]; exact block6 hR3
    have k2 : w4.heap[w.heap.size + 1]? = some (.cells #[.int .i64 0] 2) := by rw [hw4, Go.Joins.block_setCell ((other6 (by omega)).trans hK3)]; rfl
    have k3 : Below w.heap.size w w4 := by rw [hw4]; exact (set6r (hBw.alloc hBw.size _) (Nat.le_refl _)).setCell (show w.heap.size ≤ w.heap.size + 1 by omega) _
    have k4 : w4.ownsRow w.heap.size 5 1 (.slice av (szOf zs) cp) (szOf zs) (((zs.drop 18).take (szOf zs)).map (.int .u8)) := by rw [hw4]; exact owned_base (own_set (own6r (owned_kept ho ((Below.refl _ _).alloc (Nat.le_refl _) _)) (by omega)) (by omega)) (by omega)
    clear hw4
    obtain ⟨⟨s0, s1, s2, s3, s4, s5⟩, _⟩ := six_at k1
    have sK : w4.cell? ⟨w.heap.size + 1, 0, none⟩ = some (.int .i64 0) := Go.Joins.cell_of_block k2 0
    have hfin : Decodes zs w (.returned (.tuple #[frameAt zs av cp, .int .i64 0])) w4 := ⟨k3, .inr ⟨⟨heq, hsum, hmg, hv⟩, av, cp, k4, rfl⟩⟩
    unfold frameAt at hfin
    simpa [Leaves, settle, results, Tryd.results18, go_sem, s0, s1, s2, s3, s4, s5, sK] using hfin
  · obtain ⟨V, hV⟩ : ∃ V, V = w1.alloc (.cells #[.int .i64 (fld zs 1 1), .int .i64 (fld zs 2 1), .int .u32 (fld zs 4 4), .int .u64 (fld zs 8 8), .int .i64 (fld zs 16 2), .slice av (szOf zs) cp] 30) := ⟨_, rfl⟩
    have hbV : Below w1.heap.size w1 V := by rw [hV]; exact (Below.refl _ _).alloc (Nat.le_refl _) _
    go_wp2_with fail
    rw [← hV]
    refine (codeOf_fault 1 V (hg1.moved hbV)).mono ?_
    rintro e w3 ⟨rfl, hb3⟩
    have hb13 := hbV.trans (hb3.mono hbV.size)
    have hR3 := (hb13.block _ (World.block_lt_of_cell? w1 _ r0)).trans hR1
    have hK3 := (hb13.block _ (World.block_lt_of_cell? w1 _ cK)).trans hK1
    clear hV r0 r1 r2 r3 r4 r5 rf0 rf1 rf2 rf3 rf4 rf5 cK fK
    obtain ⟨⟨r0, r1, r2, r3, r4, r5⟩, rf⟩ := six_at hR3
    have rf0 := rf 0
    have rf1 := rf 1
    have rf2 := rf 2
    have rf3 := rf 3
    have rf4 := rf 4
    have rf5 := rf 5
    have cK : w3.cell? ⟨w.heap.size + 1, 0, none⟩ = some (.int .i64 0) := Go.Joins.cell_of_block hK3 0
    have fK := Go.Joins.unfrozen_of_block hK3 0
    clear rf
    go_wp2
    refine leaves_cons (f := 35) (args := #[.pointer (some ⟨w.heap.size, 0, none⟩), .pointer (some ⟨w.heap.size + 1, 0, none⟩)]) (by simp) (by simp [go_sem]) ?_
    refine (catch_idle w.heap.size (w.heap.size + 1) _).mono ?_
    rintro e u' w4 ⟨rfl, rfl, hw4⟩
    have k1 : w4.heap[w.heap.size]? = some (.cells #[.int .i64 0, .int .i64 0, .int .u32 0, .int .u64 0, .int .i64 0, .slice none 0 0] 30) := by rw [hw4, heap_setCell_other _ _ _ _ (by simp)]; exact block6 hR3
    have k2 : w4.heap[w.heap.size + 1]? = some (.cells #[.int .i64 1] 2) := by rw [hw4, Go.Joins.block_setCell ((other6 (by omega)).trans hK3)]; rfl
    have k3 : Below w.heap.size w w4 := by rw [hw4]; exact (set6r (hBw.trans (hb13.mono hBw.size)) (Nat.le_refl _)).setCell (show w.heap.size ≤ w.heap.size + 1 by omega) _
    clear hw4
    obtain ⟨⟨s0, s1, s2, s3, s4, s5⟩, _⟩ := six_at k1
    have sK : w4.cell? ⟨w.heap.size + 1, 0, none⟩ = some (.int .i64 1) := Go.Joins.cell_of_block k2 0
    have hfin : Decodes zs w (.returned (.tuple #[zeroFrame, .int .i64 1])) w4 := ⟨k3, .inl ⟨1, .inr (.inr ⟨heq, hsum, fun h => hv h.2, rfl⟩), rfl⟩⟩
    unfold zeroFrame at hfin
    simpa [Leaves, settle, results, Tryd.results18, go_sem, s0, s1, s2, s3, s4, s5, sK] using hfin
end Go.Proofs.YthgggmkljnghmaaDoor
