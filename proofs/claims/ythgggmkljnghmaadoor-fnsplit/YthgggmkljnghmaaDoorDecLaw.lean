import Derived.Test.YthgggmkljnghmaaDoorWireDec5
namespace Go.Proofs.YthgggmkljnghmaaDoor
open Go.ChangeShapes Go.WideShapes Go.ChangeAt Go.RowKit
set_option linter.unusedVariables false

set_option maxHeartbeats 4000000 in
theorem heldFrame_any (k p s o wd : Int) (a : Option Addr) (n cap : Nat) (w : World) (hS : Ints .u8 w a (markedB 1 n)) (hl : n ≤ 1048576) :
    Calls Tryd.prog 19 #[.agg #[.int .i64 k, .int .i64 p, .int .u32 s, .int .u64 o, .int .i64 wd, .slice a n cap], .int .i64 1] w fun e w' => e = .returned (.int .i64 (1 + (n : Int))) ∧ Below w.heap.size w w' := by
  have hb0 : Below w.heap.size w (w.alloc (.cells #[.int .i64 k, .int .i64 p, .int .u32 s, .int .u64 o, .int .i64 wd, .slice a n cap] 30)) := (Below.refl _ _).alloc (Nat.le_refl _) _
  have hS0 := hS.moved hb0
  go_enter Tryd.func19, Tryd.ntmps19
  go_wp2_with (go_at_call 15; refine (heldByteS_any a n cap 1 _ hS0 hl (by omega) (by omega)).mono ?_; rintro e w1 ⟨rfl, rfl⟩)
  go_ret
  exact ⟨rfl, hb0⟩

/-- At these bytes, wherever they lie, the function hands back a frame of these fields, its payload ys in a row of its own, and the code c. -/
def GivesF (fn : FuncId) (zs : List Int) (k p s o wd : Int) (ys : List Int) (c : Int) : Prop :=
  ∀ (a : Option Addr) (n cap : Nat) (w : World), zs.length = n → Ints .u8 w a zs → (a = none → cap = 0) → n ≤ cap → Laid w →
    Calls Tryd.prog fn #[.slice a n cap] w fun e w' => ∃ av cp, e = .returned (.tuple #[.agg #[.int .i64 k, .int .i64 p, .int .u32 s, .int .u64 o, .int .i64 wd, .slice av ys.length cp], .int .i64 c]) ∧
      w'.ownsRow w.heap.size 5 1 (.slice av ys.length cp) ys.length (ys.map (.int .u8)) ∧ Below w.heap.size w w'

theorem bad_one {zs : List Int} {c d : Int} (h : Bad zs c) (h' : Bad zs d) : c = d := by
  unfold Bad at h h'
  rcases h with ⟨a, rfl⟩ | ⟨a, b, rfl⟩ | ⟨a, b, b', rfl⟩ <;> rcases h' with ⟨a', rfl⟩ | ⟨a', e, rfl⟩ | ⟨a', e, e', rfl⟩ <;> first | rfl | (exfalso; first | exact a a' | exact a' a | exact b e | exact e b)
theorem bad_good {zs : List Int} {c : Int} (h : Bad zs c) (h' : Good zs) : False := by
  rcases h with ⟨a, _⟩ | ⟨_, b, _⟩ | ⟨_, _, b, _⟩
  · exact a h'.1
  · exact b h'.2.1
  · exact b h'.2.2
theorem bad_or_good (zs : List Int) : (∃ c, Bad zs c) ∨ Good zs := by
  by_cases h1 : zs.length = 22 + szOf zs
  · by_cases h2 : SumOk zs
    · by_cases h3 : Fine zs
      · exact .inr ⟨h1, h2, h3⟩
      · exact .inl ⟨1, .inr (.inr ⟨h1, h2, h3, rfl⟩)⟩
    · exact .inl ⟨3, .inr (.inl ⟨h1, h2, rfl⟩)⟩
  · exact .inl ⟨2, .inl ⟨h1, rfl⟩⟩

theorem givesF_bad {fn : FuncId} {zs : List Int} {c : Int} (hb : Bad zs c) (h : ∀ (a : Option Addr) (n cap : Nat) (w : World), zs.length = n → Ints .u8 w a zs → (a = none → cap = 0) → n ≤ cap → Laid w → Calls Tryd.prog fn #[.slice a n cap] w (Decodes zs w)) : GivesF fn zs 0 0 0 0 0 [] c := by
  intro a n cap w h1 h2 h3 h4 h5
  refine (h a n cap w h1 h2 h3 h4 h5).mono ?_
  rintro e w' ⟨hB, ⟨d, hd, rfl⟩ | ⟨hg, _⟩⟩
  · obtain rfl := bad_one hb hd
    exact ⟨none, 0, rfl, World.ownsRow_nil _ _ _ _, hB⟩
  · exact (bad_good hb hg).elim
theorem givesF_good {fn : FuncId} {zs : List Int} (hg : Good zs) (h : ∀ (a : Option Addr) (n cap : Nat) (w : World), zs.length = n → Ints .u8 w a zs → (a = none → cap = 0) → n ≤ cap → Laid w → Calls Tryd.prog fn #[.slice a n cap] w (Decodes zs w)) : GivesF fn zs (fld zs 1 1) (fld zs 2 1) (fld zs 4 4) (fld zs 8 8) (fld zs 16 2) ((zs.drop 18).take (szOf zs)) 0 := by
  intro a n cap w h1 h2 h3 h4 h5
  have hl : ((zs.drop 18).take (szOf zs)).length = szOf zs := by have := hg.1; simp; omega
  refine (h a n cap w h1 h2 h3 h4 h5).mono ?_
  rintro e w' ⟨hB, ⟨d, hd, rfl⟩ | ⟨_, av, cp, ho, rfl⟩⟩
  · exact (bad_good hd hg).elim
  · rw [hl]
    exact ⟨av, cp, rfl, ho, hB⟩

theorem bothDec (zs : List Int) (hl : zs.length ≤ 1048576) (hzv : ∀ x ∈ zs, 0 ≤ x ∧ x ≤ 255) :
    ∃ (k p s o wd : Int) (ys : List Int) (c : Int), ys.length ≤ 1048576 ∧ GivesF 16 zs k p s o wd ys c ∧ GivesF 18 zs k p s o wd ys c := by
  have hsp : ∀ (a : Option Addr) (n cap : Nat) (w : World), zs.length = n → Ints .u8 w a zs → (a = none → cap = 0) → n ≤ cap → Laid w → Calls Tryd.prog 16 #[.slice a n cap] w (Decodes zs w) := fun a n cap w h1 h2 h3 h4 h5 => specDecode a zs n cap w h2 h1 hzv h4 (by omega)
  have him : ∀ (a : Option Addr) (n cap : Nat) (w : World), zs.length = n → Ints .u8 w a zs → (a = none → cap = 0) → n ≤ cap → Laid w → Calls Tryd.prog 18 #[.slice a n cap] w (Decodes zs w) := fun a n cap w h1 h2 h3 h4 h5 => implDecode a zs n cap w h5 h2 h1 hzv h3 h4 (by omega)
  rcases bad_or_good zs with ⟨c, hc⟩ | hg
  · exact ⟨0, 0, 0, 0, 0, [], c, by simp, givesF_bad hc hsp, givesF_bad hc him⟩
  · exact ⟨_, _, _, _, _, _, 0, by simp; omega, givesF_good hg hsp, givesF_good hg him⟩

set_option maxHeartbeats 1600000 in
theorem lawDec (a : Option Addr) (zs : List Int) (n cap : Nat) (w : World) (hn : zs.length = n) (hz : Ints .u8 w a zs) (hzv : ∀ x ∈ zs, 0 ≤ x ∧ x ≤ 255) (hm : n ≤ 9223372036854775807) (hg : Laid w) :
    Calls Tryd.prog 4 #[.slice a n cap] w fun e w' => e = .returned (.bool true) ∧ Below w.heap.size w w' := by
  subst hn
  by_cases hl : zs.length ≤ 1048576
  · obtain ⟨k, p, s, o, wd, ys, c, hyl, hspec, himpl⟩ := bothDec zs hl hzv
    have HSP : Hid _ := hspec
    have HIM : Hid _ := himpl
    clear hspec himpl
    go_enter Tryd.func4, Tryd.ntmps4
    go_wp2_with fail
    refine (toByteS_any a zs cap w hz hl).mono ?_
    rintro e w1 ⟨rfl, ho1, hb1⟩
    go_wp2_with fail
    refine (HSP.out _ _ _ _ rfl (Ints.row ho1) (by simp) (Nat.le_refl _) (hg.moved hb1)).mono ?_
    rintro e w2 ⟨av0, cp0, rfl, hr0, hb2⟩
    have hB2 := hb1.trans (hb2.mono hb1.size)
    have hr0 := owned_base hr0 hb1.size
    have lt0 : ∀ k, (Value.slice av0 ys.length cp0).ownBlock = some k → k < w2.heap.size := fun k hk => (hr0.lt k hk).2
    have t2 := hB2.size
    clear ho1 hb1 hb2 HSP
    obtain ⟨V2, hV2⟩ : ∃ x, x = w2.alloc (.cells #[.int .i64 k, .int .i64 p, .int .u32 s, .int .u64 o, .int .i64 wd, .slice av0 ys.length cp0] 30) := ⟨_, rfl⟩
    have hbV : Below w2.heap.size w2 V2 := by rw [hV2]; exact (Below.refl _ _).alloc (Nat.le_refl _) _
    have hsV : w2.heap.size < V2.heap.size := by rw [hV2]; simp
    have bx0 : V2.heap[w2.heap.size]? = some (.cells #[.int .i64 k, .int .i64 p, .int .u32 s, .int .u64 o, .int .i64 wd, .slice av0 ys.length cp0] 30) := by rw [hV2]; exact alloc_block _ _ _ rfl
    have hBV := hB2.trans (hbV.mono hB2.size)
    have hr0 := owned_kept hr0 hbV
    clear hbV hB2
    go_wp2_with fail
    rw [← hV2]
    clear hV2
    refine (toByteS_any a zs cap V2 (hz.moved hBV) hl).mono ?_
    rintro e w3 ⟨rfl, ho3, hb3⟩
    have hB3 := hBV.trans (hb3.mono hBV.size)
    have bx0 := (hb3.block _ (by omega)).trans bx0
    have hr0 := owned_kept hr0 hb3
    have s3 : V2.heap.size < w3.heap.size := (ho3.lt _ rfl).2
    have t3 := hB3.size
    clear hb3 hBV
    go_wp2_with fail
    refine (HIM.out _ _ _ _ rfl (Ints.row ho3) (by simp) (Nat.le_refl _) (hg.moved hB3)).mono ?_
    rintro e w4 ⟨av1, cp1, rfl, hr1, hb4⟩
    have hB4 := hB3.trans (hb4.mono hB3.size)
    have bx0 := (hb4.block _ (by omega)).trans bx0
    have hr0 := owned_kept hr0 hb4
    have ho3 := owned_kept ho3 hb4
    have s4 := hb4.size
    have ge1 : ∀ k, (Value.slice av1 ys.length cp1).ownBlock = some k → w3.heap.size ≤ k := fun k hk => (hr1.lt k hk).1
    have lt1 : ∀ k, (Value.slice av1 ys.length cp1).ownBlock = some k → k < w4.heap.size := fun k hk => (hr1.lt k hk).2
    clear hb4 hB3
    obtain ⟨V4, hV4⟩ : ∃ x, x = w4.alloc (.cells #[.int .i64 k, .int .i64 p, .int .u32 s, .int .u64 o, .int .i64 wd, .slice av1 ys.length cp1] 30) := ⟨_, rfl⟩
    have hbV : Below w4.heap.size w4 V4 := by rw [hV4]; exact (Below.refl _ _).alloc (Nat.le_refl _) _
    have hsV4 : w4.heap.size < V4.heap.size := by rw [hV4]; simp
    have bx1 : V4.heap[w4.heap.size]? = some (.cells #[.int .i64 k, .int .i64 p, .int .u32 s, .int .u64 o, .int .i64 wd, .slice av1 ys.length cp1] 30) := by rw [hV4]; exact alloc_block _ _ _ rfl
    have bx0 := (hbV.block _ (by omega)).trans bx0
    have hB4 := hB4.trans (hbV.mono hB4.size)
    have hr0 := owned_kept hr0 hbV
    have ho3 := owned_kept ho3 hbV
    have hr1 := owned_kept hr1 hbV
    obtain ⟨⟨f0, f1, f2, f3, f4, f5⟩, _⟩ := six_at bx0
    obtain ⟨⟨g0, g1, g2, g3, g4, g5⟩, _⟩ := six_at bx1
    rw [hV4] at f0 f1 f2 f3 f4 f5 g0 g1 g2 g3 g4 g5
    go_wp2_with fail
    rw [← hV4]
    clear hV4 f0 f1 f2 f3 f4 f5 g0 g1 g2 g3 g4 g5 hbV
    refine (eqFrame_same k p s o wd _ _ ys ys.length _ _ _ (Ints.row hr1) (Ints.row hr0) rfl hyl).mono ?_
    rintro e w5 ⟨rfl, hb5⟩
    have bx0 := (hb5.block _ (by omega)).trans bx0
    have bx1 := (hb5.block _ (by omega)).trans bx1
    have hr0 := owned_kept hr0 hb5
    have ho3 := owned_kept ho3 hb5
    have hr1 := owned_kept hr1 hb5
    have hB5 := hB4.trans (hb5.mono hB4.size)
    have s5 := hb5.size
    clear hb5 hB4
    go_wp2_with fail
    refine (toByteS_any a zs cap w5 (hz.moved hB5) hl).mono ?_
    rintro e w6 ⟨rfl, ho6, hb6⟩
    have bx0 := (hb6.block _ (by omega)).trans bx0
    have bx1 := (hb6.block _ (by omega)).trans bx1
    have hr0 := owned_kept hr0 hb6
    have ho3 := owned_kept ho3 hb6
    have hr1 := owned_kept hr1 hb6
    have hB6 := hB5.trans (hb6.mono hB5.size)
    have s6 := hb6.size
    clear hb6 hB5
    go_wp2_with fail
    refine (eqByteS_same _ _ zs _ _ _ (Ints.row ho3) (Ints.row ho6) hl).mono ?_
    rintro e w7 ⟨rfl, hb7⟩
    have bx0 := (hb7.block _ (by omega)).trans bx0
    have bx1 := (hb7.block _ (by omega)).trans bx1
    have hr0 := owned_kept hr0 hb7
    have ho3 := owned_kept ho3 hb7
    have hr1 := owned_kept hr1 hb7
    have hB7 := hB6.trans (hb7.mono hB6.size)
    have s7 := hb7.size
    clear hb7 hB6
    clear ho6
    go_wp2_with fail
    refine (markByteS_any _ zs 1 _ _ _ rfl ho3 hl (by omega) (by omega)).mono ?_
    rintro e w8 ⟨rfl, ho8, hg8⟩
    have bx0 := (hg8.block _ (by omega) (by simp [Value.ownBlock]; omega)).trans bx0
    have bx1 := (hg8.block _ (by omega) (by simp [Value.ownBlock]; omega)).trans bx1
    have hr0 := kept_below (B := w2.heap.size) hr0 hg8 lt0 (fun k hk => by simp [Value.ownBlock] at hk; omega)
    have hr1 := kept_above (B := w3.heap.size) hr1 hg8 ge1 (fun k hk => by simp [Value.ownBlock] at hk; omega)
    have hB8 := below_grown hB7 ho3 hg8 (by omega) hB7.size
    have s8 := hg8.size
    clear hg8 hB7 ho3 ho8
    obtain ⟨⟨f0, f1, f2, f3, f4, f5⟩, _⟩ := six_at bx0
    obtain ⟨⟨g0, g1, g2, g3, g4, g5⟩, _⟩ := six_at bx1
    go_wp2_with fail
    clear f0 f1 f2 f3 f4 f5 g0 g1 g2 g3 g4 g5
    refine (eqFrame_same k p s o wd _ _ ys ys.length _ _ _ (Ints.row hr1) (Ints.row hr0) rfl hyl).mono ?_
    rintro e w9 ⟨rfl, hb9⟩
    have bx0 := (hb9.block _ (by omega)).trans bx0
    have bx1 := (hb9.block _ (by omega)).trans bx1
    have hr0 := owned_kept hr0 hb9
    have hr1 := owned_kept hr1 hb9
    have hB9 := hB8.trans (hb9.mono hB8.size)
    have s9 := hb9.size
    clear hb9 hB8
    obtain ⟨⟨g0, g1, g2, g3, g4, g5⟩, _⟩ := six_at bx1
    go_wp2_with fail
    clear g0 g1 g2 g3 g4 g5
    refine (markFrame_any k p s o wd _ ys ys.length _ _ rfl hr1 hyl).mono ?_
    rintro e w10 ⟨rfl, hr10, hg10⟩
    have bx0 := (hg10.block _ (by omega) (fun e => by have := ge1 _ e.symm; omega)).trans bx0
    have bx1 := (hg10.block _ (by omega) (fun e => by have := lt1 _ e.symm; omega)).trans bx1
    have hr0 := kept_below (B := w3.heap.size) hr0 hg10 (fun k hk => by have := lt0 k hk; omega) ge1
    have hB10 := below_grown hB9 hr1 hg10 t3 hB9.size
    have s10 := hg10.size
    clear hg10 hB9 hr1
    obtain ⟨⟨g0, g1, g2, g3, g4, g5⟩, _⟩ := six_at bx1
    go_wp2_with fail
    clear g0 g1 g2 g3 g4 g5
    refine (heldFrame_any k p s o wd av1 ys.length cp1 _ (Ints.row hr10) hyl).mono ?_
    rintro e w11 ⟨rfl, hb11⟩
    have bx0 := (hb11.block _ (by omega)).trans bx0
    have hr0 := owned_kept hr0 hb11
    have hB11 := hB10.trans (hb11.mono hB10.size)
    have s11 := hb11.size
    clear hb11 hB10
    clear hr10 bx1
    go_wp2_with fail
    refine (toByteS_any a zs cap _ (hz.moved hB11) hl).mono ?_
    rintro e w12 ⟨rfl, ho12, hb12⟩
    have bx0 := (hb12.block _ (by omega)).trans bx0
    have hr0 := owned_kept hr0 hb12
    have hB12 := hB11.trans (hb12.mono hB11.size)
    have s12 := hb12.size
    clear hb12 hB11
    go_wp2_with fail
    refine (HIM.out _ _ _ _ rfl (Ints.row ho12) (by simp) (Nat.le_refl _) (hg.moved hB12)).mono ?_
    rintro e w13 ⟨av2, cp2, rfl, hr2, hb13⟩
    have bx0 := (hb13.block _ (by omega)).trans bx0
    have hr0 := owned_kept hr0 hb13
    have hB13 := hB12.trans (hb13.mono hB12.size)
    have s13 := hb13.size
    clear hb13 hB12
    clear ho12 HIM
    obtain ⟨V13, hV13⟩ : ∃ x, x = w13.alloc (.cells #[.int .i64 k, .int .i64 p, .int .u32 s, .int .u64 o, .int .i64 wd, .slice av2 ys.length cp2] 30) := ⟨_, rfl⟩
    have hbV : Below w13.heap.size w13 V13 := by rw [hV13]; exact (Below.refl _ _).alloc (Nat.le_refl _) _
    have bx2 : V13.heap[w13.heap.size]? = some (.cells #[.int .i64 k, .int .i64 p, .int .u32 s, .int .u64 o, .int .i64 wd, .slice av2 ys.length cp2] 30) := by rw [hV13]; exact alloc_block _ _ _ rfl
    have bx0 := (hbV.block _ (by omega)).trans bx0
    have hB13 := hB13.trans (hbV.mono hB13.size)
    have hr0 := owned_kept hr0 hbV
    have hr2 := owned_kept hr2 hbV
    obtain ⟨⟨f0, f1, f2, f3, f4, f5⟩, _⟩ := six_at bx0
    obtain ⟨⟨g0, g1, g2, g3, g4, g5⟩, _⟩ := six_at bx2
    rw [hV13] at f0 f1 f2 f3 f4 f5 g0 g1 g2 g3 g4 g5
    go_wp2_with fail
    rw [← hV13]
    clear hV13 f0 f1 f2 f3 f4 f5 g0 g1 g2 g3 g4 g5 hbV
    refine (eqFrame_same k p s o wd _ _ ys ys.length _ _ _ (Ints.row hr2) (Ints.row hr0) rfl hyl).mono ?_
    rintro e w14 ⟨rfl, hb14⟩
    go_wp2
    go_ret
    exact ⟨rfl, hB13.trans (hb14.mono hB13.size)⟩
  · go_enter Tryd.func4, Tryd.ntmps4
    go_wp2
    go_ret
    exact ⟨rfl, Below.refl _ _⟩
end Go.Proofs.YthgggmkljnghmaaDoor
