import Derived.Test.YtincfdhfoaimbaaRow2
import Derived.Deep.RegionWith
import Derived.LoopTactic
namespace Go.Proofs.Ytincfdhfoaimbaa
open Go.ChangeShapes Go.WideShapes Go.ChangeAt Go.RowKit
set_option linter.unusedVariables false

theorem kept_new {w w' : World} {base B : Nat} {e : TypeId} {size : Nat} {v : Value} {n : Nat} {xs : List Value} (h : w.ownsRow base e size v n xs) (hg : w.grownBy w' (some B)) (hB : B < base) : w'.ownsRow base e size v n xs := by
  refine h.kept hg ?_
  cases hv : v.ownBlock with
  | none => exact .inl rfl
  | some k =>
    refine .inr fun hk => ?_
    have h1 := (h.lt k hv).1
    have h2 := Option.some.inj hk
    omega
theorem grown_past {w w1 w2 : World} {B : Nat} {row : Option Nat} (h : w.grownBy w1 (some B)) (hg : w1.grownBy w2 row) (hr : ∀ k, row = some k → w.heap.size ≤ k) : w.grownBy w2 (some B) :=
  ⟨hg.os.trans h.os, hg.tape.trans h.tape, hg.output.trans h.output, Nat.le_trans h.size hg.size, fun i hi hne => (hg.block i (Nat.lt_of_lt_of_le hi h.size) (fun e => by have := hr i e.symm; omega)).trans (h.block i hi hne)⟩
theorem grown_none {w w1 : World} {row : Option Nat} (h : w.grownBy w1 none) : w.grownBy w1 row := ⟨h.os, h.tape, h.output, h.size, fun i hi _ => h.block i hi (by simp)⟩
theorem cell_grown {w w1 : World} {row : Option Nat} {a : Addr} {v : Value} (h : w.grownBy w1 row) (hc : w.cell? a = some v) (hr : row ≠ some a.block) : w1.cell? a = some v :=
  (World.cell?_of_block (h.block a.block (World.block_lt_of_cell? w a hc) (fun e => hr e.symm))).trans hc
theorem frozen_grown {w w1 : World} {row : Option Nat} {a : Addr} {b : Bool} (h : w.grownBy w1 row) (hlt : a.block < w.heap.size) (hf : w.frozen? a = b) (hr : row ≠ some a.block) : w1.frozen? a = b :=
  (World.frozen?_of_block (h.block a.block hlt (fun e => hr e.symm))).trans hf

/-- The number waited for behind one number. -/
def nextUp (x z : Int) : Int := if z = x then (x + 1) % 4294967296 else x
def outOf (x z : Int) : Int × Int := (if z = x then 1 else 0, nextUp x z)
def waits (x : Int) (zs : List Int) : Int := zs.foldl nextUp x
def recvs : Int → List Int → Pairs
  | _, [] => []
  | x, z :: zs => outOf x z :: recvs (nextUp x z) zs
theorem waits_snoc (x z : Int) (zs : List Int) : waits x (zs ++ [z]) = nextUp (waits x zs) z := by simp [waits]
theorem recvs_snoc (x z : Int) (zs : List Int) : recvs x (zs ++ [z]) = recvs x zs ++ [outOf (waits x zs) z] := by
  induction zs generalizing x with
  | nil => rfl
  | cons y zs ih =>
    have := ih (nextUp x y)
    simp only [List.cons_append, recvs, this]
    rfl
theorem recvs_length (x : Int) (zs : List Int) : (recvs x zs).length = zs.length := by
  induction zs generalizing x with
  | nil => rfl
  | cons y zs ih => simp [recvs, ih]
theorem waits_take (x : Int) (zs : List Int) (k : Nat) (h : k < zs.length) : waits x (zs.take (k + 1)) = nextUp (waits x (zs.take k)) (zs.getD k 0) := by
  rw [List.take_succ_eq_append_getElem h, waits_snoc]
  simp [h]
theorem recvs_take (x : Int) (zs : List Int) (k : Nat) (h : k < zs.length) : recvs x (zs.take (k + 1)) = recvs x (zs.take k) ++ [outOf (waits x (zs.take k)) (zs.getD k 0)] := by
  rw [List.take_succ_eq_append_getElem h, recvs_snoc]
  simp [h]
theorem nextUp_fits (x z : Int) (h0 : 0 ≤ x) (h1 : x ≤ 4294967295) : 0 ≤ nextUp x z ∧ nextUp x z ≤ 4294967295 := by
  unfold nextUp
  split <;> omega
theorem waits_fits (x : Int) (zs : List Int) (h0 : 0 ≤ x) (h1 : x ≤ 4294967295) : 0 ≤ waits x zs ∧ waits x zs ≤ 4294967295 := by
  induction zs generalizing x with
  | nil => exact ⟨h0, h1⟩
  | cons y zs ih =>
    have := nextUp_fits x y h0 h1
    exact ih _ this.1 this.2

theorem info_recv : (Try.prog.info? 52).map (fun i => (i.zero, i.size, i.bytes)) = some (some (.agg #[.int .i64 0, .int .u32 0]), 2, 16) := by kernel_rfl

theorem take_hit (B : Nat) (x : Int) (w : World) (hc : w.cell? ⟨B, 0, none⟩ = some (.int .u32 x)) (hf : w.frozen? ⟨B, 0, none⟩ = false) (x0 : 0 ≤ x) (x1 : x ≤ 4294967295) :
    Calls Try.prog 34 #[.pointer (some ⟨B, 0, none⟩), .int .u32 x] w fun e w' => e = .returned (.agg #[.int .i64 1, .int .u32 ((x + 1) % 4294967296)]) ∧ w'.cell? ⟨B, 0, none⟩ = some (.int .u32 ((x + 1) % 4294967296)) ∧ w'.frozen? ⟨B, 0, none⟩ = false ∧ w.grownBy w' (some B) := by
  have hlt := World.block_lt_of_cell? w _ hc
  have hg := grown_trans (grown_set w B 0 (.int .u32 ((x + 1) % 4294967296))) (World.grownBy_alloc (w.setCell ⟨B, 0, none⟩ (.int .u32 ((x + 1) % 4294967296))) (.cells #[.int .i64 1, .int .u32 ((x + 1) % 4294967296)] 52) (some B))
  go_enter Try.func34, Try.ntmps34
  go_wp2
  refine bodyPost_ret (v := .agg #[.int .i64 1, .int .u32 ((x + 1) % 4294967296)]) (by simp [results, Try.results34, go_sem]) rfl ⟨rfl, ?_, ?_, hg⟩
  · rw [World.cell?_alloc_past _ _ _ (by simpa using hlt)]
    simp [go_sem, hc]
  · refine (World.frozen?_of_block (a := ⟨B, 0, none⟩) (Below.heap_alloc _ _ B (by simpa using hlt))).trans ?_
    simp [go_sem, hf]

theorem take_miss (B : Nat) (x z : Int) (w : World) (hc : w.cell? ⟨B, 0, none⟩ = some (.int .u32 x)) (hf : w.frozen? ⟨B, 0, none⟩ = false) (hz : z ≠ x) :
    Calls Try.prog 34 #[.pointer (some ⟨B, 0, none⟩), .int .u32 z] w fun e w' => e = .returned (.agg #[.int .i64 0, .int .u32 x]) ∧ w'.cell? ⟨B, 0, none⟩ = some (.int .u32 x) ∧ w'.frozen? ⟨B, 0, none⟩ = false ∧ w.grownBy w' (some B) := by
  have hlt := World.block_lt_of_cell? w _ hc
  have hg := World.grownBy_alloc w (.cells #[.int .i64 0, .int .u32 x] 52) (some B)
  go_enter Try.func34, Try.ntmps34
  go_wp2
  refine bodyPost_ret (v := .agg #[.int .i64 0, .int .u32 x]) (by simp [results, Try.results34, go_sem]) rfl ⟨rfl, ?_, ?_, hg⟩
  · rw [World.cell?_alloc_past _ _ _ hlt]
    exact hc
  · exact (World.frozen?_of_block (a := ⟨B, 0, none⟩) (Below.heap_alloc _ _ B hlt)).trans hf

theorem take_any (B : Nat) (x z : Int) (w : World) (hc : w.cell? ⟨B, 0, none⟩ = some (.int .u32 x)) (hf : w.frozen? ⟨B, 0, none⟩ = false) (x0 : 0 ≤ x) (x1 : x ≤ 4294967295) (c d : Int) (ho : outOf x z = (c, d)) :
    Calls Try.prog 34 #[.pointer (some ⟨B, 0, none⟩), .int .u32 z] w fun e w' => e = .returned (.agg #[.int .i64 c, .int .u32 d]) ∧ w'.cell? ⟨B, 0, none⟩ = some (.int .u32 d) ∧ w'.frozen? ⟨B, 0, none⟩ = false ∧ w.grownBy w' (some B) := by
  by_cases hz : z = x
  · subst hz
    simp [outOf, nextUp] at ho
    obtain ⟨rfl, rfl⟩ := ho
    exact take_hit B z w hc hf x0 x1
  · simp [outOf, nextUp, hz] at ho
    obtain ⟨rfl, rfl⟩ := ho
    exact take_miss B x z w hc hf hz

set_option maxHeartbeats 2000000 in
set_option maxRecDepth 100000 in
theorem runRecv (B : Nat) (x : Int) (a : Option Addr) (zs : List Int) (n cap : Nat) (w : World) (hn : zs.length = n) (hl : n ≤ 4000) (hc : w.cell? ⟨B, 0, none⟩ = some (.int .u32 x)) (hf : w.frozen? ⟨B, 0, none⟩ = false) (x0 : 0 ≤ x) (x1 : x ≤ 4294967295)
    (hz : zs = [] ∨ ∃ b off, a = some ⟨b, off, none⟩ ∧ b ≠ B ∧ ∀ i, i < zs.length → w.cell? ⟨b, off + i, none⟩ = some (.int .u32 (zs.getD i 0))) :
    Calls Try.prog 33 #[.slice a n cap, .func (.func 34) #[.pointer (some ⟨B, 0, none⟩)] #[]] w fun e w' => ∃ av cp, e = .returned (.tuple #[.slice av n cp, .int .i64 0]) ∧
      w'.ownsRow w.heap.size 52 2 (.slice av n cp) n (flat2 .i64 .u32 (recvs x zs)) ∧ w.grownBy w' (some B) := by
  have hltB := World.block_lt_of_cell? w _ hc
  obtain ⟨i0, hi, hz0, hz1, hz2⟩ := info_parts info_recv
  go_enter Try.func33, Try.ntmps33
  go_wp2_with (at_make; refine wpList_make_own _ rfl _ _ 24 rfl w.heap.size 52 i0 (.agg #[.int .i64 0, .int .u32 0]) 2 Try.underlying24 hi hz0 hz1 .i64 .i64 _ n rfl rfl (by omega) (by rw [hz2]; omega) (by unfold maxLen; omega) (Nat.le_refl _) ?_; intro w2 hr1 hg2)
  have hcB2 := cell_grown hg2 hc (by simp)
  have hfB2 := frozen_grown hg2 hltB hf (by simp)
  have hgB2 : w.grownBy w2 (some B) := grown_none hg2
  clear hg2 hc hf
  go_loopw [6, 17] (fun v i wr => ∃ (k : Nat) (av : Option Addr) (cp : Nat), k ≤ n ∧ i = .int .i64 k ∧ v = .slice av k cp ∧ wr.ownsRow w.heap.size 52 2 (.slice av k cp) k (flat2 .i64 .u32 (recvs x (zs.take k))) ∧ wr.cell? ⟨B, 0, none⟩ = some (.int .u32 (waits x (zs.take k))) ∧ wr.frozen? ⟨B, 0, none⟩ = false ∧ w.grownBy wr (some B))
    (fun _ i _ => n - (intOf i).toNat)
  case atStart => exact ⟨0, _, _, Nat.zero_le _, rfl, rfl, hr1, hcB2, hfB2, hgB2⟩
  case round =>
    clear hr1 hcB2 hfB2 hgB2
    obtain ⟨k, av, cp, hk, rfl, rfl, hown, hcB, hfB, hgB⟩ := hrel
    by_cases hlt : k < n
    · rcases hz with h | ⟨b, off, rfl, hbB, hcz⟩
      · simp [h] at hn; omega
      · have hX := waits_fits x (zs.take k) x0 x1
        have hRl := recvs_length x (zs.take k)
        have hTl : (zs.take k).length = k := by simp; omega
        have hW1 := waits_take x zs k (by omega)
        have hR1 := recvs_take x zs k (by omega)
        have hcell := cell_grown hgB (hcz k (by omega)) (by simp; omega)
        have hBr := World.block_lt_of_cell? wr _ hcB
        have hsz := hgB.size
        obtain ⟨z, hzz⟩ : ∃ z, zs.getD k 0 = z := ⟨_, rfl⟩
        obtain ⟨c, d, hcd⟩ : ∃ c d, outOf (waits x (zs.take k)) z = (c, d) := ⟨_, _, rfl⟩
        rw [hzz] at hW1 hR1 hcell
        have hd : nextUp (waits x (zs.take k)) z = d := by have := congrArg Prod.snd hcd; simpa [outOf] using this
        rw [hcd] at hR1
        rw [hd] at hW1
        obtain ⟨X, HX⟩ : ∃ X, waits x (zs.take k) = X := ⟨_, rfl⟩
        obtain ⟨S, HS⟩ : ∃ S, recvs x (zs.take k) = S := ⟨_, rfl⟩
        rw [HX] at hX hcd hcB
        rw [HS] at hR1 hRl hown
        have HW1 : Hid _ := hW1
        have HR1 : Hid _ := hR1
        have HCD : Hid _ := hcd
        clear hW1 hR1 hcd hd HX HS hzz hcz
        go_wp2_with (first
          | (go_at_call 34; refine (take_any B X z _ hcB hfB hX.1 hX.2 c d HCD.out).mono ?_; rintro e w3 ⟨rfl, hc3, hf3, hg3⟩; have ho3 := kept_new hown hg3 hltB)
          | (at_builtin; refine wpList_app2 _ (by rfl) _ _ 24 52 (by rfl) .i64 .u32 16 Try.underlying24 info_recv (by decide) w.heap.size av k cp S (by omega) c d (by rfl) (ho3.alloc _) w3.heap.size (by rfl) (by simp) (by simp) (by omega) (by have := hg3.size; simp; omega) ?_; intro g cap' w4 ho4 hg4))
        have hne : (Value.slice av k cp).ownBlock ≠ some B := fun e => by have := (hown.lt B e).1; omega
        have hga : wr.grownBy w3 (some B) := hg3
        have hg5 := grown_past (grown_past (grown_trans hgB hg3) (World.grownBy_alloc w3 (.cells #[.int .i64 c, .int .u32 d] 52) none) (by simp)) hg4 (fun k' e => (hown.lt k' e).1)
        have hB3 : B < w3.heap.size := World.block_lt_of_cell? w3 _ hc3
        have hc4 := cell_grown hg4 ((World.cell?_alloc_past _ _ _ hB3).trans hc3) hne
        have hf4 := frozen_grown hg4 (a := ⟨B, 0, none⟩) (by simp; omega) ((World.frozen?_of_block (a := ⟨B, 0, none⟩) (Below.heap_alloc w3 _ B hB3)).trans hf3) hne
        go_roundw
        case rel => exact ⟨k + 1, _, _, by omega, by go_num, rfl, by rw [HR1.out]; exact ho4, by rw [HW1.out]; exact hc4, hf4, hg5⟩
        case measure => simp [intOf]; omega
    · go_wp2
      go_ret2
      have : k = n := by omega
      subst this
      rw [← hn, List.take_length, hn] at hown
      exact ⟨_, _, rfl, hown, hgB⟩

/-- At these numbers, wherever they lie, the function hands back the pairs S in a row of its own, and the code c. -/
def GivesR (fn : FuncId) (x : Int) (zs : List Int) (S : Pairs) (c : Int) : Prop :=
  ∀ (a : Option Addr) (n cap : Nat) (w : World), zs.length = n → Ints .u32 w a zs →
    Calls Try.prog fn #[.int .u32 x, .slice a n cap] w fun e w' => ∃ av cp, e = .returned (.tuple #[.slice av S.length cp, .int .i64 c]) ∧
      w'.ownsRow w.heap.size 52 2 (.slice av S.length cp) S.length (flat2 .i64 .u32 S) ∧ Below w.heap.size w w'

theorem implRecv (x : Int) (zs : List Int) (hl : zs.length ≤ 4000) (x0 : 0 ≤ x) (x1 : x ≤ 4294967295) : GivesR 10 x zs (recvs x zs) 0 := by
  intro a n cap w hn hz
  have hcell : (w.alloc (.cells #[.int .u32 x] 72)).cell? ⟨w.heap.size, 0, none⟩ = some (.int .u32 x) := by simp
  have hfz : (w.alloc (.cells #[.int .u32 x] 72)).frozen? ⟨w.heap.size, 0, none⟩ = false := by simp [go_sem]
  have hb0 : Below w.heap.size w (w.alloc (.cells #[.int .u32 x] 72)) := (Below.refl _ _).alloc (Nat.le_refl _) _
  have hz2 : zs = [] ∨ ∃ b off, a = some ⟨b, off, none⟩ ∧ b ≠ w.heap.size ∧ ∀ i, i < zs.length → (w.alloc (.cells #[.int .u32 x] 72)).cell? ⟨b, off + i, none⟩ = some (.int .u32 (zs.getD i 0)) := by
    rcases hz with h | ⟨b, off, rfl, hc⟩
    · exact .inl h
    · by_cases h0 : zs.length = 0
      · exact .inl (List.eq_nil_of_length_eq_zero h0)
      · have hlt : b < w.heap.size := World.block_lt_of_cell? w _ (hc 0 (by omega))
        exact .inr ⟨b, off, rfl, by omega, fun i hi => (hb0.cell hlt).trans (hc i hi)⟩
  have hmf : ∀ (fn : Fn) (first cap : Array Value) (w : World), (Instr.makeFunc fn first cap).run Try.prog w = .ok (.func fn first cap) w := fun _ _ _ _ => rfl
  go_enter Try.func10, Try.ntmps10
  go_wp2_with fail
  refine (runRecv w.heap.size x a zs n cap _ hn (by omega) hcell hfz x0 x1 hz2).mono ?_
  rintro e w1 ⟨av, cp, rfl, ho, hg⟩
  go_wp2
  go_ret2
  rw [recvs_length, hn]
  exact ⟨av, cp, rfl, owned_base ho (by simp), hb0.grown hg (by simp) (fun k hk => by have := Option.some.inj hk; omega)⟩

theorem implRecv_long (x : Int) (zs : List Int) (hl : 4000 < zs.length) (hm : zs.length ≤ 1048576) : GivesR 10 x zs [] 5 := by
  intro a n cap w hn hz
  have hb0 : Below w.heap.size w (w.alloc (.cells #[.int .u32 x] 72)) := (Below.refl _ _).alloc (Nat.le_refl _) _
  have hmf : ∀ (fn : Fn) (first cap : Array Value) (w : World), (Instr.makeFunc fn first cap).run Try.prog w = .ok (.func fn first cap) w := fun _ _ _ _ => rfl
  have hrun : ∀ (f : Value) (w : World), Calls Try.prog 33 #[.slice a n cap, f] w fun e w' => e = .returned (.tuple #[.slice none 0 0, .int .i64 5]) ∧ w' = w := by
    intro f w
    go_enter Try.func33, Try.ntmps33
    go_wp2
    go_ret2
    exact ⟨rfl, rfl⟩
  go_enter Try.func10, Try.ntmps10
  go_wp2_with fail
  refine (hrun _ _).mono ?_
  rintro e w1 ⟨rfl, rfl⟩
  go_wp2
  go_ret2
  exact ⟨none, 0, rfl, World.ownsRow_nil _ _ _ _, hb0⟩

theorem specRecv_long (x : Int) (zs : List Int) (hl : 4000 < zs.length) (hm : zs.length ≤ 1048576) : GivesR 8 x zs [] 5 := by
  intro a n cap w hn hz
  go_enter Try.func8, Try.ntmps8
  go_wp2
  go_ret2
  exact ⟨none, 0, rfl, World.ownsRow_nil _ _ _ _, Below.refl _ _⟩

set_option maxHeartbeats 2000000 in
set_option maxRecDepth 100000 in
theorem specRecv (x : Int) (zs : List Int) (hl : zs.length ≤ 4000) (x0 : 0 ≤ x) (x1 : x ≤ 4294967295) : GivesR 8 x zs (recvs x zs) 0 := by
  intro a n cap w hn hz
  have hmade : (w.alloc (.cells #[] 52)).ownsRow w.heap.size 52 2 (.slice (some ⟨w.heap.size, 0, none⟩) 0 0) 0 (flat2 .i64 .u32 []) := World.ownsRow_made w #[] 0 (Nat.le_refl _) (by unfold maxLen; omega) rfl
  go_enter Try.func8, Try.ntmps8
  go_wp2
  go_loopw [6, 7, 8] (fun v m i wr => ∃ (k c : Nat) (av : Option Addr) (cp : Nat), k ≤ n ∧ c ≤ k ∧ i = .int .i64 k ∧ m = .int .u32 c ∧ Hid ((x + c) % 4294967296 = waits x (zs.take k)) ∧ v = .slice av k cp ∧ wr.ownsRow w.heap.size 52 2 (.slice av k cp) k (flat2 .i64 .u32 (recvs x (zs.take k))) ∧ Below w.heap.size w wr)
    (fun _ _ i _ => n - (intOf i).toNat)
  case atStart => exact ⟨0, 0, _, _, Nat.zero_le _, Nat.le_refl _, rfl, rfl, by unfold Hid; simp [waits]; omega, rfl, hmade, (Below.refl _ _).alloc (Nat.le_refl _) _⟩
  case round =>
    clear hmade
    obtain ⟨k, c, av, cp, hk, hck, rfl, rfl, HX, rfl, hown, hb⟩ := hrel
    by_cases hlt : k < n
    · rcases hz with h | ⟨b, off, rfl, hcz⟩
      · simp [h] at hn; omega
      · have hRl := recvs_length x (zs.take k)
        have hTl : (zs.take k).length = k := by simp; omega
        have hW1 := waits_take x zs k (by omega)
        have hR1 := recvs_take x zs k (by omega)
        have hcell := (hb.cell (World.block_lt_of_cell? w _ (hcz k (by omega)))).trans (hcz k (by omega))
        have hsz := hb.size
        obtain ⟨z, hzz⟩ : ∃ z, zs.getD k 0 = z := ⟨_, rfl⟩
        rw [hzz] at hW1 hR1 hcell
        rw [← HX.out] at hW1 hR1
        obtain ⟨S, HS⟩ : ∃ S, recvs x (zs.take k) = S := ⟨_, rfl⟩
        rw [HS] at hR1 hRl hown
        have HW1 : Hid _ := hW1
        have HR1 : Hid _ := hR1
        clear hW1 hR1 HS hzz hcz HX
        have hlb : b < wr.heap.size := World.block_lt_of_cell? wr ⟨b, off + k, none⟩ hcell
        have hcellA := (World.cell?_alloc_past (w := wr) (.cells #[.int .i64 0, .int .u32 0] 52) b (off + k) hlb).trans hcell
        by_cases hh : z = (x + c) % 4294967296
        · have hh2 : (z == (x + c) % 4294967296) = true := by simpa using hh
          go_wp2_with (at_builtin; refine wpList_app2 _ (by rfl) _ _ 24 52 (by rfl) .i64 .u32 16 Try.underlying24 info_recv (by decide) w.heap.size av k cp S (by omega) 1 ((x + ((c : Int) + 1)) % 4294967296) (by rfl) ((hown.alloc _).alloc _) (wr.heap.size + 1) (by rfl) (by simp) (by simp) (by omega) (by simp; omega) ?_; intro g cap' w4 ho4 hg4)
          have hb4 := below_grown (((hb.alloc hsz _).alloc (by simp; omega) _)) ((hown.alloc _).alloc _) hg4 (Nat.le_refl _) (by simp; omega)
          go_roundw
          case rel => exact ⟨k + 1, c + 1, _, _, by omega, by omega, by go_num, by go_num, by unfold Hid; rw [HW1.out]; unfold nextUp; rw [if_pos hh]; omega, rfl, by rw [HR1.out]; unfold outOf nextUp; rw [if_pos hh, if_pos hh, show ((x + (c : Int)) % 4294967296 + 1) % 4294967296 = (x + ((c : Int) + 1)) % 4294967296 by omega]; exact ho4, hb4⟩
          case measure => simp [intOf]; omega
        · have hh2 : (z == (x + c) % 4294967296) = false := by simpa using hh
          go_wp2_with (at_builtin; refine wpList_app2 _ (by rfl) _ _ 24 52 (by rfl) .i64 .u32 16 Try.underlying24 info_recv (by decide) w.heap.size av k cp S (by omega) 0 ((x + (c : Int)) % 4294967296) (by rfl) ((hown.alloc _).alloc _) (wr.heap.size + 1) (by rfl) (by simp) (by simp) (by omega) (by simp; omega) ?_; intro g cap' w4 ho4 hg4)
          have hb4 := below_grown (((hb.alloc hsz _).alloc (by simp; omega) _)) ((hown.alloc _).alloc _) hg4 (Nat.le_refl _) (by simp; omega)
          go_roundw
          case rel => exact ⟨k + 1, c + 0, _, _, by omega, by omega, by go_num, by go_num, by unfold Hid; rw [HW1.out]; unfold nextUp; rw [if_neg hh]; omega, rfl, by rw [HR1.out]; unfold outOf nextUp; rw [if_neg hh, if_neg hh]; exact ho4, hb4⟩
          case measure => simp [intOf]; omega
    · go_wp2
      go_ret2
      have : k = n := by omega
      subst this
      rw [← hn, List.take_length, hn] at hown
      rw [recvs_length, hn]
      exact ⟨_, _, rfl, hown, hb⟩
end Go.Proofs.Ytincfdhfoaimbaa
