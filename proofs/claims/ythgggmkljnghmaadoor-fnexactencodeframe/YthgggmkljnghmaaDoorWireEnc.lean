import Derived.Test.YthgggmkljnghmaaDoorWirePut
import Derived.Test.YthgggmkljnghmaaDoorWireCheck2
namespace Go.Proofs.YthgggmkljnghmaaDoor
open Go.ChangeShapes Go.WideShapes Go.ChangeAt Go.RowKit
set_option linter.unusedVariables false

theorem crcOf_fits (zs : List Int) : 0 ≤ crcOf zs ∧ crcOf zs ≤ 4294967295 := xor32 (crcAll zs) 4294967295

theorem Ints.row {w : World} {base : Nat} {av : Option Addr} {n cap : Nat} {zs : List Int} (h : w.ownsRow base 5 1 (.slice av n cap) n (zs.map (.int .u8))) : Ints .u8 w av zs := Ints.ofRow h

set_option maxHeartbeats 4000000 in
theorem specSeal (base : Nat) (av : Option Addr) (n cap : Nat) (zs : List Int) (w : World) (hz : zs.length = n) (hl : n ≤ 1000000) (hv : ∀ x ∈ zs, 0 ≤ x ∧ x ≤ 255)
    (hown : w.ownsRow base 5 1 (.slice av n cap) n (zs.map (.int .u8))) (hbase : base ≤ w.heap.size) :
    Calls Tryd.prog 28 #[.slice av n cap] w fun e w' => ∃ av' cap', e = .returned (.slice av' (n + 4) cap') ∧ w'.ownsRow base 5 1 (.slice av' (n + 4) cap') (n + 4) ((zs ++ be (crcOf zs) 4).map (.int .u8)) ∧ Below base w w' := by
  have hc := crcOf_fits zs
  have hi := Ints.row hown
  go_enter Tryd.func28, Tryd.ntmps28
  go_wp2_with (first
    | (go_at_call 33; subst hz; refine (specCrc av zs cap _ hi hv (by omega)).mono ?_; rintro e1 w1 ⟨rfl, rfl⟩)
    | (go_at_call 27; refine (specPut base av zs.length cap zs (crcOf zs) 4 _ hc.1 (by omega) (by omega) rfl hl hown hbase).mono ?_; rintro e2 w2 ⟨av2, cap2, rfl, ho2, hb2⟩))
  go_ret
  exact ⟨av2, cap2, rfl, ho2, hb2⟩
end Go.Proofs.YthgggmkljnghmaaDoor
