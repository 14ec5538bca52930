import Derived.Test.YthgggmkljnghmaaDoorRows1
namespace Go.Proofs.YthgggmkljnghmaaDoor
open Go.ChangeShapes Go.WideShapes Go.ChangeAt Go.RowKit
set_option linter.unusedVariables false

theorem kept_new {w w' : World} {base B : Nat} {e : TypeId} {size : Nat} {v : Value} {n : Nat} {xs : List Value} (h : w.ownsRow base e size v n xs) (hg : w.grownBy w' (some B)) (hB : B < base) : w'.ownsRow base e size v n xs := by
  refine h.kept hg ?_
  cases hv : v.ownBlock with
  | none => exact .inl rfl
  | some k =>
    refine .inr fun hk => ?_
    have h1 := (h.lt k hv).1
    have h2 := Option.some.inj hk
    omega
theorem grown_past {w w1 w2 : World} {B : Nat} {row : Option Nat} (h : w.grownBy w1 (some B)) (hg : w1.grownBy w2 row) (hr : ∀ k, row = some k → w.heap.size ≤ k) : w.grownBy w2 (some B) :=
  ⟨hg.os.trans h.os, hg.tape.trans h.tape, hg.output.trans h.output, Nat.le_trans h.size hg.size, fun i hi hne => (hg.block i (Nat.lt_of_lt_of_le hi h.size) (fun e => by have := hr i e.symm; omega)).trans (h.block i hi hne)⟩
theorem grown_none {w w1 : World} {row : Option Nat} (h : w.grownBy w1 none) : w.grownBy w1 row := ⟨h.os, h.tape, h.output, h.size, fun i hi _ => h.block i hi (by simp)⟩
theorem cell_grown {w w1 : World} {row : Option Nat} {a : Addr} {v : Value} (h : w.grownBy w1 row) (hc : w.cell? a = some v) (hr : row ≠ some a.block) : w1.cell? a = some v :=
  (World.cell?_of_block (h.block a.block (World.block_lt_of_cell? w a hc) (fun e => hr e.symm))).trans hc
theorem frozen_grown {w w1 : World} {row : Option Nat} {a : Addr} {b : Bool} (h : w.grownBy w1 row) (hlt : a.block < w.heap.size) (hf : w.frozen? a = b) (hr : row ≠ some a.block) : w1.frozen? a = b :=
  (World.frozen?_of_block (h.block a.block hlt (fun e => hr e.symm))).trans hf

end Go.Proofs.YthgggmkljnghmaaDoor
