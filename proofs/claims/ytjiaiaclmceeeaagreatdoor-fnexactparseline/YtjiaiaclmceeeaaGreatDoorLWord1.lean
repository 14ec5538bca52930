import Derived.Test.YtjiaiaclmceeeaaGreatDoorLHex4
import Derived.Test.YtjiaiaclmceeeaaGreatDoorLineNum
import Derived.Lib.SmallJoins
namespace Go.Proofs.YtjiaiaclmceeeaaGreatDoor
open Go.ChangeShapes Go.WideShapes Go.ChangeAt Go.RowKit
set_option linter.unusedVariables false

/-! ### One word of a line -/
theorem readDir_b (u : ByteArray) (h : u.toList = [98]) (w : World) : Calls Tryz.prog 35 #[.string u] w fun e w' => e = .returned (.tuple #[.int .i64 1, .bool true]) ∧ w' = w := by
  have e0 : (u.toList == [98]) = true := by rw [h]; rfl
  clear h
  go_enter Tryz.func35, Tryz.ntmps35
  go_wp2_with fail
  go_ret2
  exact ⟨rfl, rfl⟩
theorem readDir_n (u : ByteArray) (h : u.toList ≠ [98]) (b : Bool) (hb : (u.toList == [102]) = b) (w : World) : Calls Tryz.prog 35 #[.string u] w fun e w' => e = .returned (.tuple #[.int .i64 0, .bool b]) ∧ w' = w := by
  have e0 : (u.toList == [98]) = false := beq_eq_false_iff_ne.2 h
  clear h
  go_enter Tryz.func35, Tryz.ntmps35
  go_wp2_with fail
  go_ret2
  exact ⟨rfl, rfl⟩
/-- A command as it is read. -/
structure Cmd where
  op : Int
  path : Int
  dir : Int
  ix : Int
  n : Int
  data : ByteArray
def Cmd.vals (c : Cmd) : Array Value := #[.int .i64 c.op, .int .i64 c.path, .int .i64 c.dir, .int .i64 c.ix, .int .i64 c.n, .string c.data]
/-- Is the word one of its kind? The kinds: 0 a count, 1 a path, 2 an index, 3 a direction, 4 data, 5 a byte, 6 bytes in digits of sixteen. -/
def okW (k : Nat) (u : ByteArray) : Prop :=
  match k with
  | 0 => NumOK6 u
  | 1 => NumOK6 u
  | 2 => NumOK6 u
  | 3 => u.toList = [98] ∨ u.toList = [102]
  | 4 => 1 ≤ u.size
  | 5 => u.size = 1
  | _ => HexOK u
/-- The command behind a word of its kind. -/
def setW (k : Nat) (u : ByteArray) (c : Cmd) : Cmd :=
  match k with
  | 0 => { c with n := (dig u u.size : Nat) }
  | 1 => { c with path := (dig u u.size : Nat) }
  | 2 => { c with ix := (dig u u.size : Nat) }
  | 3 => { c with dir := if u.toList = [98] then 1 else 0 }
  | 4 => { c with data := u, n := (u.size : Nat) }
  | 5 => { c with data := u }
  | _ => { c with data := hexF u, n := ((hexF u).size : Nat) }
theorem cells6s {w : World} {B : Nat} {t : TypeId} {c : Cmd} (h : w.heap[B]? = some (.cells c.vals t (0, 0))) :
    (w.cell? ⟨B, 0, none⟩ = some (.int .i64 c.op) ∧ w.cell? ⟨B, 1, none⟩ = some (.int .i64 c.path) ∧ w.cell? ⟨B, 2, none⟩ = some (.int .i64 c.dir) ∧ w.cell? ⟨B, 3, none⟩ = some (.int .i64 c.ix) ∧ w.cell? ⟨B, 4, none⟩ = some (.int .i64 c.n) ∧ w.cell? ⟨B, 5, none⟩ = some (.string c.data)) ∧ (∀ j, w.frozen? ⟨B, j, none⟩ = false) :=
  ⟨⟨Go.Joins.cell_of_block h 0, Go.Joins.cell_of_block h 1, Go.Joins.cell_of_block h 2, Go.Joins.cell_of_block h 3, Go.Joins.cell_of_block h 4, Go.Joins.cell_of_block h 5⟩, fun j => Go.Joins.unfrozen_of_block h _⟩
/-- The program's readWord: where the word is of its kind, it says true and the command is the next one; else it says false. -/
def ReadW (k : Nat) (u : ByteArray) (B : Nat) (c : Cmd) (w : World) (e : Ending) (w' : World) : Prop :=
  (okW k u ∧ e = .returned (.bool true) ∧ w'.heap[B]? = some (.cells (setW k u c).vals 23 (0, 0)) ∨ ¬ okW k u ∧ e = .returned (.bool false)) ∧ w.heap.size ≤ w'.heap.size ∧ (∀ j, j < w.heap.size → j ≠ B → w'.heap[j]? = w.heap[j]?) ∧ w'.os = w.os ∧ w'.tape = w.tape ∧ w'.output = w.output
end Go.Proofs.YtjiaiaclmceeeaaGreatDoor
