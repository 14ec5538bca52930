import Derived.Test.YtjiaiaclmceeeaaGreatDoorRows0
namespace Go.Proofs.YtjiaiaclmceeeaaGreatDoor
open Go.ChangeShapes Go.WideShapes Go.ChangeAt Go.RowKit
set_option linter.unusedVariables false

/-! ### Strings of bytes -/
def strOf (zs : List Int) : ByteArray := zs.foldl (fun r n => r.push (UInt8.ofNat n.toNat)) ByteArray.empty
theorem ints_cellsN {w : World} {b off : Nat} {zs : List Int} (hc : ∀ i, i < zs.length → w.cell? ⟨b, off + i, none⟩ = some (.int .u8 (zs.getD i 0))) : ∀ j u, (zs.map (Value.int .u8))[j]? = some u → w.cell? ((⟨b, off, none⟩ : Addr).add j) = some u := by
  intro j u hj
  rw [List.getElem?_map] at hj
  cases hz : zs[j]? with
  | none => rw [hz] at hj; simp at hj
  | some x =>
    rw [hz] at hj
    simp at hj
    have hl : j < zs.length := (List.getElem?_eq_some_iff.1 hz).1
    have h := hc j hl
    have add : (⟨b, off, none⟩ : Addr).add j = ⟨b, off + j, none⟩ := by
      unfold Addr.add
      split <;> simp_all
    rw [add, h, ← hj, List.getD_eq_getElem?_getD, hz]
    rfl
theorem toString_any (a : Option Addr) (zs : List Int) (len cap : Nat) (w : World) (h : Ints .u8 w a zs) (hl : zs.length = len) : (convert 48 9 (.slice a len cap)).run Tryz.prog w = .ok (.string (strOf zs)) w := by
  rw [run_convert_bytes_string w 48 9 5 _ len cap Tryz.underlying48 Tryz.underlying5 Tryz.underlying9]
  rcases h with rfl | ⟨b, off, rfl, hc⟩
  · simp at hl
    subst hl
    cases a with
    | none => rfl
    | some x =>
      have := run_loadCells_list (P := Tryz.prog) (w := w) x [] (by simp)
      exact run_bytesToString w x 0 cap [] this
  · have := run_loadCells_list (P := Tryz.prog) (w := w) ⟨b, off, none⟩ (zs.map (.int .u8)) (ints_cellsN hc)
    rw [List.length_map, hl] at this
    exact run_bytesToString w _ len cap zs this

end Go.Proofs.YtjiaiaclmceeeaaGreatDoor
