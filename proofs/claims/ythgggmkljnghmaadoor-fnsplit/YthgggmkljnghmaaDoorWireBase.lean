import Derived.Test.YthgggmkljnghmaaDoorBytes
import Derived.Test.YthgggmkljnghmaaDoorRows1
import Derived.Laws.AppendOwnNone
namespace Go.Proofs.YthgggmkljnghmaaDoor
open Go.ChangeShapes Go.WideShapes Go.ChangeAt Go.RowKit
set_option linter.unusedVariables false

theorem ints_cells {k : IntKind} {w : World} {b off : Nat} {ys : List Int} (hc : ∀ i, i < ys.length → w.cell? ⟨b, off + i, none⟩ = some (.int k (ys.getD i 0))) :
    ∀ j u, (ys.map (Value.int k))[j]? = some u → w.cell? ((⟨b, off, none⟩ : Addr).add j) = some u := by
  intro j u hj
  have hjl : j < (ys.map (Value.int k)).length := (List.getElem?_eq_some_iff.1 hj).1
  simp only [List.length_map] at hjl
  have add : (⟨b, off, none⟩ : Addr).add j = ⟨b, off + j, none⟩ := by
    unfold Addr.add
    split <;> simp_all
  rw [add, hc j hjl, ← hj]
  simp [hjl]

/-- One append of many bytes, in a walk. -/
theorem wpList_appI (w : World) {ops : Array Oper} {rest : List Oper} {o : Oper} {a : Act} {Q : Exit → Act → World → Prop} (hgd : o.guard = none) (s x : Operand)
    (ho : o.op = .call { callee := .builtin .append, args := #[s, x], argTypes := #[24, 24] })
    (base : Nat) (av : Option Addr) (n cap : Nat) (zs : List Int) (hn : zs.length = n) (hs : a.eval s = .slice av n cap) (hown : w.ownsRow base 5 1 (.slice av n cap) n (zs.map (.int .u8)))
    (src : Option Addr) (ys : List Int) (m c : Nat) (hm : ys.length = m) (hx : a.eval x = .slice src m c) (hnone : src = none → c = 0) (hT : Ints .u8 w src ys) (hl : n + m ≤ 4294967296) (hbase : base ≤ w.heap.size)
    (h : ∀ av' cap' w', w'.ownsRow base 5 1 (.slice av' (n + m) cap') (n + m) ((zs ++ ys).map (.int .u8)) → w.grownBy w' (Value.slice av n cap).ownBlock →
      wpList Tryd.prog ops Q rest (a.put o.dst (.slice av' (n + m) cap')) w') : wpList Tryd.prog ops Q (o :: rest) a w := by
  obtain ⟨i0, hi, hz0, hz1, hz2⟩ := info_parts info_byte
  cases src with
  | none =>
    have hT0 : ys = [] := by
      rcases hT with h | ⟨_, _, h, _⟩
      · exact h
      · cases h
    subst hT0
    have hc0 := hnone rfl
    simp at hm
    subst hm hc0
    refine wpList_append_own_none hgd s x 24 ho base 5 i0 1 Tryd.underlying24 hi _ n (zs.map (.int .u8)) hs hown hx ?_
    exact h av cap w (by simpa using hown) (World.grownBy.refl _ _)
  | some ad =>
    refine wpList_append_own w hgd s x 24 ho base 5 i0 (.int .u8 0) 1 1 Tryd.underlying24 hi hz0 hz1 hz2 rfl (by decide) (.slice av n cap) n (zs.map (.int .u8)) hs hown ad m c (ys.map (.int .u8)) hx (by simp [hm]) ?_ ?_ ?_ ?_ hbase ?_
    · rcases hT with h0 | ⟨b, off, h0, hc⟩
      · intro j u hj
        rw [h0] at hj
        simp at hj
      · simp only [Option.some.injEq] at h0
        subst h0
        exact ints_cells hc
    · intro u hu
      simp only [List.mem_map] at hu
      obtain ⟨z, _, rfl⟩ := hu
      rfl
    · unfold maxLen; omega
    · omega
    · intro v' w' h2 h3 h4
      rw [← List.map_append] at h2
      rcases h2.2 with ⟨h5, h0⟩ | ⟨g, cap', cur, h5, rest⟩
      · subst h5
        have := h none 0 w'
        rw [h0] at this h2
        exact this h2 h3
      · subst h5
        exact h _ cap' w' h2 h3

/-- The i-th byte of x from below. -/
def byteOf (x : Int) (i : Nat) : Int := x / 2 ^ (8 * i) % 256
/-- x in n bytes, the highest first. -/
def be (x : Int) (n : Nat) : List Int := (List.range n).map fun j => byteOf x (n - 1 - j)
theorem be_length (x : Int) (n : Nat) : (be x n).length = n := by simp [be]
theorem be_fits (x : Int) (n : Nat) : ∀ z ∈ be x n, 0 ≤ z ∧ z ≤ 255 := by
  intro z hz
  simp only [be, List.mem_map] at hz
  obtain ⟨j, _, rfl⟩ := hz
  unfold byteOf
  omega
/-- The first t of them. -/
theorem be_take (x : Int) (n t : Nat) (h : t < n) : (be x n).take (t + 1) = (be x n).take t ++ [byteOf x (n - 1 - t)] := by
  rw [List.take_succ_eq_append_getElem (by rw [be_length]; exact h)]
  simp [be]

end Go.Proofs.YthgggmkljnghmaaDoor
