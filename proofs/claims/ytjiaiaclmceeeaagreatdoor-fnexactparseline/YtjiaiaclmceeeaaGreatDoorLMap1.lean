import Derived.Test.YtjiaiaclmceeeaaGreatDoorLineNum
import Derived.Test.YtjiaiaclmceeeaaGreatDoorLineWord
import Derived.Laws.EntriesVeiled
import Derived.WideMake
namespace Go.Proofs.YtjiaiaclmceeeaaGreatDoor
open Go.ChangeShapes Go.WideShapes Go.ChangeAt Go.RowKit
set_option linter.unusedVariables false

/-! ### The table of lines: a map that the call makes -/
theorem run_insert {P : Program} (w : World) (mty kt et : TypeId) (r clock : Nat) (s : ByteArray) (val : Value) (es : Array MapEntry) (hm : P.underlying mty = some (.map kt et)) (hk : P.underlying kt = some .string) (hb : w.heap[r]? = some (.map es clock)) (hf : Instr.findNow .string (.string s) es.toList 0 = some none) :
    (Instr.mapUpdate mty (.map (some r)) (.string s) val).run P w = .ok () { w with heap := w.heap.setIfInBounds r (.map (es.push { key := .string s, val := val, born := clock }) (clock + 1)) } := by
  have hc : (Instr.checkKey false 10000 kt (.string s)).run P w = .ok () w := MapKept.run_checkKey (k := .string s) hk (by simp [MapKept.IsKey]) false 9999
  simp [Instr.mapUpdate, run_underlying hm, MapKept.run_getObj_map hb, hc, MapKept.run_findKey hk hf, MapKept.run_setObj_map _ hb, Result.andThen]
theorem run_look {P : Program} (w : World) (mty kt et : TypeId) (r clock : Nat) (s : ByteArray) (es : Array MapEntry) (q : Option (Nat × Value)) (z : Value) (hm : P.underlying mty = some (.map kt et)) (hk : P.underlying kt = some .string) (hz : (zeroValue et).run P w = .ok z w) (hb : w.heap[r]? = some (.map es clock)) (hf : Instr.findNow .string (.string s) es.toList 0 = some q) :
    (Instr.lookup mty (.map (some r)) (.string s) true).run P w = .ok (.tuple #[(q.map (·.2)).getD z, .bool q.isSome]) w := by
  have hc : ∀ b, (Instr.checkKey b 10000 kt (.string s)).run P w = .ok () w := fun b => MapKept.run_checkKey (k := .string s) hk (by simp [MapKept.IsKey]) b 9999
  cases q <;> simp [Instr.lookup, run_underlying hm, MapKept.run_getObj_map hb, hc, MapKept.run_findKey hk hf, hz, Result.andThen]
/-- One line of the table. -/
structure Ent where
  key : ByteArray
  op : Int
  kinds : List Int
  ka : Option Addr
  kc : Nat
  fn : Nat
  rc : Nat
def Ent.val (e : Ent) : Value := .agg #[.int .i64 e.op, .slice e.ka e.kinds.length e.kc, .func (.func e.fn) #[.pointer (some ⟨e.rc, 0, none⟩)] #[]]
def entsAt : Nat → List Ent → List MapEntry
  | _, [] => []
  | n, e :: r => { key := .string e.key, val := e.val, born := n } :: entsAt (n + 1) r
theorem entsAt_snoc (e : Ent) : ∀ (L : List Ent) (n : Nat), entsAt n (L ++ [e]) = entsAt n L ++ [{ key := .string e.key, val := e.val, born := n + L.length }] := by
  intro L
  induction L with
  | nil => intro n; rfl
  | cons x r ih => intro n; simp [entsAt, ih]; omega
/-- The table so far. -/
structure OrdAt (w0 w : World) (B : Nat) (L : List Ent) : Prop where
  map : w.heap[B]? = some (.map (entsAt 0 L).toArray L.length)
  kin : ∀ e ∈ L, Ints .i64 w e.ka e.kinds ∧ ∀ b o, e.ka = some ⟨b, o, none⟩ → b ≠ B
  new : w0.heap.size ≤ B
  bel : Below w0.heap.size w0 w
theorem OrdAt.alloc {w0 w : World} {B : Nat} {L : List Ent} (h : OrdAt w0 w B L) (o : Obj) : OrdAt w0 (w.alloc o) B L := by
  have hl : B < w.heap.size := (Array.getElem?_eq_some_iff.1 h.map).1
  exact ⟨(Below.heap_alloc _ _ _ hl).trans h.map, fun e he => ⟨(h.kin e he).1.moved ((Below.refl _ _).alloc (Nat.le_refl _) _), (h.kin e he).2⟩, h.new, h.bel.alloc h.bel.size _⟩
theorem OrdAt.put {w0 w : World} {B : Nat} {L : List Ent} (h : OrdAt w0 w B L) (e : Ent) (hk : Ints .i64 w e.ka e.kinds) (hB : ∀ b o, e.ka = some ⟨b, o, none⟩ → b ≠ B) :
    OrdAt w0 { w with heap := w.heap.setIfInBounds B (.map ((entsAt 0 L).toArray.push { key := .string e.key, val := e.val, born := L.length }) (L.length + 1)) } B (L ++ [e]) := by
  obtain ⟨h1, h2⟩ := MapKept.heap_set (w := w) (o' := .map ((entsAt 0 L).toArray.push { key := .string e.key, val := e.val, born := L.length }) (L.length + 1)) h.map
  have hst : ∀ {a : Option Addr} {zs : List Int}, Ints .i64 w a zs → (∀ b o, a = some ⟨b, o, none⟩ → b ≠ B) → Ints .i64 { w with heap := w.heap.setIfInBounds B (.map ((entsAt 0 L).toArray.push { key := .string e.key, val := e.val, born := L.length }) (L.length + 1)) } a zs := by
    intro a zs h3 h4
    rcases h3 with h3 | ⟨b, off, rfl, hc⟩
    · exact .inl h3
    · exact .inr ⟨b, off, rfl, fun i hi => (World.cell?_of_block (a := ⟨b, off + i, none⟩) (h2 b (h4 b off rfl))).trans (hc i hi)⟩
  refine ⟨?_, fun x hx => ?_, h.new, ?_⟩
  · rw [h1, entsAt_snoc, List.length_append]
    simp
  · rcases List.mem_append.1 hx with hx | hx
    · exact ⟨hst (h.kin x hx).1 (h.kin x hx).2, (h.kin x hx).2⟩
    · simp at hx; subst hx; exact ⟨hst hk hB, hB⟩
  · exact ⟨h.bel.os, h.bel.tape, h.bel.output, by simpa using h.bel.size, fun k hk => (h2 k (by have := h.new; omega)).trans (h.bel.block k hk)⟩
/-- 'findNow' finds no key where none is the same. -/
theorem find_none (s : ByteArray) : ∀ (L : List Ent) (n i : Nat), (∀ e ∈ L, (s == e.key) = false) → Instr.findNow .string (.string s) (entsAt n L) i = some none := by
  intro L
  induction L with
  | nil => intro n i _; rfl
  | cons x r ih =>
    intro n i h
    have h1 := h x (List.mem_cons_self ..)
    simp only [entsAt, Instr.findNow, Instr.sameNow, h1]
    exact ih _ _ fun e he => h e (List.mem_cons_of_mem _ he)
theorem wpList_ins (w0 w : World) {ops : Array Oper} {rest : List Oper} {o : Oper} {a : Act} {Q : Exit → Act → World → Prop} (hgd : o.guard = none) (m k x : Operand) (ho : o.op = Op.insert 69 m k x)
    (B : Nat) (L : List Ent) (hO : OrdAt w0 w B L) (e : Ent) (hm : a.eval m = .map (some B)) (hk : a.eval k = .string e.key) (hx : a.eval x = e.val) (hne : (L.all fun y => !(e.key == y.key)) = true) (hkin : Ints .i64 w e.ka e.kinds) (hB : ∀ b o, e.ka = some ⟨b, o, none⟩ → b ≠ B)
    (h : ∀ w', OrdAt w0 w' B (L ++ [e]) → wpList Tryz.prog ops Q rest (a.put o.dst undef) w') : wpList Tryz.prog ops Q (o :: rest) a w := by
  refine wpList_plain hgd fun K' hK' => ?_
  have hrun := run_insert (P := Tryz.prog) w 69 9 66 B L.length e.key e.val (entsAt 0 L).toArray Tryz.underlying69 Tryz.underlying9 hO.map (find_none e.key L 0 0 fun y hy => by have q := List.all_eq_true.1 hne y hy; simpa using q)
  unfold Oper.wp
  simp [execOp, ho, hm, hk, hx, hrun, Result.andThen]
  exact hK' _ _ (h _ (by have q := hO.put e hkin hB; rwa [List.push_toArray] at q))
end Go.Proofs.YtjiaiaclmceeeaaGreatDoor
