import Derived.Test.YtkamdaadgndmbaaNMust
namespace Go.Proofs.Ytkamdaadgndmbaa
open Go.ChangeShapes Go.WideShapes Go.ChangeAt Go.RowKit
set_option linter.unusedVariables false
set_option linter.unusedSimpArgs false

/-! ### The 'if' of FnNet's round, cut out -/
def condAt (n : Nat) : Code → Option Code
  | .cond (.tmp m) a b => if m = n then some (.cond (.tmp m) a b) else (match condAt n a with
    | some c => some c
    | none => condAt n b)
  | .loop c => condAt n c
  | .seq a b => match condAt n a with
    | some c => some c
    | none => condAt n b
  | .block _ c => condAt n c
  | .scope c => condAt n c
  | _ => none
abbrev ifAt (f : Func) (n : Nat) : Code := (f.body.bind (condAt n)).getD .skip
/-- What a round begins with. -/
structure Rnd (w4 W8 : World) (p N lb lc cb cc E : Nat) (V : Nat → Value) (B : Nat → Bg) (C : Nat → Int) (s s' : NS) (kd pa di ix : Int) (dat : List Int) (da : Option Addr) (dl dc : Nat) (code : Int) (od : List Int) (ol : Nat) : Prop where
  la : ListsAt w4 W8 lb lc cb cc N V B C
  ag : Agree p s B C
  inv : InvN s
  dt : Ints .u8 w4 da dat
  ok : EvOk ⟨kd, pa, di, ix, dat⟩
  gk : (⟨code, od⟩ : NOut) = (stepN p s ⟨kd, pa, di, ix, dat⟩).1
  st : s' = (stepN p s ⟨kd, pa, di, ix, dat⟩).2
  hdl : dl = dat.length
  hol : ol = od.length
  n : N = 2 * p
  p1 : 1 ≤ p
  p8 : p ≤ 8
  box : W8.heap[E]? = some (.cells #[.int .i64 kd, .int .i64 pa, .int .i64 di, .int .i64 ix, .slice da dl dc] 35 (0, 0))
theorem outsN_get (n : Int) (es : List NEv) : ∀ (s : NS) (k : Nat) (h : k < es.length), (outsN n s es)[k]? = some (stepN n ((es.take k).foldl (fun s e => (stepN n s e).2) s) (es[k])).1 := by
  induction es with
  | nil => intro s k h; simp at h
  | cons x es ih =>
    intro s k h
    cases k with
    | zero => rfl
    | succ k =>
      have := ih (stepN n s x).2 k (by simpa using h)
      simpa [outsN] using this
theorem step_no {n : Int} {s : NS} (e : NEv) (hc : (stepN n s e).1.code ≠ 0) : (stepN n s e).1.dat = [] ∧ (stepN n s e).2 = s := by
  unfold stepN sendN handleN at hc ⊢
  repeat' split
  all_goals first | exact ⟨rfl, rfl⟩ | (exfalso; simp_all; done) | skip
  all_goals simp_all
theorem step_send {n : Int} {s : NS} (e : NEv) (k : e.kd = 1) (hc : (stepN n s e).1.code = 0) : stepN n s e = (⟨0, []⟩, s.put e.pa e.di (s.bag e.pa e.di ++ [e.dat])) := by
  unfold stepN sendN handleN at hc ⊢
  repeat' split
  all_goals first | rfl | omega | (exfalso; simp_all; done)
theorem step_del {n : Int} {s : NS} (e : NEv) (k : e.kd = 2) (hc : (stepN n s e).1.code = 0) : stepN n s e = (⟨0, (s.bag e.pa e.di).getD e.ix.toNat []⟩, s.put e.pa e.di ((s.bag e.pa e.di).eraseIdx e.ix.toNat)) := by
  unfold stepN sendN handleN at hc ⊢
  repeat' split
  all_goals first | rfl | omega | (exfalso; simp_all; done)
theorem step_drop {n : Int} {s : NS} (e : NEv) (k : e.kd = 3) (hc : (stepN n s e).1.code = 0) : stepN n s e = (⟨0, []⟩, s.put e.pa e.di ((s.bag e.pa e.di).eraseIdx e.ix.toNat)) := by
  unfold stepN sendN handleN at hc ⊢
  repeat' split
  all_goals first | rfl | omega | (exfalso; simp_all; done)
theorem step_dup {n : Int} {s : NS} (e : NEv) (k : e.kd = 4) (hc : (stepN n s e).1.code = 0) : stepN n s e = (⟨0, []⟩, s.put e.pa e.di (s.bag e.pa e.di ++ [(s.bag e.pa e.di).getD e.ix.toNat []])) := by
  unfold stepN sendN handleN at hc ⊢
  repeat' split
  all_goals first | rfl | omega | (exfalso; simp_all; done)
theorem step_cut {n : Int} {s : NS} (e : NEv) (k : e.kd = 5) (hc : (stepN n s e).1.code = 0) : stepN n s e = (⟨0, []⟩, s.cutOff e.pa) := by
  unfold stepN sendN handleN at hc ⊢
  repeat' split
  all_goals first | rfl | omega | (exfalso; simp_all; done)
theorem step_up {n : Int} {s : NS} (e : NEv) (k : e.kd = 6) (hc : (stepN n s e).1.code = 0) : stepN n s e = (⟨0, []⟩, s.up e.pa) := by
  unfold stepN sendN handleN at hc ⊢
  repeat' split
  all_goals first | rfl | omega | (exfalso; simp_all; done)
end Go.Proofs.Ytkamdaadgndmbaa
