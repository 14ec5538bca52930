import Derived.Test.YtpeecjoadgefjaaRDraw4
import Derived.Test.YtpeecjoadgefjaaRMath2
import Derived.Test.YtpeecjoadgefjaaRSpec9
import Derived.Test.YtpeecjoadgefjaaRLaw9
import Derived.Test.YtpeecjoadgefjaaSpanCut
import Derived.Test.YtpeecjoadgefjaaSpanGaps
namespace Go.Proofs.Ytpeecjoadgefjaa
open Go.ChangeShapes Go.WideShapes Go.ChangeAt Go.RowKit
set_option linter.unusedVariables false

theorem row_cap {w : World} {base : Nat} {e : TypeId} {size : Nat} {a : Option Addr} {n cap : Nat} {xs : List Value} (h : w.ownsRow base e size (.slice a n cap) n xs) : n ≤ cap ∧ cap ≤ 9223372036854775807 ∧ (a = none → cap = 0) := by
  rcases h.2 with ⟨e0, h0⟩ | ⟨g, cp', cur, e0, _, _, h1, h2, _⟩
  · simp only [Value.slice.injEq] at e0
    obtain ⟨rfl, rfl, rfl⟩ := e0
    exact ⟨Nat.le_refl _, by omega, fun _ => rfl⟩
  · simp only [Value.slice.injEq] at e0
    obtain ⟨rfl, _, rfl⟩ := e0
    unfold maxLen at h2
    exact ⟨h1, by omega, fun h => by cases h⟩
theorem cnt_le (f : Int → Option Int) : ∀ (k : Nat) (x : Int), cnt f k x ≤ k := by
  intro k
  induction k with
  | zero => intro x; simp [cnt]
  | succ k ih =>
    intro x
    rw [cnt]
    have := ih (x + 1)
    split <;> omega
set_option maxHeartbeats 1000000 in
theorem lSpans_quiet (a a' : Option Addr) (S : Sp) (n cap cap' : Nat) (w : World) (hn : S.length = n) (hS : Spans w a S) (hS' : Spans w a' S) (hl : n ≤ 1048576) :
    Calls Try.prog 27 #[.slice a n cap, .slice a' n cap'] w fun e w' => e = .returned (.bool true) ∧ ∃ m, w' = w.drewN m := by
  subst hn
  go_enter Try.func27, Try.ntmps27
  go_wp2_with fail
  go_loopw [5] (fun iv wr => ∃ k m : Nat, k ≤ S.length ∧ iv = .int .i64 (k : Int) ∧ wr = w.drewN m) (fun iv _ => S.length - (intOf iv).toNat)
  case atStart => exact ⟨0, 0, Nat.zero_le _, rfl, rfl⟩
  case round =>
  obtain ⟨k, m, hk, rfl, rfl⟩ := hrel
  by_cases hlt : k < S.length
  case pos =>
    rcases hS with h0 | ⟨b, off, rfl, hc⟩
    · rw [h0] at hlt; simp at hlt
    rcases hS' with h0 | ⟨b2, off2, rfl, hc2⟩
    · rw [h0] at hlt; simp at hlt
    obtain ⟨x0, x1⟩ := hc k hlt
    obtain ⟨y0, y1⟩ := hc2 k hlt
    obtain ⟨u, hu⟩ : ∃ u, u = (S[k]).1 := ⟨_, rfl⟩
    obtain ⟨v, hv⟩ : ∃ v, v = (S[k]).2 := ⟨_, rfl⟩
    rw [← hu] at x0 y0
    rw [← hv] at x1 y1
    have hki : (k : Int) < (S.length : Int) := by omega
    clear hc hc2 hu hv
    go_wp2_with fail
    go_quiet (fail)
    go_wp2_with fail
    go_roundw
    case rel => exact ⟨k + 1, _, by omega, by go_num, rfl⟩
    case measure => simp [intOf]; omega
  case neg =>
  obtain rfl : k = S.length := by omega
  have hkk : ¬ (S.length : Int) < (S.length : Int) := by omega
  go_wp2_with fail
  go_ret
  exact ⟨rfl, m, rfl⟩
/-- Events, both sides' answers and the view, where they lie behind the calls. -/
structure Laid (W : World) (X : Int) (Z M : Nat) (ES : List REv) (ea : Option Addr) (G : Evs) (wa ia : Option Addr) (wc ic bw bi : Nat) (Gw Gi : GotO) (XV : Nat) (ha : Option Addr) (hc : Nat) : Prop where
  ev : EvIn W ea G
  gm : G.map (·.1) = ES
  wo : OutsR W bw (.slice wa M wc) Gw
  io : OutsR W bi (.slice ia M ic) Gi
  wm : Gw.map (·.1) = outsR Z (startR X) ES
  im : Gi.map (·.1) = outsR Z (startR X) ES
  vw : W.heap[XV]? = some (.cells (viewV Z (stateR Z X ES) ha hc) 44 (0, 0))
  hr : W.ownsRow 0 31 2 (.slice ha (heldR Z (stateR Z X ES)).length hc) (heldR Z (stateR Z X ES)).length (flat (heldR Z (stateR Z X ES)))
theorem Laid.moved {W W' : World} {X : Int} {Z M : Nat} {ES : List REv} {ea : Option Addr} {G : Evs} {wa ia : Option Addr} {wc ic bw bi : Nat} {Gw Gi : GotO} {XV : Nat} {ha : Option Addr} {hc : Nat} (h : Laid W X Z M ES ea G wa ia wc ic bw bi Gw Gi XV ha hc) (hb : Below W.heap.size W W') : Laid W' X Z M ES ea G wa ia wc ic bw bi Gw Gi XV ha hc :=
  ⟨h.ev.moved hb, h.gm, h.wo.keep fun k _ hk => hb.block k hk, h.io.keep fun k _ hk => hb.block k hk, h.wm, h.im, (hb.block XV (Array.getElem?_eq_some_iff.1 h.vw).1).trans h.vw, row_stays h.hr fun k hk => hb.block k (h.hr.lt k hk).2⟩
end Go.Proofs.Ytpeecjoadgefjaa
