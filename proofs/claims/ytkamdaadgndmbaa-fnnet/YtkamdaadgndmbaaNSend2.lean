import Derived.Test.YtkamdaadgndmbaaNSend
namespace Go.Proofs.Ytkamdaadgndmbaa
open Go.ChangeShapes Go.WideShapes Go.ChangeAt Go.RowKit
set_option linter.unusedVariables false

theorem NetAt.moved {w w' : World} {X base : Nat} {s : NS} {L : List Lk} (h : NetAt w X base s L) (hb : Below w.heap.size w w') : NetAt w' X base s L :=
  ⟨(hb.block X (Array.getElem?_eq_some_iff.1 h.blk).1).trans h.blk, h.bags.stays fun k cs t _ _ hk => hb.block k (Array.getElem?_eq_some_iff.1 hk).1, h.cut, h.bag⟩
theorem Keeps.refl (w : World) (X base : Nat) : Keeps w w X base := ⟨rfl, rfl, rfl, Nat.le_refl _, fun _ _ _ _ => rfl⟩
/-- What was made ahead is kept too. -/
theorem Keeps.after {w w1 w2 : World} {X base : Nat} (hb : Below w.heap.size w w1) (h : Keeps w1 w2 X base) : Keeps w w2 X base :=
  ⟨h.os.trans hb.os, h.tape.trans hb.tape, h.output.trans hb.output, Nat.le_trans hb.size h.size, fun k hk h1 h2 => by
    refine (h.block k (Nat.lt_of_lt_of_le hk hb.size) h1 ?_).trans (hb.block k hk)
    rcases h2 with h2 | h2
    · exact .inl h2
    · exact .inr fun cs => by rw [hb.block k hk]; exact h2 cs⟩
theorem SubD.le {n m : Nat} {L L' : List Lk} (h : SubD n L L') (hm : m ≤ n) : SubD m L L' := fun p hp q hq k hk => (h p hp q hq k hk).imp (fun h => Nat.le_trans hm h) id
set_option maxRecDepth 100000 in
set_option maxHeartbeats 400000 in
theorem send_any (X base i d : Nat) (s : NS) (L : List Lk) (w : World) (h : NetAt w X base s L) (hinv : InvN s) (hi : i < L.length) (hd : d < 2) (hb : base ≤ w.heap.size) (e : NEv) (hpa : e.pa = i) (hdi : e.di = d) (da : Option Addr) (dl dc : Nat) (hdl : e.dat.length = dl) (hdat : Ints .u8 w da e.dat) (hnone : da = none → dc = 0) (hl : dl ≤ 1048576) :
    Calls Try.prog 52 #[.pointer (some ⟨X, i * 3, none⟩), .int .i64 (d : Int), .slice da dl dc] w fun r w' => ∃ L', r = .returned (.int .i64 (sendN s e).1.code) ∧ L'.length = L.length ∧ NetAt w' X base (sendN s e).2 L' ∧ SubD w.heap.size L L' ∧ Keeps w w' X base := by
  obtain ⟨k0, _, _⟩ := flatL_at hi
  have c0 : w.cell? ⟨X, i * 3, none⟩ = some (.int .i64 (s.cut i)) := by
    rw [Go.Joins.cell_of_block h.blk, List.getElem?_toArray, k0, h.cut i hi]
  have hrow := h.row hi hd
  obtain ⟨av, cap, hsh⟩ := own_shape hrow
  have hbl : ((L[i]).bag d).2.length = (s.bag i d).length := by rw [← h.bag i hi d hd, List.length_map]
  have c1 : w.cell? ⟨X, i * 3 + 1 + d, none⟩ = some (.slice av (s.bag i d).length cap) := by
    rw [Go.Joins.cell_of_block h.blk, List.getElem?_toArray, flatL_bag hi hd, hsh, hbl]
  have hlen := hinv.len i d
  have hd2 : (d : Int) < 2 := by omega
  unfold sendN
  rw [hpa, hdi, hdl]
  obtain ⟨m, hm⟩ : ∃ m, Hid (m = (s.bag i d).length) := ⟨_, rfl⟩
  rw [← hm.out] at c1 hlen ⊢
  obtain ⟨c, hc⟩ : ∃ c, Hid (c = s.cut i) := ⟨_, rfl⟩
  rw [← hc.out] at c0 ⊢
  by_cases h1 : 64 < dl
  · rw [if_pos h1]
    have h1i : (64 : Int) < (dl : Int) := by omega
    go_enter Try.func52, Try.ntmps52
    go_wp2_with fail
    go_ret
    first | exact ⟨L, rfl, rfl, h, SubD.refl _ _, Keeps.refl _ _ _⟩ | exact ⟨rfl, L, rfl, h, SubD.refl _ _, Keeps.refl _ _ _⟩
  · rw [if_neg h1]
    have h1i : ¬ (64 : Int) < (dl : Int) := by omega
    by_cases h2 : c = 1
    · rw [if_pos h2]
      have b2 : (c == 1) = true := by simpa using h2
      have HC : Hid _ := h2
      clear h2
      go_enter Try.func52, Try.ntmps52
      go_wp2_with fail
      go_ret
      first | exact ⟨L, rfl, rfl, h, SubD.refl _ _, Keeps.refl _ _ _⟩ | exact ⟨rfl, L, rfl, h, SubD.refl _ _, Keeps.refl _ _ _⟩
    · rw [if_neg h2]
      have b2 : (c == 1) = false := by simpa using h2
      have hq := qsize_any X (i * 3 + 1 + d) av m cap w c1 (by omega)
      clear h2
      by_cases h3 : 64 ≤ m
      · rw [if_pos h3]
        have h3i : (64 : Int) ≤ (m : Int) := by omega
        go_enter Try.func52, Try.ntmps52
        go_wp2_with fail
        refine hq.mono ?_
        rintro r w1 ⟨rfl, rfl⟩
        go_wp2_with fail
        go_ret
        first | exact ⟨L, rfl, rfl, h, SubD.refl _ _, Keeps.refl _ _ _⟩ | exact ⟨rfl, L, rfl, h, SubD.refl _ _, Keeps.refl _ _ _⟩
      · rw [if_neg h3]
        have h3i : ¬ (64 : Int) ≤ (m : Int) := by omega
        have hcp := copyB da e.dat dl dc hdl w hdat hl hnone
        go_enter Try.func52, Try.ntmps52
        go_wp2_with fail
        refine hq.mono ?_
        rintro r w1 ⟨rfl, rfl⟩
        go_wp2_with fail
        refine hcp.mono ?_
        rintro r w2 ⟨ua, uc, rfl, hu, hb2⟩
        have hput := put_net X base i d s L w2 (h.moved hb2) hi hd (Nat.le_trans hb hb2.size) (by have := hm.out; omega) e.dat ua uc w1.heap.size (by rw [hdl]; exact hu) hb (fun p hp q hq k hk => ((h.bags.dat p hp q hq).lt k hk).2) dl hdl
        go_wp2_with fail
        refine hput.mono ?_
        rintro r w3 ⟨L', rfl, hL', hN, hS, hK⟩
        go_wp2_with fail
        go_ret
        exact ⟨L', rfl, hL', hN, hS, Keeps.after hb2 hK⟩
end Go.Proofs.Ytkamdaadgndmbaa
