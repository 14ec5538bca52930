import Derived.Test.YthgggmkljnghmaaDoorDecLaw
namespace Go.Proofs.YthgggmkljnghmaaDoor
open Go.ChangeShapes Go.WideShapes Go.ChangeAt Go.RowKit
set_option linter.unusedVariables false

theorem lCopy_any (a : Option Addr) (zs : List Int) (n cap : Nat) (w : World) (hz : Ints .u8 w a zs) (hn : zs.length = n) (hl : n ≤ 1048576) :
    Calls Tryd.prog 21 #[.slice a n cap] w fun e w' => ∃ av cp, e = .returned (.slice av n cp) ∧ w'.ownsRow w.heap.size 5 1 (.slice av n cp) n (zs.map (.int .u8)) ∧ Below w.heap.size w w' := by
  have hmade : (w.alloc (.cells #[] 5)).ownsRow w.heap.size 5 1 (.slice (some ⟨w.heap.size, 0, none⟩) 0 0) 0 (([] : List Int).map (.int .u8)) := World.ownsRow_made w #[] 0 (Nat.le_refl _) (by unfold maxLen; omega) rfl
  go_enter Tryd.func21, Tryd.ntmps21
  go_wp2
  go_loopw [3, 4] (fun v i wr => ∃ (k : Nat) (av : Option Addr) (cp : Nat), k ≤ n ∧ i = .int .i64 k ∧ v = .slice av k cp ∧ wr.ownsRow w.heap.size 5 1 (.slice av k cp) k ((zs.take k).map (.int .u8)) ∧ Below w.heap.size w wr) (fun _ i _ => n - (intOf i).toNat)
  case atStart => exact ⟨0, _, _, Nat.zero_le _, rfl, rfl, hmade, (Below.refl _ _).alloc (Nat.le_refl _) _⟩
  case round =>
    clear hmade
    obtain ⟨k, av, cp, hk, rfl, rfl, hown, hb⟩ := hrel
    by_cases hlt : k < n
    · rcases hz with h | ⟨b, off, rfl, hcz⟩
      · simp [h] at hn; omega
      · have hcell := (hb.cell (World.block_lt_of_cell? w _ (hcz k (by omega)))).trans (hcz k (by omega))
        obtain ⟨c, hcc⟩ : ∃ c, zs.getD k 0 = c := ⟨_, rfl⟩
        have hstep : Hid (zs.take (k + 1) = zs.take k ++ [c]) := by
          unfold Hid
          rw [List.take_succ_eq_append_getElem (by omega), ← hcc]
          simp [show k < zs.length by omega]
        rw [hcc] at hcell
        have hsz := hb.size
        clear hcc hcz
        go_wp2_with (at_builtin; refine wpList_app1 _ (by rfl) _ _ 24 5 (by rfl) .u8 1 Tryd.underlying24 info_byte (by decide) w.heap.size av k cp (zs.take k) c (by rfl) (hown.alloc _) ⟨wr.heap.size, 0, none⟩ (by rfl) (by simp) (by omega) (by simp; omega) ?_; intro g cap' w4 ho4 hg4)
        have hb4 := below_grown (hb.alloc hsz _) (hown.alloc _) hg4 (Nat.le_refl _) (by simp; omega)
        go_roundw
        case rel => exact ⟨k + 1, _, _, by omega, by go_num, rfl, by rw [hstep.out]; exact ho4, hb4⟩
        case measure => simp [intOf]; omega
    · go_wp2
      go_ret
      have : k = n := by omega
      subst this
      rw [← hn, List.take_length, hn] at hown
      exact ⟨_, _, rfl, hown, hb⟩

theorem toString_any (a : Option Addr) (zs : List Int) (len cap : Nat) (w : World) (h : Ints .u8 w a zs) (hl : zs.length = len) : (convert 24 9 (.slice a len cap)).run Tryd.prog w = .ok (.string (strOf zs)) w := by
  by_cases h0 : 0 < len
  · exact toString_bytes a zs len cap w h hl h0
  · obtain rfl : zs = [] := List.eq_nil_of_length_eq_zero (by omega)
    simp at hl
    subst hl
    rw [run_convert_bytes_string w 24 9 5 _ 0 cap Tryd.underlying24 Tryd.underlying5 Tryd.underlying9]
    cases a with
    | none => rfl
    | some x =>
      have := run_loadCells_list (P := Tryd.prog) (w := w) x [] (by simp)
      exact run_bytesToString w x 0 cap [] this

theorem szOf_at {zs : List Int} (h : ∀ x ∈ zs, 0 ≤ x ∧ x ≤ 255) (h3 : 3 < zs.length) : ((szOf zs : Nat) : Int) = zs.getD 3 0 := by
  have h1 := fld_one (zs := zs) 3 h3
  have h2 := (fld_lt h 3 1 256 rfl).1
  rw [← h1]
  unfold szOf
  omega

theorem frameSize_any (a : Option Addr) (zs : List Int) (n cap : Nat) (w : World) (hz : Ints .u8 w a zs) (hn : zs.length = n) (hzv : ∀ x ∈ zs, 0 ≤ x ∧ x ≤ 255) (h3 : 3 < n) :
    Calls Tryd.prog 42 #[.slice a n cap] w fun e w' => e = .returned (.int .i64 (22 + (szOf zs : Int))) ∧ w' = w := by
  rcases hz with h | ⟨b, off, rfl, hcz⟩
  · simp [h] at hn; omega
  obtain ⟨c, hnc, c0, c1, hcell⟩ := byteAt hzv hcz (show 3 < zs.length by omega)
  have hc := szOf_at hzv (show 3 < zs.length by omega)
  rw [hnc.out] at hc
  rw [hc]
  clear hcz hc
  go_enter Tryd.func42, Tryd.ntmps42
  go_wp2
  go_ret
  exact ⟨ret_int (by omega), rfl⟩

theorem holdsWhole_yes (a : Option Addr) (zs : List Int) (n cap : Nat) (w : World) (hz : Ints .u8 w a zs) (hn : zs.length = n) (hzv : ∀ x ∈ zs, 0 ≤ x ∧ x ≤ 255) (h22 : 22 + szOf zs ≤ n) :
    Calls Tryd.prog 41 #[.slice a n cap] w fun e w' => e = .returned (.bool true) ∧ w' = w := by
  have hf := frameSize_any a zs n cap w hz hn hzv (by omega)
  have hd1 : decide (22 ≤ (n : Int)) = true := by simp; omega
  have hd2 : decide (22 + (szOf zs : Int) ≤ (n : Int)) = true := by simp; omega
  go_enter Tryd.func41, Tryd.ntmps41
  go_wp2_with (go_at_call 42; refine hf.mono ?_; rintro e w1 ⟨rfl, rfl⟩)
  go_ret
  exact ⟨rfl, rfl⟩
theorem holdsWhole_no (a : Option Addr) (n cap : Nat) (w : World) (h22 : n < 22) :
    Calls Tryd.prog 41 #[.slice a n cap] w fun e w' => e = .returned (.bool false) ∧ w' = w := by
  have hd1 : decide (22 ≤ (n : Int)) = false := by simp; omega
  go_enter Tryd.func41, Tryd.ntmps41
  go_wp2
  go_ret
  exact ⟨rfl, rfl⟩

/-- Two rows of different element types have different blocks. -/
theorem apart_types {w : World} {b1 b2 : Nat} {e1 e2 : TypeId} {s1 s2 : Nat} {v1 v2 : Value} {n1 n2 : Nat} {x1 x2 : List Value} (h1 : w.ownsRow b1 e1 s1 v1 n1 x1) (h2 : w.ownsRow b2 e2 s2 v2 n2 x2) (he : e1 ≠ e2) : v1.ownBlock = none ∨ v1.ownBlock ≠ v2.ownBlock := by
  rcases h1.2 with ⟨rfl, _⟩ | ⟨g1, c1, u1, rfl, _, hg1, _⟩
  · exact .inl rfl
  · right
    rcases h2.2 with ⟨rfl, _⟩ | ⟨g2, c2, u2, rfl, _, hg2, _⟩
    · simp [Value.ownBlock]
    · intro h
      simp [Value.ownBlock] at h
      subst h
      rw [hg1] at hg2
      simp at hg2
      exact he hg2.2

/-- One frame of a list: the chunk that it was read from, its six cells, its payload in a row. -/
def Item (w : World) (c : List Int) (v : List Value) : Prop := ∃ av cp, v = [.int .i64 (fld c 1 1), .int .i64 (fld c 2 1), .int .u32 (fld c 4 4), .int .u64 (fld c 8 8), .int .i64 (fld c 16 2), .slice av (szOf c) cp] ∧
  w.ownsRow 0 5 1 (.slice av (szOf c) cp) (szOf c) (((c.drop 18).take (szOf c)).map (.int .u8))
def Items (w : World) : List (List Int) → List (List Value) → Prop
  | [], [] => True
  | c :: cs, v :: vs => Item w c v ∧ Items w cs vs
  | _, _ => False
theorem Items.snoc {w : World} {cs : List (List Int)} {vs : List (List Value)} {c : List Int} {v : List Value} (h : Items w cs vs) (hi : Item w c v) : Items w (cs ++ [c]) (vs ++ [v]) := by
  induction cs generalizing vs with
  | nil =>
    cases vs with
    | nil => exact ⟨hi, trivial⟩
    | cons => exact h.elim
  | cons d cs ih =>
    cases vs with
    | nil => exact h.elim
    | cons u vs => exact ⟨h.1, ih h.2⟩
theorem Items.map {w w' : World} {cs : List (List Int)} {vs : List (List Value)} (h : Items w cs vs) (hk : ∀ c v, Item w c v → Item w' c v) : Items w' cs vs := by
  induction cs generalizing vs with
  | nil =>
    cases vs with
    | nil => trivial
    | cons => exact h.elim
  | cons d cs ih =>
    cases vs with
    | nil => exact h.elim
    | cons u vs => exact ⟨hk _ _ h.1, ih h.2⟩
theorem Item.moved {w w' : World} {c : List Int} {v : List Value} (h : Item w c v) (hb : Below w.heap.size w w') : Item w' c v := by
  obtain ⟨av, cp, rfl, ho⟩ := h
  exact ⟨av, cp, rfl, owned_kept ho hb⟩
theorem Items.moved {w w' : World} {cs : List (List Int)} {vs : List (List Value)} (h : Items w cs vs) (hb : Below w.heap.size w w') : Items w' cs vs := h.map fun _ _ hi => hi.moved hb
/-- What grows a row of frames leaves the payloads alone. -/
theorem Items.grown {w w' : World} {cs : List (List Int)} {vs : List (List Value)} {base size n : Nat} {e : TypeId} {r : Value} {xs : List Value} (h : Items w cs vs) (hr : w.ownsRow base e size r n xs) (he : 5 ≠ e) (hg : w.grownBy w' r.ownBlock) : Items w' cs vs := by
  refine h.map ?_
  rintro c v ⟨av, cp, rfl, ho⟩
  exact ⟨av, cp, rfl, ho.kept hg (apart_types ho hr he)⟩
theorem Items.length {w : World} {cs : List (List Int)} {vs : List (List Value)} (h : Items w cs vs) : vs.length = cs.length := by
  induction cs generalizing vs with
  | nil =>
    cases vs with
    | nil => rfl
    | cons => exact h.elim
  | cons d cs ih =>
    cases vs with
    | nil => exact h.elim
    | cons u vs => simp [ih h.2]
theorem Items.at {w : World} {cs : List (List Int)} {vs : List (List Value)} (h : Items w cs vs) (i : Nat) (hi : i < cs.length) (hv : i < vs.length) : Item w cs[i] vs[i] := by
  induction cs generalizing vs i with
  | nil => simp at hi
  | cons d cs ih =>
    cases vs with
    | nil => exact h.elim
    | cons u vs =>
      cases i with
      | zero => exact h.1
      | succ i => exact ih h.2 i (by simpa using hi) (by simpa using hv)
theorem flatten_at (vs : List (List Value)) (h : ∀ v ∈ vs, v.length = 6) (i j : Nat) (hi : i < vs.length) (hj : j < 6) : vs.flatten[i * 6 + j]? = (vs[i])[j]? := by
  induction vs generalizing i with
  | nil => simp at hi
  | cons v vs ih =>
    have hv := h v (by simp)
    cases i with
    | zero =>
      rw [Nat.zero_mul, Nat.zero_add, List.flatten_cons, List.getElem?_append_left (by omega)]
      rfl
    | succ i =>
      rw [List.flatten_cons, List.getElem?_append_right (by omega), hv, show (i + 1) * 6 + j - 6 = i * 6 + j by omega, ih (fun u hu => h u (by simp [hu])) i (by simpa using hi)]
      rfl
theorem Items.six {w : World} {cs : List (List Int)} {vs : List (List Value)} (h : Items w cs vs) : ∀ v ∈ vs, v.length = 6 := by
  induction cs generalizing vs with
  | nil =>
    cases vs with
    | nil => simp
    | cons => exact h.elim
  | cons d cs ih =>
    cases vs with
    | nil => exact h.elim
    | cons u vs =>
      intro v hv
      simp at hv
      rcases hv with rfl | hv
      · obtain ⟨av, cp, rfl, _⟩ := h.1
        rfl
      · exact ih h.2 v hv
end Go.Proofs.YthgggmkljnghmaaDoor
