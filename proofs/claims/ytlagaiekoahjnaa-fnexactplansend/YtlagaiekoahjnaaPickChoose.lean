import Derived.Test.YtlagaiekoahjnaaPickImpl
namespace Go.Proofs.Ytlagaiekoahjnaa
open Go.ChangeShapes Go.WideShapes Go.ChangeAt Go.RowKit
set_option linter.unusedVariables false

/-- What choosing by the function F gives. -/
def Chooses (F : Nat) (r : Nat → Int) (t k : Int) (V : Vws) (a : Option Addr) (cap B : Nat) : Prop :=
  ∀ (nm : Int) (tr : Bool) (w : World), LieV w a V → Calls Try.prog 73 #[.agg #[.int .i64 nm, .func (.func F) #[] #[], .bool tr], .agg #[.int .i64 t, .int .i64 k, .slice a V.length cap, .int .i64 (B : Int)]] w fun e w' => ∃ av cp ch x, e = .returned (.slice av ch.length cp) ∧ Best r (elig V B V.length) ch x ∧
      w'.ownsRow w.heap.size 2 1 (.slice av ch.length cp) ch.length ((nums ch).map (.int .i64)) ∧ Below w.heap.size w w'

set_option maxRecDepth 100000 in
set_option maxHeartbeats 4000000 in
theorem choose_round (r : Nat → Int) (t k : Int) (V : Vws) (a : Option Addr) (cap B : Nat) (hf : FitsV V) (hl : V.length ≤ 8) (hB : B < 256) (hR : RankIs 68 r t k V a cap B) : Chooses 68 r t k V a cap B := by
  intro nm tr w hS
  obtain ⟨W, hW⟩ : ∃ W, W = (w.alloc (.cells #[.int .i64 nm, .func (.func 68) #[] #[], .bool tr] 90)).alloc (.cells #[.int .i64 t, .int .i64 k, .slice a V.length cap, .int .i64 (B : Int)] 85) := ⟨_, rfl⟩
  have hbW : Below w.heap.size w W := by rw [hW]; exact ((Below.refl _ _).alloc (Nat.le_refl _) _).alloc (by simp) _
  have y1 : W.cell? ⟨w.heap.size, 1, none⟩ = some (.func (.func 68) #[] #[]) := by rw [hW]; simp
  have z0 : W.cell? ⟨w.heap.size + 1, 0, none⟩ = some (.int .i64 t) := by rw [hW]; simp
  have z1 : W.cell? ⟨w.heap.size + 1, 1, none⟩ = some (.int .i64 k) := by rw [hW]; simp
  have z2 : W.cell? ⟨w.heap.size + 1, 2, none⟩ = some (.slice a V.length cap) := by rw [hW]; simp
  have z3 : W.cell? ⟨w.heap.size + 1, 3, none⟩ = some (.int .i64 (B : Int)) := by rw [hW]; simp
  have hSW := hS.moved hbW
  have sW := hbW.size
  have hnil := World.ownsRow_nil W W.heap.size 2 1
  have l8 : (V.length : Int) ≤ 8 := by omega
  clear hS
  go_enter Try.func73, Try.ntmps73
  go_wp2
  rw [← hW]
  clear hW
  go_loopw [5, 6, 13] (fun v y i wr => ∃ (q : Nat) (ch : List Nat) (x : Int) (av : Option Addr) (cp : Nat), q ≤ V.length ∧ i = .int .i64 q ∧ y = .int .i64 x ∧ v = .slice av ch.length cp ∧ Best r (elig V B q) ch x ∧
      wr.ownsRow W.heap.size 2 1 (.slice av ch.length cp) ch.length ((nums ch).map (.int .i64)) ∧ Below W.heap.size W wr) (fun _ _ i _ => V.length - (intOf i).toNat)
  case atStart => exact ⟨0, [], 0, none, 0, Nat.zero_le _, rfl, rfl, rfl, Best.start r 0, hnil, Below.refl _ _⟩
  case round =>
    clear hnil
    obtain ⟨q, ch, x, av, cp, hq, rfl, rfl, rfl, hbest, hown, hb⟩ := hrel
    by_cases hlt : q < V.length
    · have y1' := (hb.cell (World.block_lt_of_cell? _ _ y1)).trans y1
      have z0' := (hb.cell (World.block_lt_of_cell? _ _ z0)).trans z0
      have z1' := (hb.cell (World.block_lt_of_cell? _ _ z1)).trans z1
      have z2' := (hb.cell (World.block_lt_of_cell? _ _ z2)).trans z2
      have z3' := (hb.cell (World.block_lt_of_cell? _ _ z3)).trans z3
      have hSr := hSW.moved hb
      have sz := hb.size
      have hcl := hbest.length
      have hel8 := elig_length V B q
      have HBEST : Hid (Best r (elig V B q) ch x) := hbest
      have hqi : (q : Int) < (V.length : Int) := by omega
      clear y1 z0 z1 z2 z3 hSW hbest
      cases hel : el V B q with
      | false =>
        have HN : Hid (elig V B (q + 1) = elig V B q) := elig_no hel
        have HEL : Hid _ := hel
        clear hel hR
        go_wp2_with (go_at_call 78; refine (eligible_is a V cap B q false _ hSr hf hl hB hlt HEL.out).mono ?_; rintro e w2 ⟨rfl, hw2⟩; obtain rfl := hw2)
        go_roundw
        case rel => exact ⟨q + 1, ch, x, av, cp, by omega, by go_num, rfl, rfl, by rw [HN.out]; exact HBEST.out, hown, hb⟩
        case measure => simp [intOf]; omega
      | true =>
        have HN : Hid (elig V B (q + 1) = elig V B q ++ [q]) := elig_yes hel
        have HEL : Hid _ := hel
        have HR : Hid _ := hR q
        obtain ⟨u, hu⟩ : ∃ u, u = r q := ⟨_, rfl⟩
        have HU : Hid (u = r q) := hu
        clear hel hR
        go_wp2_with fail
        refine (eligible_is a V cap B q true _ hSr hf hl hB hlt HEL.out).mono ?_
        rintro e w2 ⟨rfl, hw2⟩
        obtain rfl := hw2
        go_wp2_with fail
        refine (HR.out _ hlt hSr).mono ?_
        rintro e w3 ⟨rfl, hb3⟩
        rw [← hu]
        clear hu
        have hown3 := owned_kept hown hb3
        have hbb := hb.trans (hb3.mono sz)
        have s3 := hbb.size
        clear HR hown hb hb3 y1' z0' z1' z2' z3' hSr
        by_cases hch : ch = []
        · have HF : Hid (Best r (elig V B (q + 1)) [q] u) := by unfold Hid; rw [HN.out, HU.out]; exact HBEST.out.first hch q
          subst hch
          have hrow := World.ownsRow_lit (base := W.heap.size) (size := 1) (e := 2) w3 #[.int .i64 (q : Int)] 1 s3 (by unfold maxLen; omega) rfl
          simp only [List.length_nil]
          clear HBEST HN HU hown3
          go_wp2
          go_roundw
          case rel => exact ⟨q + 1, [q], u, _, _, by omega, by go_num, rfl, rfl, HF.out, hrow, hbb.alloc s3 _⟩
          case measure => simp [intOf]; omega
        · have hcl0 : ¬ ch.length = 0 := fun h => hch (List.eq_nil_of_length_eq_zero h)
          have hcl1 : ((ch.length : Int) == 0) = false := by simp; exact hch
          have hcl2 : ¬ (ch.length : Int) = 0 := by omega
          rcases Int.lt_trichotomy u x with hux | hux | hux
          · have HF : Hid (Best r (elig V B (q + 1)) [q] u) := by unfold Hid; rw [HN.out, HU.out]; exact HBEST.out.less q (by rw [← HU.out]; exact hux)
            have hrow := World.ownsRow_lit (base := W.heap.size) (size := 1) (e := 2) w3 #[.int .i64 (q : Int)] 1 s3 (by unfold maxLen; omega) rfl
            clear HBEST HN HU hown3
            go_wp2
            go_roundw
            case rel => exact ⟨q + 1, [q], u, _, _, by omega, by go_num, rfl, rfl, HF.out, hrow, hbb.alloc s3 _⟩
            case measure => simp [intOf]; omega
          · have HF : Hid (Best r (elig V B (q + 1)) (ch ++ [q]) x) := by unfold Hid; rw [HN.out]; exact HBEST.out.same q (by rw [← HU.out]; exact hux)
            have HL : Hid ((ch ++ [q]).length = ch.length + 1) := by unfold Hid; simp
            subst hux
            clear HBEST HN HU
            go_wp2_with (at_builtin; refine wpList_app1 _ rfl (.tmp 43) (.tmp 45) 36 2 rfl .i64 8 Try.underlying36 info_i64 (by decide) W.heap.size _ _ _ (nums ch) (q : Int) rfl (hown3.alloc _) _ rfl (cell_alloc1 _ _ _ _ rfl) (by omega) (by simp; omega) ?_; intro g5 cp5 w5 ho5 hg5)
            go_roundw
            case rel => exact ⟨q + 1, ch ++ [q], u, some ⟨g5, 0, none⟩, cp5, by omega, by go_num, rfl, by rw [HL.out], HF.out, by rw [HL.out, nums_snoc]; exact ho5, below_grown (hbb.alloc s3 _) (hown3.alloc _) hg5 (Nat.le_refl _) (by simp; omega)⟩
            case measure => simp [intOf]; omega
          · have HF : Hid (Best r (elig V B (q + 1)) ch x) := by unfold Hid; rw [HN.out]; exact HBEST.out.more hch q (by rw [← HU.out]; exact hux)
            have hne : ¬ u = x := by omega
            have hne' : (u == x) = false := by simpa using hne
            have hle : x ≤ u := by omega
            clear HBEST HN HU
            go_wp2
            go_roundw
            case rel => exact ⟨q + 1, ch, x, av, cp, by omega, by go_num, rfl, rfl, HF.out, hown3, hbb⟩
            case measure => simp [intOf]; omega
    · have : q = V.length := by omega
      subst this
      go_wp2
      go_ret
      exact ⟨av, cp, ch, x, rfl, hbest, owned_base hown sW, hbW.trans (hb.mono sW)⟩

set_option maxRecDepth 100000 in
set_option maxHeartbeats 4000000 in
theorem choose_back (r : Nat → Int) (t k : Int) (V : Vws) (a : Option Addr) (cap B : Nat) (hf : FitsV V) (hl : V.length ≤ 8) (hB : B < 256) (hR : RankIs 69 r t k V a cap B) : Chooses 69 r t k V a cap B := by
  intro nm tr w hS
  obtain ⟨W, hW⟩ : ∃ W, W = (w.alloc (.cells #[.int .i64 nm, .func (.func 69) #[] #[], .bool tr] 90)).alloc (.cells #[.int .i64 t, .int .i64 k, .slice a V.length cap, .int .i64 (B : Int)] 85) := ⟨_, rfl⟩
  have hbW : Below w.heap.size w W := by rw [hW]; exact ((Below.refl _ _).alloc (Nat.le_refl _) _).alloc (by simp) _
  have y1 : W.cell? ⟨w.heap.size, 1, none⟩ = some (.func (.func 69) #[] #[]) := by rw [hW]; simp
  have z0 : W.cell? ⟨w.heap.size + 1, 0, none⟩ = some (.int .i64 t) := by rw [hW]; simp
  have z1 : W.cell? ⟨w.heap.size + 1, 1, none⟩ = some (.int .i64 k) := by rw [hW]; simp
  have z2 : W.cell? ⟨w.heap.size + 1, 2, none⟩ = some (.slice a V.length cap) := by rw [hW]; simp
  have z3 : W.cell? ⟨w.heap.size + 1, 3, none⟩ = some (.int .i64 (B : Int)) := by rw [hW]; simp
  have hSW := hS.moved hbW
  have sW := hbW.size
  have hnil := World.ownsRow_nil W W.heap.size 2 1
  have l8 : (V.length : Int) ≤ 8 := by omega
  clear hS
  go_enter Try.func73, Try.ntmps73
  go_wp2
  rw [← hW]
  clear hW
  go_loopw [5, 6, 13] (fun v y i wr => ∃ (q : Nat) (ch : List Nat) (x : Int) (av : Option Addr) (cp : Nat), q ≤ V.length ∧ i = .int .i64 q ∧ y = .int .i64 x ∧ v = .slice av ch.length cp ∧ Best r (elig V B q) ch x ∧
      wr.ownsRow W.heap.size 2 1 (.slice av ch.length cp) ch.length ((nums ch).map (.int .i64)) ∧ Below W.heap.size W wr) (fun _ _ i _ => V.length - (intOf i).toNat)
  case atStart => exact ⟨0, [], 0, none, 0, Nat.zero_le _, rfl, rfl, rfl, Best.start r 0, hnil, Below.refl _ _⟩
  case round =>
    clear hnil
    obtain ⟨q, ch, x, av, cp, hq, rfl, rfl, rfl, hbest, hown, hb⟩ := hrel
    by_cases hlt : q < V.length
    · have y1' := (hb.cell (World.block_lt_of_cell? _ _ y1)).trans y1
      have z0' := (hb.cell (World.block_lt_of_cell? _ _ z0)).trans z0
      have z1' := (hb.cell (World.block_lt_of_cell? _ _ z1)).trans z1
      have z2' := (hb.cell (World.block_lt_of_cell? _ _ z2)).trans z2
      have z3' := (hb.cell (World.block_lt_of_cell? _ _ z3)).trans z3
      have hSr := hSW.moved hb
      have sz := hb.size
      have hcl := hbest.length
      have hel8 := elig_length V B q
      have HBEST : Hid (Best r (elig V B q) ch x) := hbest
      have hqi : (q : Int) < (V.length : Int) := by omega
      clear y1 z0 z1 z2 z3 hSW hbest
      cases hel : el V B q with
      | false =>
        have HN : Hid (elig V B (q + 1) = elig V B q) := elig_no hel
        have HEL : Hid _ := hel
        clear hel hR
        go_wp2_with (go_at_call 78; refine (eligible_is a V cap B q false _ hSr hf hl hB hlt HEL.out).mono ?_; rintro e w2 ⟨rfl, hw2⟩; obtain rfl := hw2)
        go_roundw
        case rel => exact ⟨q + 1, ch, x, av, cp, by omega, by go_num, rfl, rfl, by rw [HN.out]; exact HBEST.out, hown, hb⟩
        case measure => simp [intOf]; omega
      | true =>
        have HN : Hid (elig V B (q + 1) = elig V B q ++ [q]) := elig_yes hel
        have HEL : Hid _ := hel
        have HR : Hid _ := hR q
        obtain ⟨u, hu⟩ : ∃ u, u = r q := ⟨_, rfl⟩
        have HU : Hid (u = r q) := hu
        clear hel hR
        go_wp2_with fail
        refine (eligible_is a V cap B q true _ hSr hf hl hB hlt HEL.out).mono ?_
        rintro e w2 ⟨rfl, hw2⟩
        obtain rfl := hw2
        go_wp2_with fail
        refine (HR.out _ hlt hSr).mono ?_
        rintro e w3 ⟨rfl, hb3⟩
        rw [← hu]
        clear hu
        have hown3 := owned_kept hown hb3
        have hbb := hb.trans (hb3.mono sz)
        have s3 := hbb.size
        clear HR hown hb hb3 y1' z0' z1' z2' z3' hSr
        by_cases hch : ch = []
        · have HF : Hid (Best r (elig V B (q + 1)) [q] u) := by unfold Hid; rw [HN.out, HU.out]; exact HBEST.out.first hch q
          subst hch
          have hrow := World.ownsRow_lit (base := W.heap.size) (size := 1) (e := 2) w3 #[.int .i64 (q : Int)] 1 s3 (by unfold maxLen; omega) rfl
          simp only [List.length_nil]
          clear HBEST HN HU hown3
          go_wp2
          go_roundw
          case rel => exact ⟨q + 1, [q], u, _, _, by omega, by go_num, rfl, rfl, HF.out, hrow, hbb.alloc s3 _⟩
          case measure => simp [intOf]; omega
        · have hcl0 : ¬ ch.length = 0 := fun h => hch (List.eq_nil_of_length_eq_zero h)
          have hcl1 : ((ch.length : Int) == 0) = false := by simp; exact hch
          have hcl2 : ¬ (ch.length : Int) = 0 := by omega
          rcases Int.lt_trichotomy u x with hux | hux | hux
          · have HF : Hid (Best r (elig V B (q + 1)) [q] u) := by unfold Hid; rw [HN.out, HU.out]; exact HBEST.out.less q (by rw [← HU.out]; exact hux)
            have hrow := World.ownsRow_lit (base := W.heap.size) (size := 1) (e := 2) w3 #[.int .i64 (q : Int)] 1 s3 (by unfold maxLen; omega) rfl
            clear HBEST HN HU hown3
            go_wp2
            go_roundw
            case rel => exact ⟨q + 1, [q], u, _, _, by omega, by go_num, rfl, rfl, HF.out, hrow, hbb.alloc s3 _⟩
            case measure => simp [intOf]; omega
          · have HF : Hid (Best r (elig V B (q + 1)) (ch ++ [q]) x) := by unfold Hid; rw [HN.out]; exact HBEST.out.same q (by rw [← HU.out]; exact hux)
            have HL : Hid ((ch ++ [q]).length = ch.length + 1) := by unfold Hid; simp
            subst hux
            clear HBEST HN HU
            go_wp2_with (at_builtin; refine wpList_app1 _ rfl (.tmp 43) (.tmp 45) 36 2 rfl .i64 8 Try.underlying36 info_i64 (by decide) W.heap.size _ _ _ (nums ch) (q : Int) rfl (hown3.alloc _) _ rfl (cell_alloc1 _ _ _ _ rfl) (by omega) (by simp; omega) ?_; intro g5 cp5 w5 ho5 hg5)
            go_roundw
            case rel => exact ⟨q + 1, ch ++ [q], u, some ⟨g5, 0, none⟩, cp5, by omega, by go_num, rfl, by rw [HL.out], HF.out, by rw [HL.out, nums_snoc]; exact ho5, below_grown (hbb.alloc s3 _) (hown3.alloc _) hg5 (Nat.le_refl _) (by simp; omega)⟩
            case measure => simp [intOf]; omega
          · have HF : Hid (Best r (elig V B (q + 1)) ch x) := by unfold Hid; rw [HN.out]; exact HBEST.out.more hch q (by rw [← HU.out]; exact hux)
            have hne : ¬ u = x := by omega
            have hne' : (u == x) = false := by simpa using hne
            have hle : x ≤ u := by omega
            clear HBEST HN HU
            go_wp2
            go_roundw
            case rel => exact ⟨q + 1, ch, x, av, cp, by omega, by go_num, rfl, rfl, HF.out, hown3, hbb⟩
            case measure => simp [intOf]; omega
    · have : q = V.length := by omega
      subst this
      go_wp2
      go_ret
      exact ⟨av, cp, ch, x, rfl, hbest, owned_base hown sW, hbW.trans (hb.mono sW)⟩

set_option maxRecDepth 100000 in
set_option maxHeartbeats 4000000 in
theorem choose_all (r : Nat → Int) (t k : Int) (V : Vws) (a : Option Addr) (cap B : Nat) (hf : FitsV V) (hl : V.length ≤ 8) (hB : B < 256) (hR : RankIs 70 r t k V a cap B) : Chooses 70 r t k V a cap B := by
  intro nm tr w hS
  obtain ⟨W, hW⟩ : ∃ W, W = (w.alloc (.cells #[.int .i64 nm, .func (.func 70) #[] #[], .bool tr] 90)).alloc (.cells #[.int .i64 t, .int .i64 k, .slice a V.length cap, .int .i64 (B : Int)] 85) := ⟨_, rfl⟩
  have hbW : Below w.heap.size w W := by rw [hW]; exact ((Below.refl _ _).alloc (Nat.le_refl _) _).alloc (by simp) _
  have y1 : W.cell? ⟨w.heap.size, 1, none⟩ = some (.func (.func 70) #[] #[]) := by rw [hW]; simp
  have z0 : W.cell? ⟨w.heap.size + 1, 0, none⟩ = some (.int .i64 t) := by rw [hW]; simp
  have z1 : W.cell? ⟨w.heap.size + 1, 1, none⟩ = some (.int .i64 k) := by rw [hW]; simp
  have z2 : W.cell? ⟨w.heap.size + 1, 2, none⟩ = some (.slice a V.length cap) := by rw [hW]; simp
  have z3 : W.cell? ⟨w.heap.size + 1, 3, none⟩ = some (.int .i64 (B : Int)) := by rw [hW]; simp
  have hSW := hS.moved hbW
  have sW := hbW.size
  have hnil := World.ownsRow_nil W W.heap.size 2 1
  have l8 : (V.length : Int) ≤ 8 := by omega
  clear hS
  go_enter Try.func73, Try.ntmps73
  go_wp2
  rw [← hW]
  clear hW
  go_loopw [5, 6, 13] (fun v y i wr => ∃ (q : Nat) (ch : List Nat) (x : Int) (av : Option Addr) (cp : Nat), q ≤ V.length ∧ i = .int .i64 q ∧ y = .int .i64 x ∧ v = .slice av ch.length cp ∧ Best r (elig V B q) ch x ∧
      wr.ownsRow W.heap.size 2 1 (.slice av ch.length cp) ch.length ((nums ch).map (.int .i64)) ∧ Below W.heap.size W wr) (fun _ _ i _ => V.length - (intOf i).toNat)
  case atStart => exact ⟨0, [], 0, none, 0, Nat.zero_le _, rfl, rfl, rfl, Best.start r 0, hnil, Below.refl _ _⟩
  case round =>
    clear hnil
    obtain ⟨q, ch, x, av, cp, hq, rfl, rfl, rfl, hbest, hown, hb⟩ := hrel
    by_cases hlt : q < V.length
    · have y1' := (hb.cell (World.block_lt_of_cell? _ _ y1)).trans y1
      have z0' := (hb.cell (World.block_lt_of_cell? _ _ z0)).trans z0
      have z1' := (hb.cell (World.block_lt_of_cell? _ _ z1)).trans z1
      have z2' := (hb.cell (World.block_lt_of_cell? _ _ z2)).trans z2
      have z3' := (hb.cell (World.block_lt_of_cell? _ _ z3)).trans z3
      have hSr := hSW.moved hb
      have sz := hb.size
      have hcl := hbest.length
      have hel8 := elig_length V B q
      have HBEST : Hid (Best r (elig V B q) ch x) := hbest
      have hqi : (q : Int) < (V.length : Int) := by omega
      clear y1 z0 z1 z2 z3 hSW hbest
      cases hel : el V B q with
      | false =>
        have HN : Hid (elig V B (q + 1) = elig V B q) := elig_no hel
        have HEL : Hid _ := hel
        clear hel hR
        go_wp2_with (go_at_call 78; refine (eligible_is a V cap B q false _ hSr hf hl hB hlt HEL.out).mono ?_; rintro e w2 ⟨rfl, hw2⟩; obtain rfl := hw2)
        go_roundw
        case rel => exact ⟨q + 1, ch, x, av, cp, by omega, by go_num, rfl, rfl, by rw [HN.out]; exact HBEST.out, hown, hb⟩
        case measure => simp [intOf]; omega
      | true =>
        have HN : Hid (elig V B (q + 1) = elig V B q ++ [q]) := elig_yes hel
        have HEL : Hid _ := hel
        have HR : Hid _ := hR q
        obtain ⟨u, hu⟩ : ∃ u, u = r q := ⟨_, rfl⟩
        have HU : Hid (u = r q) := hu
        clear hel hR
        go_wp2_with fail
        refine (eligible_is a V cap B q true _ hSr hf hl hB hlt HEL.out).mono ?_
        rintro e w2 ⟨rfl, hw2⟩
        obtain rfl := hw2
        go_wp2_with fail
        refine (HR.out _ hlt hSr).mono ?_
        rintro e w3 ⟨rfl, hb3⟩
        rw [← hu]
        clear hu
        have hown3 := owned_kept hown hb3
        have hbb := hb.trans (hb3.mono sz)
        have s3 := hbb.size
        clear HR hown hb hb3 y1' z0' z1' z2' z3' hSr
        by_cases hch : ch = []
        · have HF : Hid (Best r (elig V B (q + 1)) [q] u) := by unfold Hid; rw [HN.out, HU.out]; exact HBEST.out.first hch q
          subst hch
          have hrow := World.ownsRow_lit (base := W.heap.size) (size := 1) (e := 2) w3 #[.int .i64 (q : Int)] 1 s3 (by unfold maxLen; omega) rfl
          simp only [List.length_nil]
          clear HBEST HN HU hown3
          go_wp2
          go_roundw
          case rel => exact ⟨q + 1, [q], u, _, _, by omega, by go_num, rfl, rfl, HF.out, hrow, hbb.alloc s3 _⟩
          case measure => simp [intOf]; omega
        · have hcl0 : ¬ ch.length = 0 := fun h => hch (List.eq_nil_of_length_eq_zero h)
          have hcl1 : ((ch.length : Int) == 0) = false := by simp; exact hch
          have hcl2 : ¬ (ch.length : Int) = 0 := by omega
          rcases Int.lt_trichotomy u x with hux | hux | hux
          · have HF : Hid (Best r (elig V B (q + 1)) [q] u) := by unfold Hid; rw [HN.out, HU.out]; exact HBEST.out.less q (by rw [← HU.out]; exact hux)
            have hrow := World.ownsRow_lit (base := W.heap.size) (size := 1) (e := 2) w3 #[.int .i64 (q : Int)] 1 s3 (by unfold maxLen; omega) rfl
            clear HBEST HN HU hown3
            go_wp2
            go_roundw
            case rel => exact ⟨q + 1, [q], u, _, _, by omega, by go_num, rfl, rfl, HF.out, hrow, hbb.alloc s3 _⟩
            case measure => simp [intOf]; omega
          · have HF : Hid (Best r (elig V B (q + 1)) (ch ++ [q]) x) := by unfold Hid; rw [HN.out]; exact HBEST.out.same q (by rw [← HU.out]; exact hux)
            have HL : Hid ((ch ++ [q]).length = ch.length + 1) := by unfold Hid; simp
            subst hux
            clear HBEST HN HU
            go_wp2_with (at_builtin; refine wpList_app1 _ rfl (.tmp 43) (.tmp 45) 36 2 rfl .i64 8 Try.underlying36 info_i64 (by decide) W.heap.size _ _ _ (nums ch) (q : Int) rfl (hown3.alloc _) _ rfl (cell_alloc1 _ _ _ _ rfl) (by omega) (by simp; omega) ?_; intro g5 cp5 w5 ho5 hg5)
            go_roundw
            case rel => exact ⟨q + 1, ch ++ [q], u, some ⟨g5, 0, none⟩, cp5, by omega, by go_num, rfl, by rw [HL.out], HF.out, by rw [HL.out, nums_snoc]; exact ho5, below_grown (hbb.alloc s3 _) (hown3.alloc _) hg5 (Nat.le_refl _) (by simp; omega)⟩
            case measure => simp [intOf]; omega
          · have HF : Hid (Best r (elig V B (q + 1)) ch x) := by unfold Hid; rw [HN.out]; exact HBEST.out.more hch q (by rw [← HU.out]; exact hux)
            have hne : ¬ u = x := by omega
            have hne' : (u == x) = false := by simpa using hne
            have hle : x ≤ u := by omega
            clear HBEST HN HU
            go_wp2
            go_roundw
            case rel => exact ⟨q + 1, ch, x, av, cp, by omega, by go_num, rfl, rfl, HF.out, hown3, hbb⟩
            case measure => simp [intOf]; omega
    · have : q = V.length := by omega
      subst this
      go_wp2
      go_ret
      exact ⟨av, cp, ch, x, rfl, hbest, owned_base hown sW, hbW.trans (hb.mono sW)⟩

set_option maxRecDepth 100000 in
set_option maxHeartbeats 4000000 in
theorem choose_script (r : Nat → Int) (t k : Int) (V : Vws) (a : Option Addr) (cap B : Nat) (hf : FitsV V) (hl : V.length ≤ 8) (hB : B < 256) (hR : RankIs 71 r t k V a cap B) : Chooses 71 r t k V a cap B := by
  intro nm tr w hS
  obtain ⟨W, hW⟩ : ∃ W, W = (w.alloc (.cells #[.int .i64 nm, .func (.func 71) #[] #[], .bool tr] 90)).alloc (.cells #[.int .i64 t, .int .i64 k, .slice a V.length cap, .int .i64 (B : Int)] 85) := ⟨_, rfl⟩
  have hbW : Below w.heap.size w W := by rw [hW]; exact ((Below.refl _ _).alloc (Nat.le_refl _) _).alloc (by simp) _
  have y1 : W.cell? ⟨w.heap.size, 1, none⟩ = some (.func (.func 71) #[] #[]) := by rw [hW]; simp
  have z0 : W.cell? ⟨w.heap.size + 1, 0, none⟩ = some (.int .i64 t) := by rw [hW]; simp
  have z1 : W.cell? ⟨w.heap.size + 1, 1, none⟩ = some (.int .i64 k) := by rw [hW]; simp
  have z2 : W.cell? ⟨w.heap.size + 1, 2, none⟩ = some (.slice a V.length cap) := by rw [hW]; simp
  have z3 : W.cell? ⟨w.heap.size + 1, 3, none⟩ = some (.int .i64 (B : Int)) := by rw [hW]; simp
  have hSW := hS.moved hbW
  have sW := hbW.size
  have hnil := World.ownsRow_nil W W.heap.size 2 1
  have l8 : (V.length : Int) ≤ 8 := by omega
  clear hS
  go_enter Try.func73, Try.ntmps73
  go_wp2
  rw [← hW]
  clear hW
  go_loopw [5, 6, 13] (fun v y i wr => ∃ (q : Nat) (ch : List Nat) (x : Int) (av : Option Addr) (cp : Nat), q ≤ V.length ∧ i = .int .i64 q ∧ y = .int .i64 x ∧ v = .slice av ch.length cp ∧ Best r (elig V B q) ch x ∧
      wr.ownsRow W.heap.size 2 1 (.slice av ch.length cp) ch.length ((nums ch).map (.int .i64)) ∧ Below W.heap.size W wr) (fun _ _ i _ => V.length - (intOf i).toNat)
  case atStart => exact ⟨0, [], 0, none, 0, Nat.zero_le _, rfl, rfl, rfl, Best.start r 0, hnil, Below.refl _ _⟩
  case round =>
    clear hnil
    obtain ⟨q, ch, x, av, cp, hq, rfl, rfl, rfl, hbest, hown, hb⟩ := hrel
    by_cases hlt : q < V.length
    · have y1' := (hb.cell (World.block_lt_of_cell? _ _ y1)).trans y1
      have z0' := (hb.cell (World.block_lt_of_cell? _ _ z0)).trans z0
      have z1' := (hb.cell (World.block_lt_of_cell? _ _ z1)).trans z1
      have z2' := (hb.cell (World.block_lt_of_cell? _ _ z2)).trans z2
      have z3' := (hb.cell (World.block_lt_of_cell? _ _ z3)).trans z3
      have hSr := hSW.moved hb
      have sz := hb.size
      have hcl := hbest.length
      have hel8 := elig_length V B q
      have HBEST : Hid (Best r (elig V B q) ch x) := hbest
      have hqi : (q : Int) < (V.length : Int) := by omega
      clear y1 z0 z1 z2 z3 hSW hbest
      cases hel : el V B q with
      | false =>
        have HN : Hid (elig V B (q + 1) = elig V B q) := elig_no hel
        have HEL : Hid _ := hel
        clear hel hR
        go_wp2_with (go_at_call 78; refine (eligible_is a V cap B q false _ hSr hf hl hB hlt HEL.out).mono ?_; rintro e w2 ⟨rfl, hw2⟩; obtain rfl := hw2)
        go_roundw
        case rel => exact ⟨q + 1, ch, x, av, cp, by omega, by go_num, rfl, rfl, by rw [HN.out]; exact HBEST.out, hown, hb⟩
        case measure => simp [intOf]; omega
      | true =>
        have HN : Hid (elig V B (q + 1) = elig V B q ++ [q]) := elig_yes hel
        have HEL : Hid _ := hel
        have HR : Hid _ := hR q
        obtain ⟨u, hu⟩ : ∃ u, u = r q := ⟨_, rfl⟩
        have HU : Hid (u = r q) := hu
        clear hel hR
        go_wp2_with fail
        refine (eligible_is a V cap B q true _ hSr hf hl hB hlt HEL.out).mono ?_
        rintro e w2 ⟨rfl, hw2⟩
        obtain rfl := hw2
        go_wp2_with fail
        refine (HR.out _ hlt hSr).mono ?_
        rintro e w3 ⟨rfl, hb3⟩
        rw [← hu]
        clear hu
        have hown3 := owned_kept hown hb3
        have hbb := hb.trans (hb3.mono sz)
        have s3 := hbb.size
        clear HR hown hb hb3 y1' z0' z1' z2' z3' hSr
        by_cases hch : ch = []
        · have HF : Hid (Best r (elig V B (q + 1)) [q] u) := by unfold Hid; rw [HN.out, HU.out]; exact HBEST.out.first hch q
          subst hch
          have hrow := World.ownsRow_lit (base := W.heap.size) (size := 1) (e := 2) w3 #[.int .i64 (q : Int)] 1 s3 (by unfold maxLen; omega) rfl
          simp only [List.length_nil]
          clear HBEST HN HU hown3
          go_wp2
          go_roundw
          case rel => exact ⟨q + 1, [q], u, _, _, by omega, by go_num, rfl, rfl, HF.out, hrow, hbb.alloc s3 _⟩
          case measure => simp [intOf]; omega
        · have hcl0 : ¬ ch.length = 0 := fun h => hch (List.eq_nil_of_length_eq_zero h)
          have hcl1 : ((ch.length : Int) == 0) = false := by simp; exact hch
          have hcl2 : ¬ (ch.length : Int) = 0 := by omega
          rcases Int.lt_trichotomy u x with hux | hux | hux
          · have HF : Hid (Best r (elig V B (q + 1)) [q] u) := by unfold Hid; rw [HN.out, HU.out]; exact HBEST.out.less q (by rw [← HU.out]; exact hux)
            have hrow := World.ownsRow_lit (base := W.heap.size) (size := 1) (e := 2) w3 #[.int .i64 (q : Int)] 1 s3 (by unfold maxLen; omega) rfl
            clear HBEST HN HU hown3
            go_wp2
            go_roundw
            case rel => exact ⟨q + 1, [q], u, _, _, by omega, by go_num, rfl, rfl, HF.out, hrow, hbb.alloc s3 _⟩
            case measure => simp [intOf]; omega
          · have HF : Hid (Best r (elig V B (q + 1)) (ch ++ [q]) x) := by unfold Hid; rw [HN.out]; exact HBEST.out.same q (by rw [← HU.out]; exact hux)
            have HL : Hid ((ch ++ [q]).length = ch.length + 1) := by unfold Hid; simp
            subst hux
            clear HBEST HN HU
            go_wp2_with (at_builtin; refine wpList_app1 _ rfl (.tmp 43) (.tmp 45) 36 2 rfl .i64 8 Try.underlying36 info_i64 (by decide) W.heap.size _ _ _ (nums ch) (q : Int) rfl (hown3.alloc _) _ rfl (cell_alloc1 _ _ _ _ rfl) (by omega) (by simp; omega) ?_; intro g5 cp5 w5 ho5 hg5)
            go_roundw
            case rel => exact ⟨q + 1, ch ++ [q], u, some ⟨g5, 0, none⟩, cp5, by omega, by go_num, rfl, by rw [HL.out], HF.out, by rw [HL.out, nums_snoc]; exact ho5, below_grown (hbb.alloc s3 _) (hown3.alloc _) hg5 (Nat.le_refl _) (by simp; omega)⟩
            case measure => simp [intOf]; omega
          · have HF : Hid (Best r (elig V B (q + 1)) ch x) := by unfold Hid; rw [HN.out]; exact HBEST.out.more hch q (by rw [← HU.out]; exact hux)
            have hne : ¬ u = x := by omega
            have hne' : (u == x) = false := by simpa using hne
            have hle : x ≤ u := by omega
            clear HBEST HN HU
            go_wp2
            go_roundw
            case rel => exact ⟨q + 1, ch, x, av, cp, by omega, by go_num, rfl, rfl, HF.out, hown3, hbb⟩
            case measure => simp [intOf]; omega
    · have : q = V.length := by omega
      subst this
      go_wp2
      go_ret
      exact ⟨av, cp, ch, x, rfl, hbest, owned_base hown sW, hbW.trans (hb.mono sW)⟩
end Go.Proofs.Ytlagaiekoahjnaa
