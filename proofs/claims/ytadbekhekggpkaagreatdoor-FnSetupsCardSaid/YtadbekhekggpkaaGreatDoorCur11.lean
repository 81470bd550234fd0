/-
  The specification's cursor over a text: l11Var, l11Short.
-/
import Derived.Test.YtadbekhekggpkaaGreatDoorRdShV
import Derived.Test.YtadbekhekggpkaaGreatDoorSet11
namespace Go.Proofs.YtadbekhekggpkaaGreatDoor
open Go.RowKit Go.PlainAid
set_option linter.unusedVariables false

/-- the cursor's block -/
def CurX (w : World) (C : Nat) (t : ByteArray) (a : Nat) (b : Bool) : Prop := w.heap[C]? = some (.cells #[.string t, .int .i64 (a : Int), .bool b] 74)
/-- one number read -/
def StepV (t : ByteArray) (a : Nat) (b : Bool) (n : Int) (a' : Nat) (b' : Bool) : Prop :=
  (b = false ∧ V.rv t (a : Int) = some (n, a') ∧ b' = false) ∨ ((b = true ∨ V.rv t (a : Int) = none) ∧ n = 0 ∧ a' = a ∧ b' = true)
theorem StepV.num {t : ByteArray} {a : Nat} {b : Bool} {n : Int} {a' : Nat} {b' : Bool} (h : StepV t a b n a' b') (ha : a ≤ t.size) : 0 ≤ n ∧ n ≤ 1000000000 ∧ a' ≤ t.size := by
  rcases h with ⟨_, h, _⟩ | ⟨_, rfl, rfl, _⟩
  · exact V.rv_some h
  · exact ⟨by omega, by omega, ha⟩
theorem cur_set {w : World} {C : Nat} {t : ByteArray} {a : Nat} {b : Bool} (h : CurX w C t a b) (a' : Nat) : CurX (w.setCell ⟨C, 1, none⟩ (.int .i64 (a' : Int))) C t a' b := by
  unfold CurX at h ⊢
  exact set_row5 h 1 _
theorem cur_bad {w : World} {C : Nat} {t : ByteArray} {a : Nat} {b : Bool} (h : CurX w C t a b) : CurX (w.setCell ⟨C, 2, none⟩ (.bool true)) C t a true := by
  unfold CurX at h ⊢
  exact set_row5 h 2 _
/-- what is done to memory: new blocks, and the cursor's -/
theorem grown_bel {w W W' : World} {C : Nat} (hg : w.grownBy W (some C)) (hb : Below W.heap.size W W') : w.grownBy W' (some C) :=
  ⟨hb.os.trans hg.os, hb.tape.trans hg.tape, hb.output.trans hg.output, Nat.le_trans hg.size hb.size, fun k hk hne => (hb.block k (Nat.lt_of_lt_of_le hk hg.size)).trans (hg.block k hk hne)⟩
theorem curS3 {w W W' : World} {C : Nat} {x y z : Value} (hb : Below W.heap.size W W') (h : W.cell? ⟨C, 0, none⟩ = some x ∧ W.cell? ⟨C, 1, none⟩ = some y ∧ W.cell? ⟨C, 2, none⟩ = some z ∧ Below w.heap.size w W) : W'.cell? ⟨C, 0, none⟩ = some x ∧ W'.cell? ⟨C, 1, none⟩ = some y ∧ W'.cell? ⟨C, 2, none⟩ = some z ∧ Below w.heap.size w W' := by
  obtain ⟨h0, h1, h2, hB⟩ := h
  have hl := World.block_lt_of_cell? W ⟨C, 0, none⟩ h0
  exact ⟨(hb.cell (p := ⟨C, 0, none⟩) hl).trans h0, (hb.cell (p := ⟨C, 1, none⟩) hl).trans h1, (hb.cell (p := ⟨C, 2, none⟩) hl).trans h2, bel_on (Nat.le_refl _) hB hb⟩

/-- one short text read -/
def ShortV (t : ByteArray) (a : Nat) (b : Bool) (s : ByteArray) (a' : Nat) (b' : Bool) : Prop :=
  (b = false ∧ (∃ m c : Nat, V.rv t (a : Int) = some ((m : Int), c) ∧ m ≤ 20000 ∧ m + c ≤ t.size ∧ s = t.extract c (c + m) ∧ a' = c + m) ∧ b' = false) ∨ ((b = true ∨ ∀ m c : Nat, V.rv t (a : Int) = some ((m : Int), c) → ¬ (m ≤ 20000 ∧ m + c ≤ t.size)) ∧ s = ⟨#[]⟩ ∧ a' = a ∧ b' = true)
theorem short_cases (t : ByteArray) (a : Nat) : (∃ m c : Nat, V.rv t (a : Int) = some ((m : Int), c) ∧ m ≤ 20000 ∧ m + c ≤ t.size ∧ V.short t (V.rv t (a : Int)) = .tuple #[.string (t.extract c (c + m)), .int .i64 (c + m : Nat), .bool true]) ∨
    ((∀ m c : Nat, V.rv t (a : Int) = some ((m : Int), c) → ¬ (m ≤ 20000 ∧ m + c ≤ t.size)) ∧ V.short t (V.rv t (a : Int)) = .tuple #[.string ⟨#[]⟩, .int .i64 0, .bool false]) := by
  rcases hR : V.rv t (a : Int) with _ | ⟨M, c⟩
  · exact .inr ⟨fun m c h => by simp at h, rfl⟩
  · have hb := V.rv_some hR
    obtain ⟨m, rfl⟩ := Int.eq_ofNat_of_zero_le hb.1
    by_cases h : m ≤ 20000 ∧ m + c ≤ t.size
    · exact .inl ⟨m, c, rfl, h.1, h.2, by rw [V.short_yes h.1 h.2]; simp⟩
    · refine .inr ⟨fun m' c' e => ?_, V.short_no h⟩
      simp at e
      obtain ⟨e1, rfl⟩ := e
      obtain rfl : m = m' := by omega
      exact h
set_option maxRecDepth 100000 in
set_option maxHeartbeats 1000000 in
theorem varC (C : Nat) (t : ByteArray) (a : Nat) (b : Bool) (ht : t.size ≤ 1048576) (ha : a ≤ t.size) (w : World) (hC : CurX w C t a b) :
    Calls Tryz.prog 32 #[.pointer (some ⟨C, 0, none⟩)] w fun e w' => ∃ (n : Int) (a' : Nat) (b' : Bool), e = .returned (.int .i64 n) ∧ StepV t a b n a' b' ∧ CurX w' C t a' b' ∧ w.grownBy w' (some C) := by
  have HC : Hid (CurX w C t a b) := hC
  have k0 := row3_cells hC
  have HS : Hid (w.cell? ⟨C, 0, none⟩ = some (.string t) ∧ w.cell? ⟨C, 1, none⟩ = some (.int .i64 (a : Int)) ∧ w.cell? ⟨C, 2, none⟩ = some (.bool b) ∧ Below w.heap.size w w) := ⟨k0.1.1, k0.1.2.1, k0.1.2.2, Below.refl _ _⟩
  have K1 : Hid (∀ w, Calls Tryz.prog 72 #[.string t, .int .i64 (a : Int)] w fun e w' => e = .returned (V.enc3 (V.rv t (a : Int))) ∧ Below w.heap.size w w') := V.rv11 t a ht
  clear hC k0
  rcases hR : V.rv t (a : Int) with _ | ⟨M, c⟩
  · have HE : Hid (StepV t a b 0 a true) := .inr ⟨.inr hR, rfl, rfl, rfl⟩
    rw [hR] at K1
    clear hR
    cases b
    · skip
      go_enter Tryz.func32, Tryz.ntmps32
      go_wp2
      go_region_held3 (fun w' => w'.cell? ⟨C, 0, none⟩ = some (.string t) ∧ w'.cell? ⟨C, 1, none⟩ = some (.int .i64 (a : Int)) ∧ w'.cell? ⟨C, 2, none⟩ = some (.bool false) ∧ Below w.heap.size w w') (first | (refine curS3 (by assumption) ?_; assumption) | (exact ⟨HS.out.1, HS.out.2.1, HS.out.2.2.1, HS.out.2.2.2.drew⟩)) (first | (go_at_call 72; refine (K1.out _).mono ?_; rintro e w1 ⟨rfl, hb1⟩; simp only [V.enc3]))
      rename_i HH
      have HW : Hid (Below w.heap.size w w1) := HH.2.2.2
      have HC1 : Hid (CurX w1 C t a false) := row_on HC.out HW.out
      have k1 := row3_cells HC1.out
      clear HH hb1 HS
      go_wp2
      go_ret
      exact ⟨0, a, true, rfl, HE.out, cur_bad HC1.out, grown_setc (grown_bel (World.grownBy.refl _ _) HW.out) _⟩
    · skip
      go_enter Tryz.func32, Tryz.ntmps32
      go_wp2
      go_region_held3 (fun w' => w'.cell? ⟨C, 0, none⟩ = some (.string t) ∧ w'.cell? ⟨C, 1, none⟩ = some (.int .i64 (a : Int)) ∧ w'.cell? ⟨C, 2, none⟩ = some (.bool true) ∧ Below w.heap.size w w') (first | (refine curS3 (by assumption) ?_; assumption) | (exact ⟨HS.out.1, HS.out.2.1, HS.out.2.2.1, HS.out.2.2.2.drew⟩)) (first | (go_at_call 72; refine (K1.out _).mono ?_; rintro e w1 ⟨rfl, hb1⟩; simp only [V.enc3]))
      rename_i HH
      have HW : Hid (Below w.heap.size w w1) := HH.2.2.2
      have HC1 : Hid (CurX w1 C t a true) := row_on HC.out HW.out
      have k1 := row3_cells HC1.out
      clear HH hb1 HS
      go_wp2
      go_ret
      exact ⟨0, a, true, rfl, HE.out, cur_bad HC1.out, grown_setc (grown_bel (World.grownBy.refl _ _) HW.out) _⟩
  · have HE : Hid (b = false → StepV t a b M c false) := fun h => .inl ⟨h, hR, rfl⟩
    have HEB : Hid (b = true → StepV t a b 0 a true) := fun h => .inr ⟨.inl h, rfl, rfl, rfl⟩
    rw [hR] at K1
    clear hR
    cases b
    · skip
      go_enter Tryz.func32, Tryz.ntmps32
      go_wp2
      go_region_held3 (fun w' => w'.cell? ⟨C, 0, none⟩ = some (.string t) ∧ w'.cell? ⟨C, 1, none⟩ = some (.int .i64 (a : Int)) ∧ w'.cell? ⟨C, 2, none⟩ = some (.bool false) ∧ Below w.heap.size w w') (first | (refine curS3 (by assumption) ?_; assumption) | (exact ⟨HS.out.1, HS.out.2.1, HS.out.2.2.1, HS.out.2.2.2.drew⟩)) (first | (go_at_call 72; refine (K1.out _).mono ?_; rintro e w1 ⟨rfl, hb1⟩; simp only [V.enc3]))
      rename_i HH
      have HW : Hid (Below w.heap.size w w1) := HH.2.2.2
      have HC1 : Hid (CurX w1 C t a false) := row_on HC.out HW.out
      have k1 := row3_cells HC1.out
      clear HH hb1 HS
      go_wp2
      go_ret
      exact ⟨M, c, false, rfl, HE.out (by first | rfl | trivial), cur_set HC1.out c, grown_setc (grown_bel (World.grownBy.refl _ _) HW.out) _⟩
    · skip
      go_enter Tryz.func32, Tryz.ntmps32
      go_wp2
      go_region_held3 (fun w' => w'.cell? ⟨C, 0, none⟩ = some (.string t) ∧ w'.cell? ⟨C, 1, none⟩ = some (.int .i64 (a : Int)) ∧ w'.cell? ⟨C, 2, none⟩ = some (.bool true) ∧ Below w.heap.size w w') (first | (refine curS3 (by assumption) ?_; assumption) | (exact ⟨HS.out.1, HS.out.2.1, HS.out.2.2.1, HS.out.2.2.2.drew⟩)) (first | (go_at_call 72; refine (K1.out _).mono ?_; rintro e w1 ⟨rfl, hb1⟩; simp only [V.enc3]))
      rename_i HH
      have HW : Hid (Below w.heap.size w w1) := HH.2.2.2
      have HC1 : Hid (CurX w1 C t a true) := row_on HC.out HW.out
      have k1 := row3_cells HC1.out
      clear HH hb1 HS
      go_wp2
      go_ret
      exact ⟨0, a, true, rfl, HEB.out (by first | rfl | trivial), cur_bad HC1.out, grown_setc (grown_bel (World.grownBy.refl _ _) HW.out) _⟩

set_option maxRecDepth 100000 in
set_option maxHeartbeats 1000000 in
theorem shortC (C : Nat) (t : ByteArray) (a : Nat) (b : Bool) (ht : t.size ≤ 1048576) (ha : a ≤ t.size) (w : World) (hC : CurX w C t a b) :
    Calls Tryz.prog 33 #[.pointer (some ⟨C, 0, none⟩)] w fun e w' => ∃ (s : ByteArray) (a' : Nat) (b' : Bool), e = .returned (.string s) ∧ ShortV t a b s a' b' ∧ CurX w' C t a' b' ∧ w.grownBy w' (some C) := by
  have HC : Hid (CurX w C t a b) := hC
  have k0 := row3_cells hC
  have HS : Hid (w.cell? ⟨C, 0, none⟩ = some (.string t) ∧ w.cell? ⟨C, 1, none⟩ = some (.int .i64 (a : Int)) ∧ w.cell? ⟨C, 2, none⟩ = some (.bool b) ∧ Below w.heap.size w w) := ⟨k0.1.1, k0.1.2.1, k0.1.2.2, Below.refl _ _⟩
  have K1 : Hid (∀ w, Calls Tryz.prog 73 #[.string t, .int .i64 (a : Int)] w fun e w' => e = .returned (V.short t (V.rv t (a : Int))) ∧ Below w.heap.size w w') := V.rs15 t a ht
  clear hC k0
  rcases short_cases t a with ⟨m, c, h1, h2, h3, h4⟩ | ⟨h1, h4⟩
  · have HE : Hid (b = false → ShortV t a b (t.extract c (c + m)) (c + m) false) := fun h => .inl ⟨h, ⟨m, c, h1, h2, h3, rfl, rfl⟩, rfl⟩
    have HEB : Hid (b = true → ShortV t a b ⟨#[]⟩ a true) := fun h => .inr ⟨.inl h, rfl, rfl, rfl⟩
    rw [h4] at K1
    obtain ⟨cm, hcm⟩ : ∃ k, c + m = k := ⟨_, rfl⟩
    obtain ⟨tx, htx⟩ : ∃ k, t.extract c (c + m) = k := ⟨_, rfl⟩
    rw [htx] at HE K1
    rw [hcm] at HE K1
    clear h1 h2 h3 h4 htx hcm
    cases b
    · skip
      go_enter Tryz.func33, Tryz.ntmps33
      go_wp2
      go_region_held3 (fun w' => w'.cell? ⟨C, 0, none⟩ = some (.string t) ∧ w'.cell? ⟨C, 1, none⟩ = some (.int .i64 (a : Int)) ∧ w'.cell? ⟨C, 2, none⟩ = some (.bool false) ∧ Below w.heap.size w w') (first | (refine curS3 (by assumption) ?_; assumption) | (exact ⟨HS.out.1, HS.out.2.1, HS.out.2.2.1, HS.out.2.2.2.drew⟩)) (first | (go_at_call 73; refine (K1.out _).mono ?_; rintro e w1 ⟨rfl, hb1⟩))
      rename_i HH
      have HW : Hid (Below w.heap.size w w1) := HH.2.2.2
      have HC1 : Hid (CurX w1 C t a false) := row_on HC.out HW.out
      have k1 := row3_cells HC1.out
      clear HH hb1 HS
      go_wp2
      go_ret
      exact ⟨tx, cm, false, rfl, HE.out (by first | rfl | trivial), cur_set HC1.out cm, grown_setc (grown_bel (World.grownBy.refl _ _) HW.out) _⟩
    · skip
      go_enter Tryz.func33, Tryz.ntmps33
      go_wp2
      go_region_held3 (fun w' => w'.cell? ⟨C, 0, none⟩ = some (.string t) ∧ w'.cell? ⟨C, 1, none⟩ = some (.int .i64 (a : Int)) ∧ w'.cell? ⟨C, 2, none⟩ = some (.bool true) ∧ Below w.heap.size w w') (first | (refine curS3 (by assumption) ?_; assumption) | (exact ⟨HS.out.1, HS.out.2.1, HS.out.2.2.1, HS.out.2.2.2.drew⟩)) (first | (go_at_call 73; refine (K1.out _).mono ?_; rintro e w1 ⟨rfl, hb1⟩))
      rename_i HH
      have HW : Hid (Below w.heap.size w w1) := HH.2.2.2
      have HC1 : Hid (CurX w1 C t a true) := row_on HC.out HW.out
      have k1 := row3_cells HC1.out
      clear HH hb1 HS
      go_wp2
      go_ret
      exact ⟨⟨#[]⟩, a, true, rfl, HEB.out (by first | rfl | trivial), cur_bad HC1.out, grown_setc (grown_bel (World.grownBy.refl _ _) HW.out) _⟩
  · have HE : Hid (ShortV t a b ⟨#[]⟩ a true) := .inr ⟨.inr h1, rfl, rfl, rfl⟩
    rw [h4] at K1
    clear h1 h4
    cases b
    · skip
      go_enter Tryz.func33, Tryz.ntmps33
      go_wp2
      go_region_held3 (fun w' => w'.cell? ⟨C, 0, none⟩ = some (.string t) ∧ w'.cell? ⟨C, 1, none⟩ = some (.int .i64 (a : Int)) ∧ w'.cell? ⟨C, 2, none⟩ = some (.bool false) ∧ Below w.heap.size w w') (first | (refine curS3 (by assumption) ?_; assumption) | (exact ⟨HS.out.1, HS.out.2.1, HS.out.2.2.1, HS.out.2.2.2.drew⟩)) (first | (go_at_call 73; refine (K1.out _).mono ?_; rintro e w1 ⟨rfl, hb1⟩))
      rename_i HH
      have HW : Hid (Below w.heap.size w w1) := HH.2.2.2
      have HC1 : Hid (CurX w1 C t a false) := row_on HC.out HW.out
      have k1 := row3_cells HC1.out
      clear HH hb1 HS
      go_wp2
      go_ret
      exact ⟨⟨#[]⟩, a, true, rfl, HE.out, cur_bad HC1.out, grown_setc (grown_bel (World.grownBy.refl _ _) HW.out) _⟩
    · skip
      go_enter Tryz.func33, Tryz.ntmps33
      go_wp2
      go_region_held3 (fun w' => w'.cell? ⟨C, 0, none⟩ = some (.string t) ∧ w'.cell? ⟨C, 1, none⟩ = some (.int .i64 (a : Int)) ∧ w'.cell? ⟨C, 2, none⟩ = some (.bool true) ∧ Below w.heap.size w w') (first | (refine curS3 (by assumption) ?_; assumption) | (exact ⟨HS.out.1, HS.out.2.1, HS.out.2.2.1, HS.out.2.2.2.drew⟩)) (first | (go_at_call 73; refine (K1.out _).mono ?_; rintro e w1 ⟨rfl, hb1⟩))
      rename_i HH
      have HW : Hid (Below w.heap.size w w1) := HH.2.2.2
      have HC1 : Hid (CurX w1 C t a true) := row_on HC.out HW.out
      have k1 := row3_cells HC1.out
      clear HH hb1 HS
      go_wp2
      go_ret
      exact ⟨⟨#[]⟩, a, true, rfl, HE.out, cur_bad HC1.out, grown_setc (grown_bel (World.grownBy.refl _ _) HW.out) _⟩
end Go.Proofs.YtadbekhekggpkaaGreatDoor
