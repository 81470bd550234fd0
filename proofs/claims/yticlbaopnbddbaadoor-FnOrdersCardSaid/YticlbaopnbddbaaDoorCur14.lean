/-
  A cursor over a text, and what it reads (the specification's).
-/
import Derived.Test.YticlbaopnbddbaaDoorOrdT
import Derived.Deep.RegionHeld3
namespace Go.Proofs.YticlbaopnbddbaaDoor
open Go.RowKit Go.PlainAid
set_option linter.unusedVariables false

theorem set_row5 {w : World} {k : Nat} {T : TypeId} {a : Array Value} (h : w.heap[k]? = some (.cells a T)) (i : Nat) (x : Value) : (w.setCell ⟨k, i, none⟩ x).heap[k]? = some (.cells (a.setIfInBounds i x) T) := heap_setCell_same w k i _ _ x h
theorem row3_cells {w : World} {k : Nat} {t : TypeId} {x0 x1 x2 : Value} (h : w.heap[k]? = some (.cells #[x0, x1, x2] t)) :
    (w.cell? ⟨k, 0, none⟩ = some x0 ∧ w.cell? ⟨k, 1, none⟩ = some x1 ∧ w.cell? ⟨k, 2, none⟩ = some x2) ∧ w.frozen? ⟨k, 0, none⟩ = false ∧ w.frozen? ⟨k, 1, none⟩ = false ∧ w.frozen? ⟨k, 2, none⟩ = false := by
  refine ⟨⟨?_, ?_, ?_⟩, ?_, ?_, ?_⟩ <;> simp [World.cell?, World.frozen?, h]
theorem grown_setc {w W : World} {g i : Nat} (h : w.grownBy W (some g)) (u : Value) : w.grownBy (W.setCell ⟨g, i, none⟩ u) (some g) := by
  have hs : (W.setCell ⟨g, i, none⟩ u).heap.size = W.heap.size := by simp
  exact ⟨h.os, h.tape, h.output, by rw [hs]; exact h.size, fun m hm hne => (Below.heap_setCell _ _ _ _ (show m ≠ g from fun e => hne (by rw [e]))).trans (h.block m hm hne)⟩
theorem set_far {w : World} {k g i : Nat} {o : Obj} {x : Value} (h : w.heap[g]? = some o) (hne : g ≠ k) : (w.setCell ⟨k, i, none⟩ x).heap[g]? = some o := (Below.heap_setCell _ _ _ _ hne).trans h
/-- the cursor's block -/
def CurX (w : World) (C : Nat) (t : ByteArray) (a : Nat) (b : Bool) : Prop := w.heap[C]? = some (.cells #[.string t, .int .i64 (a : Int), .bool b] 56)
/-- one number read -/
def StepV (t : ByteArray) (a : Nat) (b : Bool) (n : Int) (a' : Nat) (b' : Bool) : Prop :=
  (b = false ∧ V.rv t (a : Int) = some (n, a') ∧ b' = false) ∨ ((b = true ∨ V.rv t (a : Int) = none) ∧ n = 0 ∧ a' = a ∧ b' = true)
theorem StepV.num {t : ByteArray} {a : Nat} {b : Bool} {n : Int} {a' : Nat} {b' : Bool} (h : StepV t a b n a' b') (ha : a ≤ t.size) : 0 ≤ n ∧ n ≤ 1000000000 ∧ a' ≤ t.size := by
  rcases h with ⟨_, h, _⟩ | ⟨_, rfl, rfl, _⟩
  · exact V.rv_some h
  · exact ⟨by omega, by omega, ha⟩
theorem cur_set {w : World} {C : Nat} {t : ByteArray} {a : Nat} {b : Bool} (h : CurX w C t a b) (a' : Nat) : CurX (w.setCell ⟨C, 1, none⟩ (.int .i64 (a' : Int))) C t a' b := by
  unfold CurX at h ⊢
  exact set_row5 h 1 _
theorem cur_bad {w : World} {C : Nat} {t : ByteArray} {a : Nat} {b : Bool} (h : CurX w C t a b) : CurX (w.setCell ⟨C, 2, none⟩ (.bool true)) C t a true := by
  unfold CurX at h ⊢
  exact set_row5 h 2 _
/-- what is done to memory: new blocks, and the cursor's -/
theorem grown_bel {w W W' : World} {C : Nat} (hg : w.grownBy W (some C)) (hb : Below W.heap.size W W') : w.grownBy W' (some C) :=
  ⟨hb.os.trans hg.os, hb.tape.trans hg.tape, hb.output.trans hg.output, Nat.le_trans hg.size hb.size, fun k hk hne => (hb.block k (Nat.lt_of_lt_of_le hk hg.size)).trans (hg.block k hk hne)⟩
theorem curS3 {w W W' : World} {C : Nat} {x y z : Value} (hb : Below W.heap.size W W') (h : W.cell? ⟨C, 0, none⟩ = some x ∧ W.cell? ⟨C, 1, none⟩ = some y ∧ W.cell? ⟨C, 2, none⟩ = some z ∧ Below w.heap.size w W) : W'.cell? ⟨C, 0, none⟩ = some x ∧ W'.cell? ⟨C, 1, none⟩ = some y ∧ W'.cell? ⟨C, 2, none⟩ = some z ∧ Below w.heap.size w W' := by
  obtain ⟨h0, h1, h2, hB⟩ := h
  have hl := World.block_lt_of_cell? W ⟨C, 0, none⟩ h0
  exact ⟨(hb.cell (p := ⟨C, 0, none⟩) hl).trans h0, (hb.cell (p := ⟨C, 1, none⟩) hl).trans h1, (hb.cell (p := ⟨C, 2, none⟩) hl).trans h2, bel_on (Nat.le_refl _) hB hb⟩

set_option maxRecDepth 100000 in
set_option maxHeartbeats 1000000 in
theorem varC (C : Nat) (t : ByteArray) (a : Nat) (b : Bool) (ht : t.size ≤ 1048576) (ha : a ≤ t.size) (w : World) (hC : CurX w C t a b) :
    Calls Tryd.prog 32 #[.pointer (some ⟨C, 0, none⟩)] w fun e w' => ∃ (n : Int) (a' : Nat) (b' : Bool), e = .returned (.int .i64 n) ∧ StepV t a b n a' b' ∧ CurX w' C t a' b' ∧ w.grownBy w' (some C) := by
  have HC : Hid (CurX w C t a b) := hC
  have k0 := row3_cells hC
  have HS : Hid (w.cell? ⟨C, 0, none⟩ = some (.string t) ∧ w.cell? ⟨C, 1, none⟩ = some (.int .i64 (a : Int)) ∧ w.cell? ⟨C, 2, none⟩ = some (.bool b) ∧ Below w.heap.size w w) := ⟨k0.1.1, k0.1.2.1, k0.1.2.2, Below.refl _ _⟩
  have K1 : Hid (∀ w, Calls Tryd.prog 45 #[.string t, .int .i64 (a : Int)] w fun e w' => e = .returned (V.enc3 (V.rv t (a : Int))) ∧ Below w.heap.size w w') := V.rv11 t a ht
  clear hC k0
  rcases hR : V.rv t (a : Int) with _ | ⟨M, c⟩
  · have HE : Hid (StepV t a b 0 a true) := .inr ⟨.inr hR, rfl, rfl, rfl⟩
    rw [hR] at K1
    clear hR
    cases b
    · skip
      go_enter Tryd.func32, Tryd.ntmps32
      go_wp2
      go_region_held3 (fun w' => w'.cell? ⟨C, 0, none⟩ = some (.string t) ∧ w'.cell? ⟨C, 1, none⟩ = some (.int .i64 (a : Int)) ∧ w'.cell? ⟨C, 2, none⟩ = some (.bool false) ∧ Below w.heap.size w w') (first | (refine curS3 (by assumption) ?_; assumption) | (exact ⟨HS.out.1, HS.out.2.1, HS.out.2.2.1, HS.out.2.2.2.drew⟩)) (first | (go_at_call 45; refine (K1.out _).mono ?_; rintro e w1 ⟨rfl, hb1⟩; simp only [V.enc3]))
      rename_i HH
      have HW : Hid (Below w.heap.size w w1) := HH.2.2.2
      have HC1 : Hid (CurX w1 C t a false) := row_on HC.out HW.out
      have k1 := row3_cells HC1.out
      clear HH hb1 HS
      go_wp2
      go_ret
      exact ⟨0, a, true, rfl, HE.out, cur_bad HC1.out, grown_setc (grown_bel (World.grownBy.refl _ _) HW.out) _⟩
    · skip
      go_enter Tryd.func32, Tryd.ntmps32
      go_wp2
      go_region_held3 (fun w' => w'.cell? ⟨C, 0, none⟩ = some (.string t) ∧ w'.cell? ⟨C, 1, none⟩ = some (.int .i64 (a : Int)) ∧ w'.cell? ⟨C, 2, none⟩ = some (.bool true) ∧ Below w.heap.size w w') (first | (refine curS3 (by assumption) ?_; assumption) | (exact ⟨HS.out.1, HS.out.2.1, HS.out.2.2.1, HS.out.2.2.2.drew⟩)) (first | (go_at_call 45; refine (K1.out _).mono ?_; rintro e w1 ⟨rfl, hb1⟩; simp only [V.enc3]))
      rename_i HH
      have HW : Hid (Below w.heap.size w w1) := HH.2.2.2
      have HC1 : Hid (CurX w1 C t a true) := row_on HC.out HW.out
      have k1 := row3_cells HC1.out
      clear HH hb1 HS
      go_wp2
      go_ret
      exact ⟨0, a, true, rfl, HE.out, cur_bad HC1.out, grown_setc (grown_bel (World.grownBy.refl _ _) HW.out) _⟩
  · have HE : Hid (b = false → StepV t a b M c false) := fun h => .inl ⟨h, hR, rfl⟩
    have HEB : Hid (b = true → StepV t a b 0 a true) := fun h => .inr ⟨.inl h, rfl, rfl, rfl⟩
    rw [hR] at K1
    clear hR
    cases b
    · skip
      go_enter Tryd.func32, Tryd.ntmps32
      go_wp2
      go_region_held3 (fun w' => w'.cell? ⟨C, 0, none⟩ = some (.string t) ∧ w'.cell? ⟨C, 1, none⟩ = some (.int .i64 (a : Int)) ∧ w'.cell? ⟨C, 2, none⟩ = some (.bool false) ∧ Below w.heap.size w w') (first | (refine curS3 (by assumption) ?_; assumption) | (exact ⟨HS.out.1, HS.out.2.1, HS.out.2.2.1, HS.out.2.2.2.drew⟩)) (first | (go_at_call 45; refine (K1.out _).mono ?_; rintro e w1 ⟨rfl, hb1⟩; simp only [V.enc3]))
      rename_i HH
      have HW : Hid (Below w.heap.size w w1) := HH.2.2.2
      have HC1 : Hid (CurX w1 C t a false) := row_on HC.out HW.out
      have k1 := row3_cells HC1.out
      clear HH hb1 HS
      go_wp2
      go_ret
      exact ⟨M, c, false, rfl, HE.out (by first | rfl | trivial), cur_set HC1.out c, grown_setc (grown_bel (World.grownBy.refl _ _) HW.out) _⟩
    · skip
      go_enter Tryd.func32, Tryd.ntmps32
      go_wp2
      go_region_held3 (fun w' => w'.cell? ⟨C, 0, none⟩ = some (.string t) ∧ w'.cell? ⟨C, 1, none⟩ = some (.int .i64 (a : Int)) ∧ w'.cell? ⟨C, 2, none⟩ = some (.bool true) ∧ Below w.heap.size w w') (first | (refine curS3 (by assumption) ?_; assumption) | (exact ⟨HS.out.1, HS.out.2.1, HS.out.2.2.1, HS.out.2.2.2.drew⟩)) (first | (go_at_call 45; refine (K1.out _).mono ?_; rintro e w1 ⟨rfl, hb1⟩; simp only [V.enc3]))
      rename_i HH
      have HW : Hid (Below w.heap.size w w1) := HH.2.2.2
      have HC1 : Hid (CurX w1 C t a true) := row_on HC.out HW.out
      have k1 := row3_cells HC1.out
      clear HH hb1 HS
      go_wp2
      go_ret
      exact ⟨0, a, true, rfl, HEB.out (by first | rfl | trivial), cur_bad HC1.out, grown_setc (grown_bel (World.grownBy.refl _ _) HW.out) _⟩
end Go.Proofs.YticlbaopnbddbaaDoor
