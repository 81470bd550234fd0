/-
  The contract of the program's ReadShort.
-/
import Derived.Test.YtadbekhekggpkaaGreatDoorRdShV
import Derived.Test.YtadbekhekggpkaaGreatDoorShelf
import Derived.Test.YtadbekhekggpkaaGreatDoorCur11
import Derived.WalkLawsBesides
namespace Go.Proofs.YtadbekhekggpkaaGreatDoor.V
open Go.RowKit Plain Go.PlainAid
set_option linter.unusedVariables false

theorem clone24 (s : ByteArray) (w : World) (hs : s.size ≤ 281474976710656) :
    Calls Tryz.prog 118 #[.string s] w fun e w' => e = .returned (.string s) ∧ Below w.heap.size w w' := by
  go_enter Tryz.func118, Tryz.ntmps118
  go_wp2_with fail
  refine (Tryz.stringslite_Clone s _ hs).mono ?_
  rintro e w1 ⟨rfl, hb⟩
  go_wp2
  go_ret
  exact ⟨rfl, hb⟩

set_option maxRecDepth 100000 in
set_option maxHeartbeats 400000 in
theorem rs16 (s : ByteArray) (a : Int) (hs : s.size ≤ 1048576) (w : World) :
    Calls Tryz.prog 114 #[.string s, .int .i64 a] w fun e w' => e = .returned (short s (rv s a)) ∧ Below w.heap.size w w' := by
  have K1 : Hid (∀ w, Calls Tryz.prog 117 #[.string s, .int .i64 a] w fun e w' => e = .returned (enc3 (rv s a)) ∧ Below w.heap.size w w') := rv12 s a hs
  rcases hR : rv s a with _ | ⟨M, c⟩
  · rw [hR] at K1
    clear hR
    go_enter Tryz.func114, Tryz.ntmps114
    go_wp2_with fail
    refine (K1.out _).mono ?_
    rintro e w1 ⟨rfl, hb1⟩
    simp only [enc3]
    go_wp2
    go_ret3
    exact ⟨rfl, hb1⟩
  · have hb := rv_some hR
    rw [hR] at K1
    clear hR
    obtain ⟨m, rfl⟩ := Int.eq_ofNat_of_zero_le hb.1
    have hm : m ≤ 1000000000 := by omega
    have hc := hb.2.2
    clear hb
    by_cases h1 : m ≤ 20000
    · by_cases h2 : m + c ≤ s.size
      · have H : Hid (short s (some ((m : Int), c)) = _) := short_yes h1 h2
        go_enter Tryz.func114, Tryz.ntmps114
        go_wp2_with fail
        refine (K1.out _).mono ?_
        rintro e w1 ⟨rfl, hb1⟩
        simp only [enc3]
        go_wp2_with fail
        refine (clone24 _ _ (by rw [ByteArray.size_extract]; omega)).mono ?_
        rintro e w2 ⟨rfl, hb2⟩
        go_wp2
        go_ret3
        exact ⟨by rw [H.out]; rfl, hb1.trans (hb2.mono hb1.size)⟩
      · have H : Hid (short s (some ((m : Int), c)) = _) := short_no (by omega)
        go_enter Tryz.func114, Tryz.ntmps114
        go_wp2_with fail
        refine (K1.out _).mono ?_
        rintro e w1 ⟨rfl, hb1⟩
        simp only [enc3]
        go_wp2
        go_ret3
        exact ⟨by rw [H.out]; rfl, hb1⟩
    · have H : Hid (short s (some ((m : Int), c)) = _) := short_no (by omega)
      go_enter Tryz.func114, Tryz.ntmps114
      go_wp2_with fail
      refine (K1.out _).mono ?_
      rintro e w1 ⟨rfl, hb1⟩
      simp only [enc3]
      go_wp2
      go_ret3
      exact ⟨by rw [H.out]; rfl, hb1⟩
end Go.Proofs.YtadbekhekggpkaaGreatDoor.V

namespace Go.Proofs.YtadbekhekggpkaaGreatDoor
open Go.RowKit Go.PlainAid
set_option linter.unusedVariables false

/-- what the reader panics with -/
def unr : PanicEntry := { v := .iface 99 (.agg #[]), recovered := false }
/-- a reader at block C -/
def RdrX (w : World) (C : Nat) (t : ByteArray) (a : Nat) : Prop := w.heap[C]? = some (.cells #[.string t, .int .i64 (a : Int)] 102)
theorem RdrX.cells {w : World} {C : Nat} {t : ByteArray} {a : Nat} (h : RdrX w C t a) : w.cell? ⟨C, 0, none⟩ = some (.string t) ∧ w.cell? ⟨C, 1, none⟩ = some (.int .i64 (a : Int)) ∧ w.frozen? ⟨C, 0, none⟩ = false ∧ w.frozen? ⟨C, 1, none⟩ = false := by
  unfold RdrX at h
  refine ⟨?_, ?_, ?_, ?_⟩ <;> simp [World.cell?, World.frozen?, h]
theorem RdrX.on {w w' : World} {C : Nat} {t : ByteArray} {a : Nat} (h : RdrX w C t a) (hb : Below w.heap.size w w') : RdrX w' C t a := row_on h hb
theorem RdrX.set {w : World} {C : Nat} {t : ByteArray} {a : Nat} (h : RdrX w C t a) (c : Nat) : RdrX (w.setCell ⟨C, 1, none⟩ (.int .i64 (c : Int))) C t c := set_row5 (a := #[.string t, .int .i64 (a : Int)]) h 1 _
theorem rd2 {w W W' : World} {C : Nat} {x y : Value} (hb : Below W.heap.size W W') (h : W.cell? ⟨C, 0, none⟩ = some x ∧ W.cell? ⟨C, 1, none⟩ = some y ∧ Below w.heap.size w W) : W'.cell? ⟨C, 0, none⟩ = some x ∧ W'.cell? ⟨C, 1, none⟩ = some y ∧ Below w.heap.size w W' := by
  obtain ⟨h0, h1, hB⟩ := h
  exact ⟨(hb.cell (World.block_lt_of_cell? W _ h0)).trans h0, (hb.cell (World.block_lt_of_cell? W _ h1)).trans h1, bel_on (Nat.le_refl _) hB hb⟩

set_option maxRecDepth 100000 in
set_option maxHeartbeats 1000000 in
theorem number_ok (C : Nat) (t : ByteArray) (a : Nat) (n : Int) (c : Nat) (ht : t.size ≤ 1048576) (hR : V.rv t (a : Int) = some (n, c)) (w : World) (hC : RdrX w C t a) :
    Calls Tryz.prog 113 #[.pointer (some ⟨C, 0, none⟩)] w fun e w' => e = .returned (.int .i64 n) ∧ RdrX w' C t c ∧ w.grownBy w' (some C) := by
  have HC : Hid (RdrX w C t a) := hC
  have k0 := hC.cells
  have HS : Hid (w.cell? ⟨C, 0, none⟩ = some (.string t) ∧ w.cell? ⟨C, 1, none⟩ = some (.int .i64 (a : Int)) ∧ Below w.heap.size w w) := ⟨k0.1, k0.2.1, Below.refl _ _⟩
  have K1 : Hid (∀ w, Calls Tryz.prog 117 #[.string t, .int .i64 (a : Int)] w fun e w' => e = .returned (V.enc3 (V.rv t (a : Int))) ∧ Below w.heap.size w w') := V.rv12 t a ht
  rw [hR] at K1
  clear hC k0 hR
  go_enter Tryz.func113, Tryz.ntmps113
  go_wp2
  go_region_held3 (fun w' => w'.cell? ⟨C, 0, none⟩ = some (.string t) ∧ w'.cell? ⟨C, 1, none⟩ = some (.int .i64 (a : Int)) ∧ Below w.heap.size w w') (first | (refine rd2 (by assumption) ?_; assumption) | (exact ⟨HS.out.1, HS.out.2.1, HS.out.2.2.drew⟩)) (first | (go_at_call 117; refine (K1.out _).mono ?_; rintro e w1 ⟨rfl, hb1⟩; simp only [V.enc3]))
  rename_i HH
  have HW : Hid (Below w.heap.size w w1) := HH.2.2
  have HC1 : Hid (RdrX w1 C t a) := HC.out.on HW.out
  have k1 := HC1.out.cells
  clear HH hb1 HS
  go_wp2
  go_ret
  exact ⟨rfl, HC1.out.set c, grown_setc (grown_bel (World.grownBy.refl _ _) HW.out) _⟩

set_option maxRecDepth 100000 in
set_option maxHeartbeats 1000000 in
theorem number_no (C : Nat) (t : ByteArray) (a : Nat) (ht : t.size ≤ 1048576) (hR : V.rv t (a : Int) = none) (w : World) (hC : RdrX w C t a) :
    Calls Tryz.prog 113 #[.pointer (some ⟨C, 0, none⟩)] w fun e w' => e = .panicked [unr] ∧ w.grownBy w' (some C) := by
  have HC : Hid (RdrX w C t a) := hC
  have k0 := hC.cells
  have HS : Hid (w.cell? ⟨C, 0, none⟩ = some (.string t) ∧ w.cell? ⟨C, 1, none⟩ = some (.int .i64 (a : Int)) ∧ Below w.heap.size w w) := ⟨k0.1, k0.2.1, Below.refl _ _⟩
  have K1 : Hid (∀ w, Calls Tryz.prog 117 #[.string t, .int .i64 (a : Int)] w fun e w' => e = .returned (V.enc3 (V.rv t (a : Int))) ∧ Below w.heap.size w w') := V.rv12 t a ht
  rw [hR] at K1
  clear hC k0 hR
  go_enter Tryz.func113, Tryz.ntmps113
  go_wp2
  go_region_held3 (fun w' => w'.cell? ⟨C, 0, none⟩ = some (.string t) ∧ w'.cell? ⟨C, 1, none⟩ = some (.int .i64 (a : Int)) ∧ Below w.heap.size w w') (first | (refine rd2 (by assumption) ?_; assumption) | (exact ⟨HS.out.1, HS.out.2.1, HS.out.2.2.drew⟩)) (first | (go_at_call 117; refine (K1.out _).mono ?_; rintro e w1 ⟨rfl, hb1⟩; simp only [V.enc3]))
  rename_i HH
  have HW : Hid (Below w.heap.size w w1) := HH.2.2
  clear HH hb1 HS
  go_wp2
  exact ⟨rfl, rfl, grown_bel (World.grownBy.refl _ _) HW.out⟩

set_option maxRecDepth 100000 in
set_option maxHeartbeats 1000000 in
theorem count_ok (C : Nat) (t : ByteArray) (a : Nat) (n most : Int) (c : Nat) (ht : t.size ≤ 1048576) (hR : V.rv t (a : Int) = some (n, c)) (hm : n ≤ most) (w : World) (hC : RdrX w C t a) :
    Calls Tryz.prog 88 #[.pointer (some ⟨C, 0, none⟩), .int .i64 most] w fun e w' => e = .returned (.int .i64 n) ∧ RdrX w' C t c ∧ w.grownBy w' (some C) := by
  have K : Hid (∀ w, RdrX w C t a → Calls Tryz.prog 113 #[.pointer (some ⟨C, 0, none⟩)] w fun e w' => e = .returned (.int .i64 n) ∧ RdrX w' C t c ∧ w.grownBy w' (some C)) := number_ok C t a n c ht hR
  have HC : Hid (RdrX w C t a) := hC
  clear hC hR
  go_enter Tryz.func88, Tryz.ntmps88
  go_wp2_with fail
  refine (K.out _ HC.out).mono ?_
  rintro e w1 ⟨rfl, hC1, hg⟩
  have HC1 : Hid (RdrX w1 C t c ∧ w.grownBy w1 (some C)) := ⟨hC1, hg⟩
  clear hC1 hg HC
  go_wp2
  go_ret
  exact ⟨rfl, HC1.out⟩

set_option maxRecDepth 100000 in
set_option maxHeartbeats 1000000 in
theorem count_no (C : Nat) (t : ByteArray) (a : Nat) (most : Int) (ht : t.size ≤ 1048576) (hR : V.rv t (a : Int) = none ∨ ∃ n c, V.rv t (a : Int) = some (n, c) ∧ most < n) (w : World) (hC : RdrX w C t a) :
    Calls Tryz.prog 88 #[.pointer (some ⟨C, 0, none⟩), .int .i64 most] w fun e w' => e = .panicked [unr] ∧ w.grownBy w' (some C) := by
  have HC : Hid (RdrX w C t a) := hC
  clear hC
  rcases hR with hR | ⟨n, c, hR, hm⟩
  · have K : Hid (∀ w, RdrX w C t a → Calls Tryz.prog 113 #[.pointer (some ⟨C, 0, none⟩)] w fun e w' => e = .panicked [unr] ∧ w.grownBy w' (some C)) := number_no C t a ht hR
    clear hR
    go_enter Tryz.func88, Tryz.ntmps88
    go_wp2_with fail
    refine (K.out _ HC.out).mono ?_
    rintro e w1 ⟨rfl, hg⟩
    have HG : Hid (w.grownBy w1 (some C)) := hg
    clear hg
    go_wp2
    exact ⟨rfl, rfl, HG.out⟩
  · have K : Hid (∀ w, RdrX w C t a → Calls Tryz.prog 113 #[.pointer (some ⟨C, 0, none⟩)] w fun e w' => e = .returned (.int .i64 n) ∧ RdrX w' C t c ∧ w.grownBy w' (some C)) := number_ok C t a n c ht hR
    clear hR
    go_enter Tryz.func88, Tryz.ntmps88
    go_wp2_with fail
    refine (K.out _ HC.out).mono ?_
    rintro e w1 ⟨rfl, hC1, hg⟩
    have HC1 : Hid (RdrX w1 C t c ∧ w.grownBy w1 (some C)) := ⟨hC1, hg⟩
    clear hC1 hg HC
    go_wp2
    exact ⟨rfl, rfl, HC1.out.2⟩
end Go.Proofs.YtadbekhekggpkaaGreatDoor
