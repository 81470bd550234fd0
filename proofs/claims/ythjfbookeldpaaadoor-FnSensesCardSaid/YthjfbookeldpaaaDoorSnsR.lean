/-
  SnsR: ReadSense of both sides.
-/
import Derived.Test.YthjfbookeldpaaaDoorSnsS
namespace Go.Proofs.YthjfbookeldpaaaDoor
open Go.RowKit Go.PlainAid
set_option linter.unusedVariables false

/-- the first of f numbers from i on whose names this is -/
def look (t : ByteArray) : Nat → Nat → Option Nat
  | 0, _ => none
  | f + 1, i => if nameB (i : Int) = t then some i else look t f (i + 1)
def lookV (t : ByteArray) : Int × Bool := match look t 16 0 with | some i => ((i : Int), true) | none => (0, false)
theorem look_go {t : ByteArray} {k : Nat} (hk : k < 16) (h : ¬ nameB (k : Int) = t) : look t (16 - k) k = look t (16 - (k + 1)) (k + 1) := by
  rw [show 16 - k = (16 - (k + 1)) + 1 by omega, look, if_neg h]
theorem look_at {t : ByteArray} {k : Nat} (hk : k < 16) (h : nameB (k : Int) = t) (h0 : look t 16 0 = look t (16 - k) k) : lookV t = ((k : Int), true) := by
  unfold lookV
  rw [h0, show 16 - k = (16 - (k + 1)) + 1 by omega, look, if_pos h]
theorem look_no {t : ByteArray} (h0 : look t 16 0 = look t (16 - 16) 16) : lookV t = (0, false) := by
  unfold lookV
  rw [h0]; rfl
theorem ba_ext {a b : ByteArray} (h : a.toList = b.toList) : a = b := by
  rw [ByteArray.toList_eq, ByteArray.toList_eq] at h
  exact ByteArray.ext (Array.toList_inj.1 h)
theorem nameN_in {k : Nat} (hk : k < 16) : nameN (k : Int) = nameB (k : Int) := if_pos (by omega)

set_option maxRecDepth 100000 in
set_option maxHeartbeats 1000000 in
theorem readI (t : ByteArray) (w : World) (ht : TabS w) : Calls Tryd.prog 8 #[.string t] w fun e w' => e = .returned (.tuple #[.int .i64 (lookV t).1, .bool (lookV t).2]) ∧ Below w.heap.size w w' := by
  have HT : Hid (TabS w) := ht
  clear ht
  go_enter Tryd.func8, Tryd.ntmps8
  go_wp2
  go_loopw [5] (fun i wr => ∃ (k : Nat), k ≤ 16 ∧ i = .int .i64 k ∧ Hid (look t 16 0 = look t (16 - k) k) ∧ Below w.heap.size w wr) (fun i _ => 16 - (intOf i).toNat)
  case atStart => exact ⟨0, by decide, rfl, rfl, Below.refl _ _⟩
  case round =>
    obtain ⟨k, hk, rfl, HL, hnx⟩ := hrel
    by_cases h16 : k = 16
    · subst h16
      have HV := look_no HL.out
      clear HL
      go_wp2
      go_ret2
      exact ⟨by rw [HV]; rfl, hnx⟩
    · have hlt : k < 16 := by omega
      have e256 : (k : Int) % 256 = k := by omega
      clear h16
      go_wp2_with fail
      refine (namesI (k : Int) (by omega) (by omega) _ (tabS_below HT.out hnx)).mono ?_
      rintro e w2 ⟨rfl, hb2⟩
      have hnx2 : Below w.heap.size w w2 := bel_on (Nat.le_refl _) hnx hb2
      clear hnx hb2
      by_cases he : nameB (k : Int) = t
      · have HV : Hid (lookV t = ((k : Int), true)) := look_at hlt he HL.out
        rw [he]
        clear he HL
        go_wp2
        go_ret2
        exact ⟨by rw [HV.out]; rfl, hnx2⟩
      · have HL2 : Hid (look t 16 0 = look t (16 - (k + 1)) (k + 1)) := HL.out.trans (look_go hlt he)
        generalize nameB (k : Int) = x at *
        have hbq : (x.toList == t.toList) = false := beq_eq_false_iff_ne.mpr fun h => he (ba_ext h)
        clear HL he
        go_wp2
        go_roundw
        case rel => exact ⟨k + 1, by omega, rfl, HL2, hnx2⟩
        case measure => simp [intOf]; omega
set_option maxRecDepth 100000 in
set_option maxHeartbeats 1000000 in
theorem readS (t : ByteArray) (w : World) : Calls Tryd.prog 12 #[.string t] w fun e w' => e = .returned (.tuple #[.int .i64 (lookV t).1, .bool (lookV t).2]) ∧ Below w.heap.size w w' := by
  go_enter Tryd.func12, Tryd.ntmps12
  go_wp2
  go_loopw [4] (fun i wr => ∃ (k : Nat), k ≤ 16 ∧ i = .int .i64 k ∧ Hid (look t 16 0 = look t (16 - k) k) ∧ Below w.heap.size w wr) (fun i _ => 16 - (intOf i).toNat)
  case atStart => exact ⟨0, by decide, rfl, rfl, Below.refl _ _⟩
  case round =>
    obtain ⟨k, hk, rfl, HL, hnx⟩ := hrel
    by_cases h16 : k = 16
    · subst h16
      have HV := look_no HL.out
      clear HL
      go_wp2
      go_ret2
      exact ⟨by rw [HV]; rfl, hnx⟩
    · have hlt : k < 16 := by omega
      clear h16
      go_wp2_with fail
      refine (sNamesS (k : Int) _).mono ?_
      rintro e w2 ⟨rfl, hb2⟩
      rw [nameN_in hlt]
      have hnx2 : Below w.heap.size w w2 := bel_on (Nat.le_refl _) hnx hb2
      clear hnx hb2
      by_cases he : nameB (k : Int) = t
      · have HV : Hid (lookV t = ((k : Int), true)) := look_at hlt he HL.out
        rw [he]
        clear he HL
        go_wp2
        go_ret2
        exact ⟨by rw [HV.out]; rfl, hnx2⟩
      · have HL2 : Hid (look t 16 0 = look t (16 - (k + 1)) (k + 1)) := HL.out.trans (look_go hlt he)
        generalize nameB (k : Int) = x at *
        have hbq : (x.toList == t.toList) = false := beq_eq_false_iff_ne.mpr fun h => he (ba_ext h)
        clear HL he
        go_wp2
        go_roundw
        case rel => exact ⟨k + 1, by omega, rfl, HL2, hnx2⟩
        case measure => simp [intOf]; omega
end Go.Proofs.YthjfbookeldpaaaDoor
