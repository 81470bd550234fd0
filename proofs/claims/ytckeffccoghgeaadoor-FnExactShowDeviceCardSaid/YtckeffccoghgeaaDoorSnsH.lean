/-
  SnsH: what is felt: SenseOk and Has of the program and of the specification.
-/
import Derived.Test.YtckeffccoghgeaaDoorBase
namespace Go.Proofs.YtckeffccoghgeaaDoor.H
open Go.RowKit Go.PlainAid
set_option linter.unusedVariables false

theorem holdsI (l m n : Int) (b : Bool) (hb : decide (l ≤ n ∧ n ≤ m) = b) (w : World) : Calls Tryd.prog 51 #[.agg #[.int .i64 l, .int .i64 m], .int .i64 n] w fun e w' => e = .returned (.bool b) ∧ Below w.heap.size w w' := by
  go_enter Tryd.func51, Tryd.ntmps51
  by_cases h1 : l ≤ n
  · by_cases h2 : n ≤ m
    · go_wp2
      go_ret
      exact ⟨by rw [← hb, decide_eq_true ⟨h1, h2⟩]; rfl, (Below.refl _ _).alloc (Nat.le_refl _) _⟩
    · go_wp2
      go_ret
      exact ⟨by rw [← hb, decide_eq_false (fun h => by omega)]; rfl, (Below.refl _ _).alloc (Nat.le_refl _) _⟩
  · go_wp2
    go_ret
    exact ⟨by rw [← hb, decide_eq_false (fun h => by omega)]; rfl, (Below.refl _ _).alloc (Nat.le_refl _) _⟩

theorem inS (l m n : Int) (b : Bool) (hb : decide (l ≤ n ∧ n ≤ m) = b) (w : World) : Calls Tryd.prog 31 #[.int .i64 n, .int .i64 l, .int .i64 m] w fun e w' => e = .returned (.bool b) ∧ w' = w := by
  go_enter Tryd.func31, Tryd.ntmps31
  by_cases h1 : l ≤ n
  · by_cases h2 : n ≤ m
    · go_wp2
      go_ret
      exact ⟨by rw [← hb, decide_eq_true ⟨h1, h2⟩]; rfl, rfl⟩
    · go_wp2
      go_ret
      exact ⟨by rw [← hb, decide_eq_false (fun h => by omega)]; rfl, rfl⟩
  · go_wp2
    go_ret
    exact ⟨by rw [← hb, decide_eq_false (fun h => by omega)]; rfl, rfl⟩

theorem bel_on {w W W' : World} {B : Nat} (hB : B ≤ w.heap.size) (h : Below B w W) (hb : Below W.heap.size W W') : Below B w W' := h.trans (hb.mono (Nat.le_trans hB h.size))
theorem senseS (n : Int) (b : Bool) (hb : decide (0 ≤ n ∧ n ≤ 15) = b) (w : World) : Calls Tryd.prog 33 #[.int .i64 n] w fun e w' => e = .returned (.bool b) ∧ w' = w := by
  go_enter Tryd.func33, Tryd.ntmps33
  go_wp2_with fail
  refine (inS 0 15 n b hb _).mono ?_
  rintro e w1 ⟨rfl, rfl⟩
  go_wp2
  go_ret
  exact ⟨rfl, rfl⟩

theorem senseI (n : Int) (b : Bool) (hb : decide (0 ≤ n ∧ n ≤ 15) = b) (w : World) : Calls Tryd.prog 44 #[.int .i64 n] w fun e w' => e = .returned (.bool b) ∧ Below w.heap.size w w' := by
  go_enter Tryd.func44, Tryd.ntmps44
  go_wp2_with fail
  refine (holdsI 0 15 n b hb _).mono ?_
  rintro e w1 ⟨rfl, hb1⟩
  go_wp2
  go_ret
  exact ⟨rfl, hb1⟩

def bitB (a b : Int) : Bool := !(IntKind.u8.wrap ((BitVec.ofInt 8 a &&& BitVec.ofInt 8 b).toNat : Int) == 0)
def oneB (a : Int) : Bool := !(a == 0) && (IntKind.u8.wrap ((BitVec.ofInt 8 a &&& BitVec.ofInt 8 (IntKind.u8.wrap (a - 1))).toNat : Int) == 0)
theorem bitI (a b : Int) (w : World) : Calls Tryd.prog 63 #[.int .u8 a, .int .u8 b] w fun e w' => e = .returned (.bool (bitB a b)) ∧ w' = w := by
  go_enter Tryd.func63, Tryd.ntmps63
  go_wp2
  go_ret
  exact ⟨rfl, rfl⟩
def hasB (n o : Int) : Bool := decide (0 ≤ n ∧ n ≤ 15) && (decide (o = 1 ∨ o = 2 ∨ o = 4 ∨ o = 8) && decide (n / o % 2 = 1))
theorem has_fin : ∀ i j : Fin 16, hasB (i.val : Int) (j.val : Int) = (oneB (j.val : Int) && bitB (i.val : Int) (j.val : Int)) := by decide +kernel
theorem has_eq (n o : Int) (hn : 0 ≤ n ∧ n ≤ 15) (ho : 0 ≤ o ∧ o ≤ 15) : hasB n o = (oneB o && bitB n o) := by
  have h := has_fin ⟨n.toNat, by omega⟩ ⟨o.toNat, by omega⟩
  have e1 : ((n.toNat : Nat) : Int) = n := by omega
  have e2 : ((o.toNat : Nat) : Int) = o := by omega
  simp only [e1, e2] at h
  exact h
theorem has_no1 (n o : Int) (hn : ¬ (0 ≤ n ∧ n ≤ 15)) : hasB n o = false := by
  unfold hasB
  rw [decide_eq_false hn]; rfl
theorem has_no2 (n o : Int) (ho : ¬ (0 ≤ o ∧ o ≤ 15)) : hasB n o = false := by
  unfold hasB
  rw [decide_eq_false (p := o = 1 ∨ o = 2 ∨ o = 4 ∨ o = 8) (by omega)]; simp
theorem hasS (n o : Int) (b : Bool) (hb : hasB n o = b) (w : World) : Calls Tryd.prog 34 #[.int .i64 n, .int .i64 o] w fun e w' => e = .returned (.bool b) ∧ w' = w := by
  go_enter Tryd.func34, Tryd.ntmps34
  by_cases hn : 0 ≤ n ∧ n ≤ 15
  · by_cases ho : o = 1 ∨ o = 2 ∨ o = 4 ∨ o = 8
    · go_wp2_with fail
      refine (senseS n true (decide_eq_true hn) _).mono ?_
      rintro e w1 ⟨rfl, rfl⟩
      rcases ho with rfl | rfl | rfl | rfl
      all_goals
        go_wp2
        go_ret
        refine ⟨?_, rfl⟩
        rw [← hb]
        show Ending.returned (Value.bool _) = _
        congr 2
        unfold hasB
        rw [decide_eq_true hn]
        simp
        rfl
    · obtain rfl : b = false := by rw [← hb]; unfold hasB; rw [decide_eq_false ho]; simp
      clear hb
      go_wp2_with fail
      refine (senseS n true (decide_eq_true hn) _).mono ?_
      rintro e w1 ⟨rfl, rfl⟩
      have h1 : (o != 1) = true := bne_iff_ne.mpr fun h => ho (Or.inl h)
      have h2 : (o != 2) = true := bne_iff_ne.mpr fun h => ho (Or.inr (Or.inl h))
      have h4 : (o != 4) = true := bne_iff_ne.mpr fun h => ho (Or.inr (Or.inr (Or.inl h)))
      have h8 : (o != 8) = true := bne_iff_ne.mpr fun h => ho (Or.inr (Or.inr (Or.inr h)))
      clear ho hn
      go_wp2
      go_ret
      exact ⟨rfl, rfl⟩
  · obtain rfl : b = false := by rw [← hb]; exact has_no1 n o hn
    clear hb
    have D := decide_eq_false hn
    clear hn
    go_wp2_with fail
    refine (senseS n false D _).mono ?_
    rintro e w1 ⟨rfl, rfl⟩
    go_wp2
    go_ret
    exact ⟨rfl, rfl⟩
end Go.Proofs.YtckeffccoghgeaaDoor.H
