/-
  The contract of Unsealed, the specification's.
-/
import Derived.Test.YticlbaopnbddbaaDoorQSeal
import Derived.Test.YticlbaopnbddbaaDoorQSpec
namespace Go.Proofs.YticlbaopnbddbaaDoor.Q
open Go.RowKit Go.PlainAid
set_option linter.unusedVariables false

set_option maxRecDepth 100000 in
set_option maxHeartbeats 1000000 in
theorem sun4_yes (s : ByteArray) (n : Nat) (hn : s.size = n + 4) (hs : n ≤ 20000) (e : okSum s n = true) (w : World) :
    Calls Tryd.prog 29 #[.string s] w fun e w' => e = .returned (.tuple #[.string (s.extract 0 n), .bool true]) ∧ Below w.heap.size w w' := by
  unfold okSum at e
  rw [BEq.comm] at e
  have t1 := to_run s n (by omega)
  have t2 := from_run s n (by omega)
  have hp : (s.extract 0 n).size ≤ 1048577 := by rw [ByteArray.size_extract]; omega
  have hl := sumof_lt (s.extract 0 n)
  have hsub : IntKind.i64.wrap ((s.size : Int) - 4) = (n : Int) := by rw [hn]; exact (IntWalk.i64_in _ (by omega)).trans (by omega)
  generalize s.extract 0 n = p at *
  generalize s.extract n s.size = q at *
  have hd1 : decide ((n : Int) < 0) = false := by simp
  have hd2 : decide (20000 < (n : Int)) = false := by simp; omega
  go_enter Tryd.func29, Tryd.ntmps29
  go_wp2
  go_region_held3 (fun _ => True) (trivial) (first | (go_at_call 43; refine (ssum7 _ hp _).mono ?_; rintro e w1 ⟨rfl, rfl⟩) | (go_at_call 42; refine (sfour6 _ hl _).mono ?_; rintro e w1 ⟨rfl, hb⟩))
  go_wp2
  go_ret2
  exact ⟨rfl, (Below.refl _ _).drew.trans hb⟩

set_option maxRecDepth 100000 in
set_option maxHeartbeats 1000000 in
theorem sun4_no (s : ByteArray) (n : Nat) (hn : s.size = n + 4) (hs : n ≤ 20000) (e : okSum s n = false) (w : World) :
    Calls Tryd.prog 29 #[.string s] w fun e w' => e = .returned (.tuple #[.string ⟨#[]⟩, .bool false]) ∧ Below w.heap.size w w' := by
  unfold okSum at e
  rw [BEq.comm] at e
  have t1 := to_run s n (by omega)
  have t2 := from_run s n (by omega)
  have hp : (s.extract 0 n).size ≤ 1048577 := by rw [ByteArray.size_extract]; omega
  have hl := sumof_lt (s.extract 0 n)
  have hsub : IntKind.i64.wrap ((s.size : Int) - 4) = (n : Int) := by rw [hn]; exact (IntWalk.i64_in _ (by omega)).trans (by omega)
  generalize s.extract 0 n = p at *
  generalize s.extract n s.size = q at *
  have hd1 : decide ((n : Int) < 0) = false := by simp
  have hd2 : decide (20000 < (n : Int)) = false := by simp; omega
  go_enter Tryd.func29, Tryd.ntmps29
  go_wp2
  go_region_held3 (fun _ => True) (trivial) (first | (go_at_call 43; refine (ssum7 _ hp _).mono ?_; rintro e w1 ⟨rfl, rfl⟩) | (go_at_call 42; refine (sfour6 _ hl _).mono ?_; rintro e w1 ⟨rfl, hb⟩))
  go_wp2
  go_ret2
  exact ⟨rfl, (Below.refl _ _).drew.trans hb⟩

theorem sun4_out (s : ByteArray) (hm : s.size ≤ 1048576) (hs : s.size < 4 ∨ 20004 < s.size) (w : World) :
    Calls Tryd.prog 29 #[.string s] w fun e w' => e = .returned (.tuple #[.string ⟨#[]⟩, .bool false]) ∧ Below w.heap.size w w' := by
  rcases hs with hs | hs
  · have hd1 : decide ((s.size : Int) - 4 < 0) = true := by simp; omega
    go_enter Tryd.func29, Tryd.ntmps29
    go_wp2
    go_quiet (fail)
    go_wp2
    go_ret2
    exact ⟨rfl, below_drewN (Below.refl _ _) _⟩
  · have hd1 : decide ((s.size : Int) - 4 < 0) = false := by simp; omega
    have hd2 : decide (20000 < (s.size : Int) - 4) = true := by simp; omega
    go_enter Tryd.func29, Tryd.ntmps29
    go_wp2
    go_quiet (fail)
    go_wp2
    go_ret2
    exact ⟨rfl, below_drewN (Below.refl _ _) _⟩

/-- what Unsealed answers, at every text that is not longer than the law looks at -/
def unsealed (s : ByteArray) : Option ByteArray := if 4 ≤ s.size ∧ s.size ≤ 20004 ∧ okSum s (s.size - 4) = true then some (s.extract 0 (s.size - 4)) else none
def encU : Option ByteArray → Value
  | none => .tuple #[.string ⟨#[]⟩, .bool false]
  | some p => .tuple #[.string p, .bool true]
theorem unsealed_yes {s : ByteArray} {n : Nat} (hn : s.size = n + 4) (hs : n ≤ 20000) (e : okSum s n = true) : unsealed s = some (s.extract 0 n) := by
  obtain rfl : n = s.size - 4 := by omega
  unfold unsealed; rw [if_pos ⟨by omega, by omega, e⟩]
theorem unsealed_no {s : ByteArray} {n : Nat} (hn : s.size = n + 4) (e : okSum s n = false) : unsealed s = none := by
  obtain rfl : n = s.size - 4 := by omega
  unfold unsealed; rw [if_neg (by rw [e]; simp)]
theorem unsealed_out {s : ByteArray} (hs : s.size < 4 ∨ 20004 < s.size) : unsealed s = none := by
  unfold unsealed; rw [if_neg (by omega)]

theorem sun4 (s : ByteArray) (hm : s.size ≤ 1048576) (w : World) :
    Calls Tryd.prog 29 #[.string s] w fun e w' => e = .returned (encU (unsealed s)) ∧ Below w.heap.size w w' := by
  by_cases hs : s.size < 4 ∨ 20004 < s.size
  · rw [unsealed_out hs]; exact sun4_out s hm hs w
  · obtain ⟨n, hn⟩ : ∃ n, s.size = n + 4 := ⟨s.size - 4, by omega⟩
    cases e : okSum s n
    · rw [unsealed_no hn e]; exact sun4_no s n hn (by omega) e w
    · rw [unsealed_yes hn (by omega) e]; exact sun4_yes s n hn (by omega) e w
theorem un5 (s : ByteArray) (hm : s.size ≤ 1048576) (w : World) (ht : Tab w) :
    Calls Tryd.prog 23 #[.string s] w fun e w' => e = .returned (encU (unsealed s)) ∧ Below w.heap.size w w' := by
  by_cases hs : s.size < 4 ∨ 20004 < s.size
  · rw [unsealed_out hs]; exact un5_out s hm hs w
  · obtain ⟨n, hn⟩ : ∃ n, s.size = n + 4 := ⟨s.size - 4, by omega⟩
    cases e : okSum s n
    · rw [unsealed_no hn e]; exact un5_no s n hn (by omega) e w ht
    · rw [unsealed_yes hn (by omega) e]; exact un5_yes s n hn (by omega) e w ht
end Go.Proofs.YticlbaopnbddbaaDoor.Q
