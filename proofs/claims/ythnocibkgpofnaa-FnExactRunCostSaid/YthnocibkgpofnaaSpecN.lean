/-
  The specification's own helpers of a step: how many numbers an instruction takes and puts; what is done with two of them.
-/
import Derived.Test.YthnocibkgpofnaaAl
namespace Go.Proofs.Ythnocibkgpofnaa
open Go.RowKit Go.PlainAid
set_option linter.unusedVariables false
def needL : List Int := [0, 0, 1, 2, 2, 2, 2, 2, 2, 0, 1, 1, 1, 1, 0, 0, 1, 0]
def putL : List Int := [0, 1, 1, 0, 1, 1, 1, 1, 1, 0, 0, 2, 0, 0, 0, 0, 0, 1]
set_option maxRecDepth 100000 in
set_option maxHeartbeats 1000000 in
theorem needS (n : Nat) (hn : n < 18) (w : World) : Calls Try.prog 55 #[.int .i64 n] w fun e w' => e = .returned (.tuple #[.int .i64 (needL.getD n 0), .int .i64 (putL.getD n 0)]) ∧ Below w.heap.size w w' := by
  obtain ⟨a, ha⟩ : ∃ a, needL.getD n 0 = a := ⟨_, rfl⟩
  obtain ⟨b, hb⟩ : ∃ b, putL.getD n 0 = b := ⟨_, rfl⟩
  have HA : Hid (needL.getD n 0 = a) := ha
  have HB : Hid (putL.getD n 0 = b) := hb
  have i0 : (0 : Int) ≤ (n : Int) := by omega
  have i1 : (n : Int) < 18 := by omega
  have hcl : ∀ (l : List Int) (W : World) (k : Nat), l.length = 18 → RowAt W k l → W.cell? ⟨k, n, none⟩ = some (.int .i64 (l.getD n 0)) := fun l W k hl h => by
    rw [h.cell n (by omega)]
    simp [show n < l.length by omega]
  have h1 := hcl needL ((w.alloc (.cells (intsV needL).toArray 3)).alloc (.cells (intsV putL).toArray 3)) w.heap.size rfl (al2_1 w _ _)
  have h2 := hcl putL ((w.alloc (.cells (intsV needL).toArray 3)).alloc (.cells (intsV putL).toArray 3)) (w.heap.size + 1) rfl (al2_2 w _ _)
  rw [ha] at h1
  rw [hb] at h2
  have e1 : (intsV needL).toArray = #[.int .i64 0, .int .i64 0, .int .i64 1, .int .i64 2, .int .i64 2, .int .i64 2, .int .i64 2, .int .i64 2, .int .i64 2, .int .i64 0, .int .i64 1, .int .i64 1, .int .i64 1, .int .i64 1, .int .i64 0, .int .i64 0, .int .i64 1, .int .i64 0] := rfl
  have e2 : (intsV putL).toArray = #[.int .i64 0, .int .i64 1, .int .i64 1, .int .i64 0, .int .i64 1, .int .i64 1, .int .i64 1, .int .i64 1, .int .i64 1, .int .i64 0, .int .i64 0, .int .i64 2, .int .i64 0, .int .i64 0, .int .i64 0, .int .i64 0, .int .i64 0, .int .i64 1] := rfl
  rw [e1, e2] at h1 h2
  clear e1 e2 hcl ha hb
  go_enter Try.func55, Try.ntmps55
  go_wp2_with fail
  go_quiet (fail)
  go_wp2
  go_ret2
  exact ⟨by rw [HA.out, HB.out]; rfl, below_drewN (al2_b w _ _) _⟩

/-- what is done with two numbers, and whether it can be -/
def sumV (op a b : Int) : Int := if op = 4 then (a + b) % 65536 else if op = 5 then (a - b) % 65536 else if op = 6 then (a * b) % 65536 else if op = 7 then (if b = 0 then 0 else a.tdiv b) else (if a < b then 1 else 0)
def sumB (op b : Int) : Bool := !(decide (op = 7) && decide (b = 0))
set_option maxRecDepth 100000 in
set_option maxHeartbeats 1000000 in
theorem sumS (op a b : Int) (ho : 4 ≤ op ∧ op ≤ 8) (ha : isW a) (hb : isW b) (w : World) : Calls Try.prog 59 #[.int .i64 op, .int .i64 a, .int .i64 b] w fun e w' => e = .returned (.tuple #[.int .i64 (sumV op a b), .bool (sumB op b)]) ∧ w' = w := by
  unfold isW at ha hb
  obtain ⟨M, hM⟩ : ∃ M, a * b = M := ⟨_, rfl⟩
  have hMr : 0 ≤ M ∧ M ≤ 4294836225 := by rw [← hM]; exact isW_mul (x := b) (y := a) hb ha
  have ho' : op = 4 ∨ op = 5 ∨ op = 6 ∨ op = 7 ∨ op = 8 := by omega
  rcases ho' with rfl | rfl | rfl | rfl | rfl
  · go_enter Try.func59, Try.ntmps59
    go_wp2_with fail
    refine (modS (a + b) _).mono ?_
    rintro e w1 ⟨rfl, rfl⟩
    go_wp2
    go_ret2
    exact ⟨rfl, rfl⟩
  · go_enter Try.func59, Try.ntmps59
    go_wp2_with fail
    refine (modS (a - b) _).mono ?_
    rintro e w1 ⟨rfl, rfl⟩
    go_wp2
    go_ret2
    exact ⟨rfl, rfl⟩
  · have HV : Hid (sumV 6 a b = M % 65536) := by show (a * b) % 65536 = _; rw [hM]
    go_enter Try.func59, Try.ntmps59
    go_wp2_with fail
    refine (modS M _).mono ?_
    rintro e w1 ⟨rfl, rfl⟩
    go_wp2
    go_ret2
    exact ⟨by rw [HV.out]; rfl, rfl⟩
  · clear hM hMr
    by_cases hz : b = 0
    · subst hz
      go_enter Try.func59, Try.ntmps59
      go_wp2
      go_ret2
      exact ⟨rfl, rfl⟩
    · have hd := isW_div (x := b) (y := a) hb ha hz
      obtain ⟨D, hD⟩ : ∃ D, a.tdiv b = D := ⟨_, rfl⟩
      rw [hD] at hd
      have HV : Hid (sumV 7 a b = D ∧ sumB 7 b = true) := ⟨by show (if b = 0 then 0 else a.tdiv b) = D; rw [if_neg hz]; exact hD, by simp [sumB, hz]⟩
      go_enter Try.func59, Try.ntmps59
      go_wp2
      go_ret2
      exact ⟨by rw [HV.out.1, HV.out.2]; rfl, rfl⟩
  · clear hM hMr
    by_cases hab : a < b
    · have HV : Hid (sumV 8 a b = 1) := if_pos hab
      go_enter Try.func59, Try.ntmps59
      go_wp2
      go_ret2
      exact ⟨by rw [HV.out]; rfl, rfl⟩
    · have HV : Hid (sumV 8 a b = 0) := if_neg hab
      go_enter Try.func59, Try.ntmps59
      go_wp2
      go_ret2
      exact ⟨by rw [HV.out]; rfl, rfl⟩
end Go.Proofs.Ythnocibkgpofnaa
