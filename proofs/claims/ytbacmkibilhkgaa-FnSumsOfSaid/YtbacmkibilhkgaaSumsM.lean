/-
  Code that puts two numbers and reckons with them: its steps.
-/
import Derived.Test.YtbacmkibilhkgaaOuts
namespace Go.Proofs.Ytbacmkibilhkgaa
open Go.RowKit Go.PlainAid
set_option linter.unusedVariables false
def sV (op a b : Int) : Int := if op = 4 then (a + b) % 65536 else if op = 5 then (a - b) % 65536 else if op = 6 then (a * b) % 65536 else if op = 7 then (a.tdiv b) % 65536 else (if a < b then 1 else 0) % 65536
def sSt (op a b : Int) : Nat → List Int
  | 0 => []
  | 1 => [a]
  | 2 => [a, b]
  | _ => if op = 7 ∧ b = 0 then [a, b] else [sV op a b]
def sPc (op b : Int) : Nat → Int
  | 0 => 0
  | 1 => 1
  | 2 => 2
  | _ => if op = 7 ∧ b = 0 then 2 else 3
def sTr (op b : Int) : Nat → Int
  | 0 => 0
  | 1 => 0
  | 2 => 0
  | _ => if op = 7 ∧ b = 0 then 3 else 0
def sRl (op a b : Int) : List (Int × Int) := [(1, a), (1, b), (op, 0)]
def sRes (op a b : Int) (j : Nat) : Res := ⟨sPc op b j, sSt op a b j, z64, 0, 0, 0, sTr op b j⟩
theorem codeR_s {op a b : Int} (ho : 4 ≤ op ∧ op ≤ 8) (ha : 0 ≤ a ∧ a < 256) (hb : 0 ≤ b ∧ b < 256) : I.CodeR (sRl op a b) := by
  refine ⟨by simp [sRl], fun i h => ?_⟩
  have hi : i = 0 ∨ i = 1 ∨ i = 2 := by simp [sRl] at h; omega
  unfold I.isB
  rcases hi with rfl | rfl | rfl <;> simp [sRl] <;> omega
theorem cpuR_s {op a b : Int} (ha : 0 ≤ a ∧ a < 256) (hb : 0 ≤ b ∧ b < 256) (j : Nat) (hj : j < 3) : CpuR (sPc op b j) (sSt op a b j) := by
  have hj' : j = 0 ∨ j = 1 ∨ j = 2 := by omega
  rcases hj' with rfl | rfl | rfl
  · exact cpuR_nil _ (by show (0 : Int) ≤ 0; decide) (by show (0 : Int) ≤ 60; decide)
  · exact cpuR_one _ _ (by show (0 : Int) ≤ 1; decide) (by show (1 : Int) ≤ 60; decide) ⟨by omega, by omega⟩
  · refine ⟨by simp [sSt], ⟨by show (0 : Int) ≤ 2; decide, by show (2 : Int) ≤ 60; decide⟩, fun i h => ?_⟩
    have hi : i = 0 ∨ i = 1 := by simp [sSt] at h; omega
    unfold isW
    rcases hi with rfl | rfl <;> simp [sSt] <;> omega
theorem sR {op a b : Int} (ho : 4 ≤ op ∧ op ≤ 8) (ha : 0 ≤ a ∧ a < 256) (hb : 0 ≤ b ∧ b < 256) (j : Nat) (hj : j < 3) : stepR true (sPc op b j) (sSt op a b j) (sRl op a b) z64 0 1 0 = sRes op a b (j + 1) := by
  have hj' : j = 0 ∨ j = 1 ∨ j = 2 := by omega
  rcases hj' with rfl | rfl | rfl
  · show okR 1 ([] ++ [a % 65536]) z64 = _
    rw [show a % 65536 = a by omega]; rfl
  · show okR 2 ([a] ++ [b % 65536]) z64 = _
    rw [show b % 65536 = b by omega]; rfl
  · have ho' : op = 4 ∨ op = 5 ∨ op = 6 ∨ op = 7 ∨ op = 8 := by omega
    rcases ho' with rfl | rfl | rfl | rfl | rfl
    · rfl
    · rfl
    · rfl
    · by_cases h0 : b = 0
      · subst h0; rfl
      · show (if b = 0 then _ else okR 3 ([] ++ [(a.tdiv b) % 65536]) z64) = _
        rw [if_neg h0]
        unfold sRes sSt sPc sTr
        rw [if_neg (fun h => h0 h.2), if_neg (fun h => h0 h.2), if_neg (fun h => h0 h.2)]
        rfl
    · rfl
theorem sstep (op a b : Int) (ho : 4 ≤ op ∧ op ≤ 8) (ha : 0 ≤ a ∧ a < 256) (hb : 0 ≤ b ∧ b < 256) (j : Nat) (hj : j < 3) (qs : Option Addr) (N cp : Nat) (hN : (sSt op a b j).length = N) (kc : Nat) (qa : Option Addr) (ca : Nat) (w : World) (hr : Rd w qs (sSt op a b j)) (hrc : I.RowR w kc (sRl op a b)) (hra : Rd w qa z64) :
    Calls Try.prog 22 #[.agg #[.int .i64 (sPc op b j), .slice qs N cp], .slice (some ⟨kc, 0, none⟩) 3 3, .agg #[.slice qa 64 ca], .agg #[.int .i64 0, .int .i64 1], .int .i64 0] w (StepPost w 64 (sRes op a b (j + 1)) (sSt op a b (j + 1)).length) := by
  have hc := cpuR_s (op := op) ha hb j hj
  have hp : sPc op b j < 3 := by
    have hj' : j = 0 ∨ j = 1 ∨ j = 2 := by omega
    rcases hj' with rfl | rfl | rfl
    · show (0 : Int) < 3; decide
    · show (1 : Int) < 3; decide
    · show (2 : Int) < 3; decide
  exact stepI qs (sPc op b j) (sSt op a b j) N cp (some ⟨kc, 0, none⟩) (sRl op a b) 3 3 qa z64 64 ca 0 1 0 true _ _ hN (by have := hc.1; omega) rfl (by decide) rfl (by decide) ⟨fun _ => ⟨hc, codeR_s ho ha hb, hp⟩, fun _ => rfl⟩ (sR ho ha hb j hj) rfl w hr hrc.rd hra
end Go.Proofs.Ytbacmkibilhkgaa
