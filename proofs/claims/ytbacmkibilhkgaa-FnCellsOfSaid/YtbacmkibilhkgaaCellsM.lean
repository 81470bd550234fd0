/-
  Code that stores a number and loads it: its steps.
-/
import Derived.Test.YtbacmkibilhkgaaSameI
namespace Go.Proofs.Ytbacmkibilhkgaa
open Go.RowKit Go.PlainAid
set_option linter.unusedVariables false
def cSt (at_ n : Int) : Nat → List Int
  | 0 => []
  | 1 => [at_]
  | 2 => [at_, n]
  | 3 => []
  | 4 => [0]
  | _ => [n]
def cCe (at_ n : Int) (j : Nat) : List Int := if j ≤ 2 then z64 else stL z64 20 8 at_ n
def cRl (at_ n : Int) : List (Int × Int) := [(1, at_), (1, n), (3, 0), (1, 0), (2, at_)]
theorem cCe_len (at_ n : Int) (j : Nat) : (cCe at_ n j).length = 64 := by
  unfold cCe; split
  · rfl
  · rw [stL_len]; rfl
theorem cut64 : cutN 64 20 8 = 8 := by decide
theorem ld_yes {p : Int} (h0 : 0 ≤ p) (h1 : p < 8) : ldB 64 20 8 p = true := by
  unfold ldB; rw [cut64]; exact decide_eq_true ⟨h0, h1⟩
theorem ld_no {p : Int} (h1 : 8 ≤ p) : ldB 64 20 8 p = false := by
  unfold ldB; rw [cut64]; exact decide_eq_false (fun h => by omega)
theorem st_get {at_ n : Int} (h0 : 0 ≤ at_) (h1 : at_ < 8) (hn : 0 ≤ n ∧ n < 256) : (stL z64 20 8 at_ n).getD (20 + at_).toNat 0 = n := by
  have hl : z64.length = 64 := rfl
  unfold stL
  rw [hl, cut64, if_pos ⟨h0, h1⟩]
  have : (20 + at_).toNat < (z64.set (20 + at_).toNat (n % 65536)).length := by rw [List.length_set, hl]; omega
  rw [List.getD_eq_getElem?_getD, List.getElem?_eq_getElem this, List.getElem_set_self]
  simp; omega
theorem ldX_st {at_ n : Int} (h0 : 0 ≤ at_) (h1 : at_ < 8) (hn : 0 ≤ n ∧ n < 256) : ldX (stL z64 20 8 at_ n) 20 8 at_ = n := by
  have hl : (stL z64 20 8 at_ n).length = 64 := by rw [stL_len]; rfl
  unfold ldX
  rw [hl, cut64, if_pos ⟨h0, h1⟩]
  exact st_get h0 h1 hn
theorem codeR_c {at_ n : Int} (ha : 0 ≤ at_ ∧ at_ < 12) (hn : 0 ≤ n ∧ n < 256) : I.CodeR (cRl at_ n) := by
  refine ⟨by simp [cRl], fun i h => ?_⟩
  have hi : i = 0 ∨ i = 1 ∨ i = 2 ∨ i = 3 ∨ i = 4 := by simp [cRl] at h; omega
  unfold I.isB
  rcases hi with rfl | rfl | rfl | rfl | rfl <;> simp [cRl] <;> omega
theorem cpuR_c {at_ n : Int} (ha : 0 ≤ at_ ∧ at_ < 12) (hn : 0 ≤ n ∧ n < 256) (j : Nat) (hj : j ≤ 5) : CpuR j (cSt at_ n j) := by
  have hj' : j = 0 ∨ j = 1 ∨ j = 2 ∨ j = 3 ∨ j = 4 ∨ j = 5 := by omega
  rcases hj' with rfl | rfl | rfl | rfl | rfl | rfl
  · exact cpuR_nil _ (by decide) (by decide)
  · exact cpuR_one _ _ (by decide) (by decide) ⟨by omega, by omega⟩
  · refine ⟨by simp [cSt], ⟨by decide, by decide⟩, fun i h => ?_⟩
    have hi : i = 0 ∨ i = 1 := by simp [cSt] at h; omega
    unfold isW
    rcases hi with rfl | rfl <;> simp [cSt] <;> omega
  · exact cpuR_nil _ (by decide) (by decide)
  · exact cpuR_one _ _ (by decide) (by decide) ⟨by omega, by omega⟩
  · exact cpuR_one _ _ (by decide) (by decide) ⟨by omega, by omega⟩
theorem cR {at_ n : Int} (ha : 0 ≤ at_ ∧ at_ < 12) (hn : 0 ≤ n ∧ n < 256) (j : Nat) (hj : j < 5) (h8 : 2 ≤ j → at_ < 8) : stepR true j (cSt at_ n j) (cRl at_ n) (cCe at_ n j) 20 8 0 = ⟨j + 1, cSt at_ n (j + 1), cCe at_ n (j + 1), 0, 0, 0, 0⟩ := by
  have hj' : j = 0 ∨ j = 1 ∨ j = 2 ∨ j = 3 ∨ j = 4 := by omega
  rcases hj' with rfl | rfl | rfl | rfl | rfl
  · show okR 1 ([] ++ [at_ % 65536]) z64 = _
    rw [show at_ % 65536 = at_ by omega]; rfl
  · show okR 2 ([at_] ++ [n % 65536]) z64 = _
    rw [show n % 65536 = n by omega]; rfl
  · have h := h8 (by decide)
    show (if ldB z64.length 20 8 (at_ + 0) = true then okR 3 [] (stL z64 20 8 (at_ + 0) n) else _) = _
    rw [show at_ + 0 = at_ by omega, show z64.length = 64 from rfl, if_pos (ld_yes ha.1 h)]; rfl
  · rfl
  · have h := h8 (by decide)
    show (if ldB (stL z64 20 8 at_ n).length 20 8 (0 + at_) = true then okR 5 ([] ++ [ldX (stL z64 20 8 at_ n) 20 8 (0 + at_) % 65536]) (stL z64 20 8 at_ n) else _) = _
    rw [show (0 : Int) + at_ = at_ by omega, stL_len, show z64.length = 64 from rfl, if_pos (ld_yes ha.1 h), ldX_st ha.1 h hn, show n % 65536 = n by omega]; rfl
theorem cT {at_ n : Int} (h8 : 8 ≤ at_) : stepR true 2 (cSt at_ n 2) (cRl at_ n) (cCe at_ n 2) 20 8 0 = ⟨2, cSt at_ n 2, cCe at_ n 2, 0, 0, 0, 2⟩ := by
  show (if ldB z64.length 20 8 (at_ + 0) = true then _ else trapR 2 [at_, n] z64 2) = _
  rw [show at_ + 0 = at_ by omega, show z64.length = 64 from rfl, if_neg (by rw [ld_no h8]; decide)]; rfl
theorem cstep (at_ n : Int) (ha : 0 ≤ at_ ∧ at_ < 12) (hn : 0 ≤ n ∧ n < 256) (j : Nat) (hj : j < 5) (h8 : 2 ≤ j → at_ < 8) (J : Int) (hJ : J = j) (qs : Option Addr) (N cp : Nat) (hN : (cSt at_ n j).length = N) (kc : Nat) (qa : Option Addr) (ca : Nat) (w : World) (hr : Rd w qs (cSt at_ n j)) (hrc : I.RowR w kc (cRl at_ n)) (hra : Rd w qa (cCe at_ n j)) :
    Calls Try.prog 22 #[.agg #[.int .i64 J, .slice qs N cp], .slice (some ⟨kc, 0, none⟩) 5 5, .agg #[.slice qa 64 ca], .agg #[.int .i64 20, .int .i64 8], .int .i64 0] w (StepPost w 64 ⟨j + 1, cSt at_ n (j + 1), cCe at_ n (j + 1), 0, 0, 0, 0⟩ (cSt at_ n (j + 1)).length) := by
  subst hJ
  have hc := cpuR_c ha hn j (by omega)
  exact stepI qs j (cSt at_ n j) N cp (some ⟨kc, 0, none⟩) (cRl at_ n) 5 5 qa (cCe at_ n j) 64 ca 20 8 0 true _ _ hN (by have := hc.1; omega) rfl (by decide) (cCe_len _ _ _) (by decide) ⟨fun _ => ⟨hc, codeR_c ha hn, by omega⟩, fun _ => rfl⟩ (cR ha hn j hj h8) rfl w hr hrc.rd hra
theorem cstepT (at_ n : Int) (ha : 0 ≤ at_ ∧ at_ < 12) (hn : 0 ≤ n ∧ n < 256) (h8 : 8 ≤ at_) (qs : Option Addr) (cp : Nat) (kc : Nat) (qa : Option Addr) (ca : Nat) (w : World) (hr : Rd w qs (cSt at_ n 2)) (hrc : I.RowR w kc (cRl at_ n)) (hra : Rd w qa (cCe at_ n 2)) :
    Calls Try.prog 22 #[.agg #[.int .i64 2, .slice qs 2 cp], .slice (some ⟨kc, 0, none⟩) 5 5, .agg #[.slice qa 64 ca], .agg #[.int .i64 20, .int .i64 8], .int .i64 0] w (StepPost w 64 ⟨2, cSt at_ n 2, cCe at_ n 2, 0, 0, 0, 2⟩ 2) := by
  have hc := cpuR_c ha hn 2 (by omega)
  exact stepI qs 2 (cSt at_ n 2) 2 cp (some ⟨kc, 0, none⟩) (cRl at_ n) 5 5 qa (cCe at_ n 2) 64 ca 20 8 0 true _ _ rfl (by decide) rfl (by decide) (cCe_len _ _ _) (by decide) ⟨fun _ => ⟨hc, codeR_c ha hn, by decide⟩, fun _ => rfl⟩ (cT h8) rfl w hr hrc.rd hra
end Go.Proofs.Ytbacmkibilhkgaa
