/-
  No run of code without loops costs more than it may at most.
-/
import Derived.Test.YthnocibkgpofnaaRunM
import Derived.Test.YthnocibkgpofnaaRunI7
import Derived.Test.YthnocibkgpofnaaWorst
namespace Go.Proofs.Ythnocibkgpofnaa
open Go.RowKit Go.PlainAid
set_option linter.unusedVariables false

theorem wst_far {rl : List (Int × Int)} (h60 : rl.length ≤ 60) {arg : Int} (h0 : 0 ≤ arg) : I.wst rl (min arg 60).toNat = I.wst rl arg.toNat := by
  by_cases h : arg ≤ 60
  · rw [show (min arg 60).toNat = arg.toNat by omega]
  · rw [I.wst_end (by omega), I.wst_end (by omega)]
theorem behN_next (op X Y : Int) (h0 : op ≠ 0) (h9 : op ≠ 9) : X ≤ I.behN op X Y := by
  unfold I.behN
  rw [if_neg h0, if_neg h9]
  split <;> omega
theorem behN_there (op X Y : Int) (h : op = 9 ∨ op = 10) : Y ≤ I.behN op X Y := by
  unfold I.behN
  rcases h with rfl | rfl
  · rw [if_neg (by decide), if_pos rfl]; exact Int.le_refl _
  · rw [if_neg (by decide), if_neg (by decide), if_pos rfl]; omega
theorem wst_pos {rl : List (Int × Int)} {p : Nat} (h : p < rl.length) : costN rl[p].1 ≤ I.wst rl p := by
  rw [I.wst_eq, dif_pos h]
  have h1 := I.wst_bd rl (rl.length) (p + 1) (by omega)
  have h2 : 0 ≤ (if h2 : p < rl[p].2.toNat then I.wst rl rl[p].2.toNat else 0) ∧ (if h2 : p < rl[p].2.toNat then I.wst rl rl[p].2.toNat else 0) ≤ 4 * (rl.length : Int) := by
    by_cases h2 : p < rl[p].2.toNat
    · rw [dif_pos h2]; exact I.wst_bd rl rl.length _ (by omega)
    · rw [dif_neg h2]; omega
  have h3 := I.behN_le rl[p].1 _ _ _ h1 h2
  omega
theorem wst_go {rl : List (Int × Int)} (hf : I.FwdR rl) {p : Nat} (hp : p < rl.length) {q : Int} (h0 : rl[p].1 ≠ 0) (hq : (q = (p : Int) + 1 ∧ rl[p].1 ≠ 9) ∨ ((rl[p].1 = 9 ∨ rl[p].1 = 10) ∧ q = min rl[p].2 60)) : I.wst rl q.toNat + costN rl[p].1 ≤ I.wst rl p := by
  have hb := (hf.1.2 p hp).2
  rw [I.wst_at hf hp (I.wst rl rl[p].2.toNat) (fun _ => rfl)]
  rcases hq with ⟨rfl, h9⟩ | ⟨h, rfl⟩
  · have := behN_next rl[p].1 (I.wst rl (p + 1)) (I.wst rl rl[p].2.toNat) h0 h9
    rw [show ((p : Int) + 1).toNat = p + 1 by omega]
    omega
  · have := behN_there rl[p].1 (I.wst rl (p + 1)) (I.wst rl rl[p].2.toNat) h
    rw [wst_far hf.1.1 hb.1]
    omega

theorem run_same {rl : List (Int × Int)} (hf : I.FwdR rl) {f s most most' : Int} : ∀ (k k' : Nat) (pc : Int) (st ce : List Int) (cost : Int), CpuR pc st → I.wst rl pc.toNat ≤ (k : Int) → I.wst rl pc.toNat ≤ (k' : Int) → cost + I.wst rl pc.toNat ≤ most → cost + I.wst rl pc.toNat ≤ most' →
    runR true rl f s most k pc st ce cost = runR true rl f s most' k' pc st ce cost ∧ (runR true rl f s most k pc st ce cost).1 ≤ cost + I.wst rl pc.toNat := by
  intro k
  induction k with
  | zero =>
    intro k' pc st ce cost hc hk hk' hm hm'
    by_cases h1 : (rl.length : Int) ≤ pc
    · have hw := I.wst_bd rl (rl.length) pc.toNat (by omega)
      rw [run_end (most := most) h1, run_end (most := most') h1]
      exact ⟨rfl, by show cost ≤ _; omega⟩
    · exfalso
      have hp : pc.toNat < rl.length := by have := hc.2.1.1; omega
      have := wst_pos hp
      have := costN_bd rl[pc.toNat].1
      omega
  | succ k ih =>
    intro k' pc st ce cost hc hk hk' hm hm'
    by_cases h1 : (rl.length : Int) ≤ pc
    · have hw := I.wst_bd rl (rl.length) pc.toNat (by omega)
      rw [run_end (most := most) h1, run_end (most := most') h1]
      exact ⟨rfl, by show cost ≤ _; omega⟩
    · obtain ⟨p, rfl⟩ := Int.eq_ofNat_of_zero_le hc.2.1.1
      have hp : p < rl.length := by omega
      rw [Int.toNat_natCast] at hk hk' hm hm' ⊢
      have hw := wst_pos hp
      have hcb := costN_bd rl[p].1
      have hop : (opAt' rl (p : Int)).1 = rl[p].1 := by rw [opAt_in hp]
      have harg : (opAt' rl (p : Int)).2 = rl[p].2 := by rw [opAt_in hp]
      obtain ⟨j, rfl⟩ : ∃ j, k' = j + 1 := ⟨k' - 1, by omega⟩
      obtain ⟨R, hR⟩ : ∃ R, stepR true (p : Int) st rl ce f s 0 = R := ⟨_, rfl⟩
      by_cases h3 : aloTr R ≠ 0 ∨ rl[p].1 = 0
      · rw [run_stop hR hop rfl h1 (by omega) h3, run_stop hR hop rfl h1 (by omega) h3]
        exact ⟨rfl, by show cost + _ ≤ cost + _; omega⟩
      · have h4 : aloTr R = 0 := by
          by_cases h : aloTr R = 0
          · exact h
          · exact absurd (.inl h) h3
        have h5 : rl[p].1 ≠ 0 := fun h => h3 (.inr h)
        have hB : true = true ↔ (CpuR (p : Int) st ∧ I.CodeR rl ∧ (p : Int) < (rl.length : Int)) := ⟨fun _ => ⟨hc, hf.1, by omega⟩, fun _ => rfl⟩
        have hcR := putA_right (ansN R.k) R.st (stepR_right rfl hB hR (alo_zero h4))
        have hgo := (stepR_go hR (alo_zero h4)).1
        rw [hop, harg] at hgo
        have hn := wst_go hf hp h5 hgo
        rw [run_go hR hop rfl h1 (by omega) h4 h5, run_go hR hop rfl h1 (by omega) h4 h5]
        have := ih j R.pc (aloSt R) R.ce (cost + costN rl[p].1) hcR (by omega) (by omega) (by omega) (by omega)
        exact ⟨this.1, by have := this.2; omega⟩
end Go.Proofs.Ythnocibkgpofnaa
