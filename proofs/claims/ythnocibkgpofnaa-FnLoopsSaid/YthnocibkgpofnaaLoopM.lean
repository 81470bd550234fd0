/-
  Code that goes back runs as long as it may.
-/
import Derived.Test.YthnocibkgpofnaaRunI7
import Derived.Test.YthnocibkgpofnaaFwd
namespace Go.Proofs.Ythnocibkgpofnaa
open Go.RowKit Go.PlainAid
set_option linter.unusedVariables false

/-- so many times a number that is put and dropped -/
def lp : Nat → List (Int × Int)
  | 0 => []
  | n + 1 => lp n ++ [(17, 0), (12, 0)]
theorem lp_len : ∀ n, (lp n).length = 2 * n
  | 0 => rfl
  | n + 1 => by rw [lp, List.length_append, lp_len n]; simp; omega
theorem lp_at : ∀ (n i : Nat), i < n → (lp n)[2 * i]? = some (17, 0) ∧ (lp n)[2 * i + 1]? = some (12, 0)
  | 0, i, h => by omega
  | n + 1, i, h => by
    rw [lp]
    by_cases hi : i < n
    · rw [List.getElem?_append_left (by rw [lp_len]; omega), List.getElem?_append_left (by rw [lp_len]; omega)]
      exact lp_at n i hi
    · obtain rfl : i = n := by omega
      rw [List.getElem?_append_right (by rw [lp_len]; omega), List.getElem?_append_right (by rw [lp_len]; omega), lp_len]
      rw [show 2 * i - 2 * i = 0 by omega, show 2 * i + 1 - 2 * i = 1 by omega]
      exact ⟨rfl, rfl⟩
/-- .. and a jump back -/
def lpJ (n : Nat) (t : Int) : List (Int × Int) := lp n ++ [(9, t)]
theorem lpJ_len (n : Nat) (t : Int) : (lpJ n t).length = 2 * n + 1 := by unfold lpJ; rw [List.length_append, lp_len]; rfl
theorem lpJ_at {n i : Nat} {t : Int} (h : i < n) : (lpJ n t)[2 * i]? = some (17, 0) ∧ (lpJ n t)[2 * i + 1]? = some (12, 0) := by
  unfold lpJ
  rw [List.getElem?_append_left (by rw [lp_len]; omega), List.getElem?_append_left (by rw [lp_len]; omega)]
  exact lp_at n i h
theorem lpJ_end (n : Nat) (t : Int) : (lpJ n t)[2 * n]? = some (9, t) := by
  unfold lpJ
  rw [List.getElem?_append_right (by rw [lp_len]; omega), lp_len, Nat.sub_self]
  rfl
theorem lp_right : ∀ n, ∀ p ∈ lp n, I.isB p.1 ∧ I.isB p.2
  | 0, p, h => by cases h
  | n + 1, p, h => by
    rw [lp] at h
    rcases List.mem_append.1 h with h | h
    · exact lp_right n p h
    · simp only [List.mem_cons, List.not_mem_nil, or_false] at h
      rcases h with rfl | rfl
      · exact ⟨⟨by decide, by decide⟩, ⟨by decide, by decide⟩⟩
      · exact ⟨⟨by decide, by decide⟩, ⟨by decide, by decide⟩⟩
theorem lpJ_code {n : Nat} {t : Int} (hn : n ≤ 8) (h0 : 0 ≤ t) (h1 : t ≤ 255) : I.CodeR (lpJ n t) := by
  refine ⟨by rw [lpJ_len]; omega, fun i h => ?_⟩
  have hm := List.getElem_mem h
  unfold lpJ at hm
  rcases List.mem_append.1 hm with hm | hm
  · exact lp_right n _ hm
  · rw [List.mem_singleton] at hm
    rw [show (lpJ n t)[i] = (9, t) from hm]
    exact ⟨⟨(show (0 : Int) ≤ 9 by decide), (show (9 : Int) ≤ 255 by decide)⟩, ⟨h0, h1⟩⟩
theorem lpJ_not {n : Nat} {t : Int} (ht : t ≤ 2 * (n : Int)) : ¬ I.FwdR (lpJ n t) := fun h => by
  have hl : 2 * n < (lpJ n t).length := by rw [lpJ_len]; omega
  have e : (lpJ n t)[2 * n] = (9, t) := by
    have := lpJ_end n t
    rw [List.getElem?_eq_getElem hl] at this
    exact Option.some.inj this
  have := h.2 (2 * n) hl (by rw [e]; exact .inl rfl)
  rw [e] at this
  have : ((2 * n : Nat) : Int) < t := this
  omega

theorem opAt_some {rl : List (Int × Int)} {p : Nat} {o : Int × Int} (h : rl[p]? = some o) : opAt' rl (p : Int) = o := by
  unfold opAt'
  rw [Int.toNat_natCast, List.getD_eq_getElem?_getD, h]
  rfl
theorem alo_ok (pc : Int) (st ce : List Int) : aloTr (okR pc st ce) = 0 ∧ aloSt (okR pc st ce) = st := ⟨rfl, rfl⟩
/-- where the machine is, and what it holds -/
def LI (n : Nat) (pc : Int) (st : List Int) : Prop := (∃ i : Nat, i ≤ n ∧ pc = ((2 * i : Nat) : Int) ∧ st = []) ∨ (∃ (i : Nat) (x : Int), i < n ∧ pc = ((2 * i + 1 : Nat) : Int) ∧ st = [x])

theorem run_loops {n r : Nat} {f s most : Int} (hn : n ≤ 8) (hr : r < n) : ∀ (k : Nat) (pc : Int) (st ce : List Int) (cost : Int), LI n pc st → cost + (k : Int) = most → runR true (lpJ n ((2 * r : Nat) : Int)) f s most k pc st ce cost = (most, 0) := by
  intro k
  induction k with
  | zero =>
    intro pc st ce cost h hk
    rw [run_zero]
    have : cost = most := by simpa using hk
    rw [this]
  | succ k ih =>
    intro pc st ce cost h hk
    have hlen := lpJ_len n ((2 * r : Nat) : Int)
    rcases h with ⟨i, hi, rfl, rfl⟩ | ⟨i, x, hi, rfl, rfl⟩
    · by_cases hin : i < n
      · have ho := opAt_some (lpJ_at (t := ((2 * r : Nat) : Int)) hin).1
        have hR : stepR true ((2 * i : Nat) : Int) [] (lpJ n ((2 * r : Nat) : Int)) ce f s 0 = okR (((2 * i : Nat) : Int) + 1) [0] ce := by
          unfold stepR
          rw [ho]
          rfl
        rw [run_go (op := 17) (co := 1) hR (by rw [ho]) rfl (by rw [hlen]; omega) (by omega) (alo_ok _ _ _).1 (by decide)]
        exact ih _ _ _ _ (.inr ⟨i, 0, hin, by show ((2 * i : Nat) : Int) + 1 = _; omega, (alo_ok _ _ _).2⟩) (by omega)
      · obtain rfl : i = n := by omega
        have ho := opAt_some (lpJ_end i ((2 * r : Nat) : Int))
        have hR : stepR true ((2 * i : Nat) : Int) [] (lpJ i ((2 * r : Nat) : Int)) ce f s 0 = okR (min ((2 * r : Nat) : Int) 60) [] ce := by
          unfold stepR
          rw [ho]
          rfl
        rw [run_go (op := 9) (co := 1) hR (by rw [ho]) rfl (by rw [hlen]; omega) (by omega) (alo_ok _ _ _).1 (by decide)]
        exact ih _ _ _ _ (.inl ⟨r, by omega, by show min ((2 * r : Nat) : Int) 60 = _; omega, (alo_ok _ _ _).2⟩) (by omega)
    · have ho := opAt_some (lpJ_at (t := ((2 * r : Nat) : Int)) hi).2
      have hR : stepR true ((2 * i + 1 : Nat) : Int) [x] (lpJ n ((2 * r : Nat) : Int)) ce f s 0 = okR (((2 * i + 1 : Nat) : Int) + 1) [] ce := by
        unfold stepR
        rw [ho]
        rfl
      rw [run_go (op := 12) (co := 1) hR (by rw [ho]) rfl (by rw [hlen]; omega) (by omega) (alo_ok _ _ _).1 (by decide)]
      exact ih _ _ _ _ (.inl ⟨i + 1, by omega, by show ((2 * i + 1 : Nat) : Int) + 1 = _; omega, (alo_ok _ _ _).2⟩) (by omega)
end Go.Proofs.Ythnocibkgpofnaa
