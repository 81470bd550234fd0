/-
  Helpers of the laws on one step: effects that are the same; marks in a code.
-/
import Derived.Test.YtbacmkibilhkgaaOuts
namespace Go.Proofs.Ytbacmkibilhkgaa
open Go.RowKit Go.PlainAid
set_option linter.unusedVariables false
theorem eqE (k po nu tr : Int) (w : World) : Calls Try.prog 24 #[.agg #[.int .i64 k, .int .i64 po, .int .i64 nu, .int .i64 tr], .agg #[.int .i64 k, .int .i64 po, .int .i64 nu, .int .i64 tr]] w fun e w' => e = .returned (.bool true) ∧ Below w.heap.size w w' := by
  have HB : Hid (Below w.heap.size w ((w.alloc (.cells #[.int .i64 k, .int .i64 po, .int .i64 nu, .int .i64 tr] 40)).alloc (.cells #[.int .i64 k, .int .i64 po, .int .i64 nu, .int .i64 tr] 40))) := al2_b w _ _
  go_enter Try.func24, Try.ntmps24
  go_wp2
  go_ret
  exact ⟨rfl, HB.out⟩

namespace I
theorem RowR.grownSelf {w w1 w2 : World} {g : Nat} (h : w.grownBy w1 (some g)) (i : Nat) (v : Value) (h2 : w2 = w1.setCell ⟨g, i, none⟩ v) : w.grownBy w2 (some g) := by subst h2; exact grown_trans' h (grown_put _ _ _ _)
set_option maxRecDepth 100000 in
set_option maxHeartbeats 1000000 in
theorem markInG (l : List (Int × Int)) (g n k : Nat) (K : Int) (hK : K = k) (hl : l.length = n) (hn : n ≤ 1048576) (hk : k ≤ 3000000) (w : World) (hrow : RowR w g l) :
    Calls Try.prog 27 #[.slice (some ⟨g, 0, none⟩) n n, .int .i64 K] w fun e w' => e = .returned (.int .i64 (K + 2 * n)) ∧ w.grownBy w' (some g) := by
  subst hK
  by_cases hp : 0 < n
  · have HL : Hid (l.length = n) := hl
    have HO0 : Hid (RowR w g (mixedP l k 0)) := by
      have e : mixedP l k 0 = l := by simp [mixedP, marksP]
      rw [e]; exact hrow
    clear hrow hl
    go_enter Try.func27, Try.ntmps27
    go_wp2
    go_loopg [1, 5] n (fun gk kv i wr => ∃ j : Nat, j + gk = n ∧ kv = .int .i64 ((k : Int) + 2 * (j : Int)) ∧ i = .int .i64 j ∧ Hid (RowR wr g (mixedP l k j)) ∧ Hid (w.grownBy wr (some g)))
    case atStart => exact ⟨0, by omega, by simp, rfl, HO0, hid (below_grown (Below.refl _ _))⟩
    case round =>
      clear HO0
      obtain ⟨j, hj, rfl, rfl, HO, HW⟩ := hrel
      by_cases hlt : j < n
      · have hjl : j < l.length := by have := HL.out; omega
        have hm : (mixedP l k j).length = n := by rw [mixedP_len (by omega)]; exact HL.out
        have hc := HO.out.cell j (by omega)
        have c1 := hc.1
        have c2 := hc.2
        have d1 := HO.out.free (j * 2)
        have d2 := HO.out.free (j * 2 + 1)
        have HS : Hid (RowR ((wr.setCell ⟨g, j * 2, none⟩ (.int .i64 ((k : Int) + 2 * (j : Int)))).setCell ⟨g, j * 2 + 1, none⟩ (.int .i64 (((k : Int) + 2 * (j : Int)) + 1))) g (mixedP l k (j + 1))) := by
          have h2 := HO.out.set j ((k : Int) + 2 * (j : Int)) (((k : Int) + 2 * (j : Int)) + 1)
          rw [mixedP_set hjl] at h2
          exact h2
        have HW' : Hid (w.grownBy ((wr.setCell ⟨g, j * 2, none⟩ (.int .i64 ((k : Int) + 2 * (j : Int)))).setCell ⟨g, j * 2 + 1, none⟩ (.int .i64 (((k : Int) + 2 * (j : Int)) + 1))) (some g)) := grown_trans' (grown_trans' HW.out (grown_put _ _ _ _)) (grown_put _ _ _ _)
        generalize (mixedP l k j)[j].1 = x at *
        generalize (mixedP l k j)[j].2 = y at *
        clear hc hm HO HW hjl
        go_wp2
        go_roundg (gk - 1)
        case measure => omega
        case rel => exact ⟨j + 1, by omega, by go_num, by go_num, HS, HW'⟩
      · obtain rfl : j = n := by omega
        clear HO
        go_wp2
        go_ret
        exact ⟨by go_num, HW.out⟩
  · obtain rfl : n = 0 := by omega
    clear hrow hl
    go_enter Try.func27, Try.ntmps27
    go_wp2
    go_rounds 1
    go_ret
    exact ⟨by simp, below_grown (Below.refl _ _)⟩
end I
end Go.Proofs.Ytbacmkibilhkgaa
