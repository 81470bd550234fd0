/-
  StopsOnAlarm, of the specification.
-/
import Derived.Test.YtfdhcchakoldpaaStopI
namespace Go.Proofs.Ytfdhcchakoldpaa
open Go.ChangeShapes Go.WideShapes Go.ChangeAt Go.RowKit Go.PlainAid
set_option linter.unusedVariables false

theorem all_at {l : List Tk3} {j : Nat} (h : j < l.length) : (l.take (j + 1)).all stopT = ((l.take j).all stopT && stopT l[j]) := by
  rw [List.take_succ_eq_append_getElem h, List.all_append]
  simp
set_option maxRecDepth 100000 in
set_option maxHeartbeats 2000000 in
theorem stopsS (a : Option Addr) (l : List Tk3) (n cap : Nat) (hl : l.length = n) (hn : n ≤ 1048576) (w : World) (hr : RdY w a l) :
    Calls Try.prog 14 #[.slice a n cap] w fun e w' => e = .returned (.bool (l.all stopT)) ∧ Below w.heap.size w w' := by
  have HL : Hid (l.length = n) := hl
  by_cases hp : 0 < n
  · obtain ⟨g, off, rfl, hc⟩ := hr (by omega)
    have HC : Hid (∀ j (h : j < l.length), w.cell? ⟨g, off + j * 3, none⟩ = some (.int .i64 l[j].1) ∧ w.cell? ⟨g, off + j * 3 + 1, none⟩ = some (.int .i64 l[j].2.1) ∧ w.cell? ⟨g, off + j * 3 + 2, none⟩ = some (.int .i64 l[j].2.2)) := hc
    clear hr hc hl
    go_enter Try.func14, Try.ntmps14
    go_wp2
    go_loopw [3] (fun i wr => ∃ (j : Nat), j ≤ n ∧ i = .int .i64 j ∧ wr = w ∧ Hid ((l.take j).all stopT = true)) (fun i _ => n - (intOf i).toNat)
    case atStart => exact ⟨0, Nat.zero_le _, rfl, rfl, (rfl : (l.take 0).all stopT = true)⟩
    case round =>
      obtain ⟨j, hj, rfl, rfl, HE⟩ := hrel
      by_cases hlt : j < n
      · have hjl : j < l.length := by have := HL.out; omega
        obtain ⟨c0, c1, c2⟩ := HC.out j hjl
        obtain ⟨x, y, z, hx⟩ : ∃ x y z, l[j] = ((x, y, z) : Tk3) := ⟨_, _, _, rfl⟩
        rw [hx] at c0 c1 c2
        have hall := all_at hjl
        rw [HE.out, hx] at hall
        have i0 : (0 : Int) ≤ (j : Int) := by omega
        have i1 : (j : Int) < (n : Int) := by omega
        have HA : Hid ((l.take (j + 1)).all stopT = (true && stopT (x, y, z))) := hall
        clear hx hall hjl HE
        by_cases hy : y = 0
        · subst hy
          have HN : Hid ((l.take (j + 1)).all stopT = true) := by show _ = _; rw [HA.out]; simp [stopT]
          clear HA
          go_wp2
          go_roundw
          case rel => exact ⟨j + 1, by omega, by go_num, trivial, HN⟩
          case measure => simp [intOf]; omega
        · have hy' : (y == 0) = false := by simpa using hy
          by_cases hx0 : x = 0
          · subst hx0
            have HN : Hid ((l.take (j + 1)).all stopT = true) := by show _ = _; rw [HA.out]; simp [stopT]
            clear HA
            go_wp2
            go_roundw
            case rel => exact ⟨j + 1, by omega, by go_num, trivial, HN⟩
            case measure => simp [intOf]; omega
          · have hx' : (x == 0) = false := by simpa using hx0
            have HN : Hid (l.all stopT = false) := (all_prefix (List.take_prefix (j + 1) l) (by rw [HA.out]; simp [stopT, hx0, hy]))
            clear HA
            have hy2 : (y != 0) = true := by simpa using hy
            have hx2 : (x != 0) = true := by simpa using hx0
            clear hy hx0 hx' hy'
            go_wp2
            all_goals (try (exfalso; rename_i hor; rcases hor with h | h <;> simp_all))
            go_ret
            rw [HN.out]
            exact ⟨rfl, Below.refl _ _⟩
      · have HN : Hid (l.all stopT = true) := by show _ = _; have h := HE.out; rwa [List.take_of_length_le (by have := HL.out; omega)] at h
        clear HE
        go_wp2
        go_ret
        rw [HN.out]
        exact ⟨rfl, Below.refl _ _⟩
  · obtain rfl : n = 0 := by omega
    obtain rfl : l = [] := List.eq_nil_of_length_eq_zero hl
    clear hr hp hl
    go_enter Try.func14, Try.ntmps14
    go_wp2
    go_rounds 1
    go_ret
    exact ⟨rfl, Below.refl _ _⟩
end Go.Proofs.Ytfdhcchakoldpaa
