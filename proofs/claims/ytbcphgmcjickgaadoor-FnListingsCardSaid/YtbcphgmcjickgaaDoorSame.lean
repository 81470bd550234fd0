/-
  Two lists of instructions held against one another.
-/
import Derived.Test.YtbcphgmcjickgaaDoorOwnI
namespace Go.Proofs.YtbcphgmcjickgaaDoor
open Go.RowKit Go.PlainAid
set_option linter.unusedVariables false

set_option maxRecDepth 100000 in
set_option maxHeartbeats 1000000 in
theorem sameIn (a b : Option Addr) (rl : List (Int × Int)) (n ca cb : Nat) (hl : rl.length = n) (hn : n ≤ 1048576) (w : World) (ha : RdR w a rl) (hb : RdR w b rl) :
    Calls Tryd.prog 15 #[.slice a n ca, .slice b n cb] w fun e w' => e = .returned (.bool true) ∧ Below w.heap.size w w' := by
  have HL : Hid (rl.length = n) := hl
  clear hl
  by_cases hp : 0 < n
  · obtain ⟨ga, oa, rfl, hca⟩ := ha (by have := HL.out; omega)
    obtain ⟨gb, ob, rfl, hcb⟩ := hb (by have := HL.out; omega)
    have HA : Hid (∀ j (h : j < rl.length), w.cell? ⟨ga, oa + j * 2, none⟩ = some (.int .i64 rl[j].1) ∧ w.cell? ⟨ga, oa + j * 2 + 1, none⟩ = some (.int .i64 rl[j].2)) := hca
    have HB : Hid (∀ j (h : j < rl.length), w.cell? ⟨gb, ob + j * 2, none⟩ = some (.int .i64 rl[j].1) ∧ w.cell? ⟨gb, ob + j * 2 + 1, none⟩ = some (.int .i64 rl[j].2)) := hcb
    clear ha hb hca hcb
    go_enter Tryd.func15, Tryd.ntmps15
    go_wp2
    go_loopg [5] n (fun gk i wr => ∃ j q : Nat, j + gk = n ∧ i = .int .i64 j ∧ wr = w.drewN q)
    case atStart => exact ⟨0, 0, by omega, rfl, rfl⟩
    case round =>
      obtain ⟨j, q, hj, rfl, rfl⟩ := hrel
      by_cases hlt : j < n
      · have hjl : j < rl.length := by have := HL.out; omega
        obtain ⟨c1, c2⟩ := HA.out j hjl
        obtain ⟨d1, d2⟩ := HB.out j hjl
        generalize rl[j].1 = f at *
        generalize rl[j].2 = s at *
        have i0 : (0 : Int) ≤ (j : Int) := by omega
        have i1 : (j : Int) < (n : Int) := by omega
        clear hjl
        go_wp2
        go_quiet (fail)
        go_wp2
        go_roundg (gk - 1)
        case measure => omega
        case rel => exact ⟨j + 1, q + nq, by omega, by go_num, rfl⟩
      · go_wp2
        go_ret
        exact ⟨rfl, below_drewN (Below.refl _ _) _⟩
  · obtain rfl : n = 0 := by omega
    clear ha hb
    go_enter Tryd.func15, Tryd.ntmps15
    go_wp2
    go_rounds 1
    go_ret
    exact ⟨rfl, Below.refl _ _⟩

theorem sameIn' (a b : Option Addr) (rl : List (Int × Int)) (n m ca cb : Nat) (hl : rl.length = n) (hm : rl.length = m) (hn : n ≤ 1048576) (w : World) (ha : RdR w a rl) (hb : RdR w b rl) :
    Calls Tryd.prog 15 #[.slice a n ca, .slice b m cb] w fun e w' => e = .returned (.bool true) ∧ Below w.heap.size w w' := by
  subst hm
  subst hl
  exact sameIn a b rl rl.length ca cb rfl hn w ha hb
end Go.Proofs.YtbcphgmcjickgaaDoor
