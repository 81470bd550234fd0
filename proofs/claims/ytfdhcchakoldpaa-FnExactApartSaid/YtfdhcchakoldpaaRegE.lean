/-
  Lists of regions, compared wherever they lie.
-/
import Derived.Test.YtfdhcchakoldpaaRegB
namespace Go.Proofs.Ytfdhcchakoldpaa.R
open Go.RowKit Go.PlainAid
set_option linter.unusedVariables false

set_option maxRecDepth 100000 in
set_option maxHeartbeats 1000000 in
theorem eqIn11 (a b : Option Addr) (rl : List (Int × Int)) (n ca cb : Nat) (hl : rl.length = n) (hn : n ≤ 1048576) (w : World) (ha : RdR w a rl) (hb : RdR w b rl) :
    Calls Try.prog 126 #[.slice a n ca, .slice b n cb] w fun e w' => e = .returned (.bool true) ∧ Below w.heap.size w w' := by
  have HL : Hid (rl.length = n) := hl
  clear hl
  by_cases hp : 0 < n
  · obtain ⟨ga, oa, rfl, hca⟩ := ha (by have := HL.out; omega)
    obtain ⟨gb, ob, rfl, hcb⟩ := hb (by have := HL.out; omega)
    have HA : Hid (∀ j (h : j < rl.length), w.cell? ⟨ga, oa + j * 2, none⟩ = some (.int .i64 rl[j].1) ∧ w.cell? ⟨ga, oa + j * 2 + 1, none⟩ = some (.int .i64 rl[j].2)) := hca
    have HB : Hid (∀ j (h : j < rl.length), w.cell? ⟨gb, ob + j * 2, none⟩ = some (.int .i64 rl[j].1) ∧ w.cell? ⟨gb, ob + j * 2 + 1, none⟩ = some (.int .i64 rl[j].2)) := hcb
    have la : ga < w.heap.size := World.block_lt_of_cell? w ⟨ga, oa + 0 * 2, none⟩ (hca 0 (by have := HL.out; omega)).1
    have lb : gb < w.heap.size := World.block_lt_of_cell? w ⟨gb, ob + 0 * 2, none⟩ (hcb 0 (by have := HL.out; omega)).1
    clear ha hb hca hcb
    go_enter Try.func126, Try.ntmps126
    go_wp2
    go_loopg [5] n (fun gk i wr => ∃ j : Nat, j + gk = n ∧ i = .int .i64 j ∧ Hid (Below w.heap.size w wr))
    case atStart => exact ⟨0, by omega, rfl, Below.refl _ _⟩
    case round =>
      obtain ⟨j, hj, rfl, HW⟩ := hrel
      by_cases hlt : j < n
      · have hjl : j < rl.length := by have := HL.out; omega
        have c0 := HA.out j hjl
        have d0 := HB.out j hjl
        have c1 := (HW.out.cell (p := ⟨ga, oa + j * 2, none⟩) la).trans c0.1
        have c2 := (HW.out.cell (p := ⟨ga, oa + j * 2 + 1, none⟩) la).trans c0.2
        have d1 := (HW.out.cell (p := ⟨gb, ob + j * 2, none⟩) lb).trans d0.1
        have d2 := (HW.out.cell (p := ⟨gb, ob + j * 2 + 1, none⟩) lb).trans d0.2
        clear c0 d0
        generalize rl[j].1 = f at *
        generalize rl[j].2 = s at *
        have i0 : (0 : Int) ≤ (j : Int) := by omega
        have i1 : (j : Int) < (n : Int) := by omega
        have HC : Hid (wr.cell? ⟨ga, oa + j * 2, none⟩ = some (.int .i64 f) ∧ wr.cell? ⟨ga, oa + j * 2 + 1, none⟩ = some (.int .i64 s) ∧ wr.cell? ⟨gb, ob + j * 2, none⟩ = some (.int .i64 f) ∧ wr.cell? ⟨gb, ob + j * 2 + 1, none⟩ = some (.int .i64 s) ∧ Below w.heap.size w wr) := ⟨c1, c2, d1, d2, HW.out⟩
        clear c1 c2 d1 d2 hjl
        go_wp2
        go_region_held3 (fun w' => w'.cell? ⟨ga, oa + j * 2, none⟩ = some (.int .i64 f) ∧ w'.cell? ⟨ga, oa + j * 2 + 1, none⟩ = some (.int .i64 s) ∧ w'.cell? ⟨gb, ob + j * 2, none⟩ = some (.int .i64 f) ∧ w'.cell? ⟨gb, ob + j * 2 + 1, none⟩ = some (.int .i64 s) ∧ Below w.heap.size w w') (first | (refine pair_keep (by assumption) ?_; assumption) | (exact ⟨HC.out.1, HC.out.2.1, HC.out.2.2.1, HC.out.2.2.2.1, HC.out.2.2.2.2.drew⟩)) (first | (go_at_call 180; refine (eqR f s _).mono ?_; rintro e w2 ⟨rfl, hb2⟩))
        rename_i HH
        have HW2 : Hid (Below w.heap.size w w2) := HH.2.2.2.2
        clear HH hb2 HC HW
        go_wp2
        go_roundg (gk - 1)
        case measure => omega
        case rel => exact ⟨j + 1, by omega, by go_num, HW2⟩
      · go_wp2
        go_ret
        exact ⟨rfl, HW.out⟩
  · obtain rfl : n = 0 := by omega
    clear ha hb
    go_enter Try.func126, Try.ntmps126
    go_wp2
    go_rounds 1
    go_ret
    exact ⟨rfl, Below.refl _ _⟩

end Go.Proofs.Ytfdhcchakoldpaa.R
