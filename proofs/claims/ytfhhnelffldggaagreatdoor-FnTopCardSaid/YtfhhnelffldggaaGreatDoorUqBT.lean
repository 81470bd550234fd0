/-
  An order by the link, by keys, turned: what each leaves.
-/
import Derived.Test.YtfhhnelffldggaaGreatDoorUqBO
import Derived.Test.YtfhhnelffldggaaGreatDoorUqBR
import Derived.Test.YtfhhnelffldggaaGreatDoorUqBS
import Derived.Test.YtfhhnelffldggaaGreatDoorUqAQ
import Derived.Deep.DeepCutAuto
set_option maxRecDepth 100000
set_option maxHeartbeats 16000000
namespace Go.Proofs.YtfhhnelffldggaaGreatDoor
open Go.RowKit Go.PlainAid
open Go.Lib (decDigits)
set_option linter.unusedVariables false
set_option linter.unusedSimpArgs false
theorem sameTk (a b : Option Addr) (t : List Tk3) (n ca cb : Nat) (ht : t.length = n) (hn : n ≤ 1000) (w : World) (ha : RdY w a t) (hb : RdY w b t) :
  Calls Tryz.prog 10 #[.slice a n ca, .slice b n cb] w fun e w' => e = .returned (.bool true) ∧ Below w.heap.size w w' := by
 have HT := hq ht
 have HA := hq ha
 have HB := hq hb
 clear ht ha hb
 go_enter Tryz.func10, Tryz.ntmps10
 go_wp2_with fail
 go_loopg [5] n (fun gk i wr => ∃ (j : Nat), j + gk = n ∧ i = .int .i64 j ∧ Hid (Below w.heap.size w wr))
 case atStart => exact ⟨0, by omega, rfl, Below.refl _ _⟩
 case round =>
  obtain ⟨j, hj, rfl, HW⟩ := hrel
  by_cases hlt : j < n
  ·
   have hjl : j < t.length := by rw [HT.out]; exact hlt
   obtain ⟨g1, o1, rfl, hc1⟩ := HA.out.keep HW.out (Nat.le_refl _) (by omega)
   obtain ⟨g2, o2, rfl, hc2⟩ := HB.out.keep HW.out (Nat.le_refl _) (by omega)
   have k1 := hc1 j hjl
   have k2 := hc2 j hjl
   obtain ⟨⟨y0, y1, y2⟩, hy⟩ : ∃ y, t[j] = y := ⟨_, rfl⟩
   rw [hy] at k1 k2
   dsimp only at k1 k2
   have HK : Hid ((wr.cell? ⟨g1, o1 + j * 3, none⟩ = some (.int .i64 y0) ∧ wr.cell? ⟨g1, o1 + j * 3 + 1, none⟩ = some (.int .i64 y1) ∧ wr.cell? ⟨g1, o1 + j * 3 + 2, none⟩ = some (.int .i64 y2)) ∧ (wr.cell? ⟨g2, o2 + j * 3, none⟩ = some (.int .i64 y0) ∧ wr.cell? ⟨g2, o2 + j * 3 + 1, none⟩ = some (.int .i64 y1) ∧ wr.cell? ⟨g2, o2 + j * 3 + 2, none⟩ = some (.int .i64 y2))) := ⟨k1, k2⟩
   have j0 : (0 : Int) ≤ j := by omega
   have j1 : (j : Int) < n := by omega
   have qj : IntKind.i64.wrap ((j : Int) + 1) = (j : Int) + 1 := wrap_in (by omega) (by omega)
   clear hc1 hc2 k1 k2 hy
   go_upto_region 6 with fail
   refine wp_region_held_drew (S := fun wr => (wr.cell? ⟨g1, o1 + j * 3, none⟩ = some (.int .i64 y0) ∧ wr.cell? ⟨g1, o1 + j * 3 + 1, none⟩ = some (.int .i64 y1) ∧ wr.cell? ⟨g1, o1 + j * 3 + 2, none⟩ = some (.int .i64 y2)) ∧ (wr.cell? ⟨g2, o2 + j * 3, none⟩ = some (.int .i64 y0) ∧ wr.cell? ⟨g2, o2 + j * 3 + 1, none⟩ = some (.int .i64 y1) ∧ wr.cell? ⟨g2, o2 + j * 3 + 2, none⟩ = some (.int .i64 y2))) (by kernel_rfl) HK.out (fun hHeld => ?_)
   have HW2 : Hid (Below w.heap.size w wr.drew) := HW.out.drew
   refine tkQ 0 ?_ rfl ?_ ?_
   rotate_left
   · intro w_ hSw; (try dsimp only at hSw); (try clear hSw); (try clear hHeld); go_simp <;> with_reducible rfl
   try simp only [Act.put, sQ]
   refine tkQ 1 ?_ rfl ?_ ?_
   rotate_left
   · intro w_ hSw; (try dsimp only at hSw); (try clear hSw); (try clear hHeld); go_simp <;> with_reducible rfl
   try simp only [Act.put, sQ]
   refine tkQ 2 ?_ rfl ?_ ?_
   rotate_left
   · intro w_ hSw; (try dsimp only at hSw); (try clear hSw); (try clear hHeld); go_simp <;> with_reducible rfl
   try simp only [Act.put, sQ]
   refine tkQ 3 ?_ rfl ?_ ?_
   rotate_left
   · intro w_ hSw; (try dsimp only at hSw); obtain ⟨⟨f0, f1, f2⟩, _⟩ := hSw; (try clear hSw); (try clear hHeld); go_simp <;> with_reducible rfl
   try simp only [Act.put, sQ]
   refine tkQ 4 ?_ rfl ?_ ?_
   rotate_left
   · intro w_ hSw; (try dsimp only at hSw); (try clear hSw); (try clear hHeld); go_simp <;> with_reducible rfl
   try simp only [Act.put, sQ]
   refine tkQ 5 ?_ rfl ?_ ?_
   rotate_left
   · intro w_ hSw; (try dsimp only at hSw); (try clear hSw); (try clear hHeld); go_simp <;> with_reducible rfl
   try simp only [Act.put, sQ]
   refine tkQ 6 ?_ rfl ?_ ?_
   rotate_left
   · intro w_ hSw; (try dsimp only at hSw); (try clear hSw); (try clear hHeld); go_simp <;> with_reducible rfl
   try simp only [Act.put, sQ]
   refine tkQ 7 ?_ rfl ?_ ?_
   rotate_left
   · intro w_ hSw; (try dsimp only at hSw); obtain ⟨_, f0, f1, f2⟩ := hSw; (try clear hSw); (try clear hHeld); go_simp <;> with_reducible rfl
   try simp only [Act.put, sQ]
   refine tkQ 8 ?_ rfl ?_ ?_
   rotate_left
   · intro w_ hSw; (try dsimp only at hSw); (try clear hSw); (try clear hHeld); go_simp <;> with_reducible rfl
   try simp only [Act.put, sQ]
   clear hHeld
   refine wpAnyH_done (by kernel_rfl) ?_ _
   clear HK
   go_wp2
   go_roundg (gk - 1)
   case measure => omega
   case rel => exact ⟨j + 1, by omega, by go_num, HW2⟩
  ·
   have hne : ¬ ((j : Int) < n) := by omega
   go_wp2
   go_ret
   exact ⟨rfl, HW.out⟩
end Go.Proofs.YtfhhnelffldggaaGreatDoor
