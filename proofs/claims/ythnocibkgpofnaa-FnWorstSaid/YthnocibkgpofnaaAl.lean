/-
  Blocks that are laid one behind the other.
-/
import Derived.Test.YthnocibkgpofnaaStepI
import Derived.Test.YthnocibkgpofnaaPlacesD
import Derived.Test.YthnocibkgpofnaaRowD
namespace Go.Proofs.Ythnocibkgpofnaa
open Go.RowKit Go.PlainAid
set_option linter.unusedVariables false
theorem al1_b (w : World) (o : Obj) : Below w.heap.size w (w.alloc o) := (Below.refl _ _).alloc (Nat.le_refl _) _
theorem al2_b (w : World) (o p : Obj) : Below w.heap.size w ((w.alloc o).alloc p) := (al1_b w o).alloc (by simp) _
theorem al3_b (w : World) (o p q : Obj) : Below w.heap.size w (((w.alloc o).alloc p).alloc q) := (al2_b w o p).alloc (by simp; omega) _
theorem al1_1 (w : World) (o : Obj) : (w.alloc o).heap[w.heap.size]? = some o := heap_new w o
theorem al1_s (w : World) (o : Obj) : (w.alloc o).heap.size = w.heap.size + 1 := by simp
theorem al2_1 (w : World) (o p : Obj) : ((w.alloc o).alloc p).heap[w.heap.size]? = some o := row_al (heap_new w o)
theorem al2_2 (w : World) (o p : Obj) : ((w.alloc o).alloc p).heap[w.heap.size + 1]? = some p := heap_newk _ _ _ (by simp)
theorem al2_s (w : World) (o p : Obj) : ((w.alloc o).alloc p).heap.size = w.heap.size + 2 := by simp
theorem al3_1 (w : World) (o p q : Obj) : (((w.alloc o).alloc p).alloc q).heap[w.heap.size]? = some o := row_al (al2_1 w o p)
theorem al3_2 (w : World) (o p q : Obj) : (((w.alloc o).alloc p).alloc q).heap[w.heap.size + 1]? = some p := row_al (al2_2 w o p)
theorem al3_3 (w : World) (o p q : Obj) : (((w.alloc o).alloc p).alloc q).heap[w.heap.size + 1 + 1]? = some q := heap_newk _ _ _ (by simp)
theorem al3_s (w : World) (o p q : Obj) : (((w.alloc o).alloc p).alloc q).heap.size = w.heap.size + 3 := by simp
theorem al4_b (w : World) (o1 o2 o3 o4 : Obj) : Below w.heap.size w ((((w.alloc o1).alloc o2).alloc o3).alloc o4) := (al3_b w o1 o2 o3).alloc (al3_b w o1 o2 o3).size _
theorem al4_1 (w : World) (o1 o2 o3 o4 : Obj) : ((((w.alloc o1).alloc o2).alloc o3).alloc o4).heap[w.heap.size]? = some o1 := row_al (al3_1 w o1 o2 o3)
theorem al4_2 (w : World) (o1 o2 o3 o4 : Obj) : ((((w.alloc o1).alloc o2).alloc o3).alloc o4).heap[w.heap.size + 1]? = some o2 := row_al (al3_2 w o1 o2 o3)
theorem al4_3 (w : World) (o1 o2 o3 o4 : Obj) : ((((w.alloc o1).alloc o2).alloc o3).alloc o4).heap[w.heap.size + 1 + 1]? = some o3 := row_al (al3_3 w o1 o2 o3)
theorem al4_4 (w : World) (o1 o2 o3 o4 : Obj) : ((((w.alloc o1).alloc o2).alloc o3).alloc o4).heap[w.heap.size + 1 + 1 + 1]? = some o4 := heap_newk _ _ _ (by simp)
theorem al4_s (w : World) (o1 o2 o3 o4 : Obj) : ((((w.alloc o1).alloc o2).alloc o3).alloc o4).heap.size = w.heap.size + 4 := by simp
theorem al5_b (w : World) (o1 o2 o3 o4 o5 : Obj) : Below w.heap.size w (((((w.alloc o1).alloc o2).alloc o3).alloc o4).alloc o5) := (al4_b w o1 o2 o3 o4).alloc (al4_b w o1 o2 o3 o4).size _
theorem al5_1 (w : World) (o1 o2 o3 o4 o5 : Obj) : (((((w.alloc o1).alloc o2).alloc o3).alloc o4).alloc o5).heap[w.heap.size]? = some o1 := row_al (al4_1 w o1 o2 o3 o4)
theorem al5_2 (w : World) (o1 o2 o3 o4 o5 : Obj) : (((((w.alloc o1).alloc o2).alloc o3).alloc o4).alloc o5).heap[w.heap.size + 1]? = some o2 := row_al (al4_2 w o1 o2 o3 o4)
theorem al5_3 (w : World) (o1 o2 o3 o4 o5 : Obj) : (((((w.alloc o1).alloc o2).alloc o3).alloc o4).alloc o5).heap[w.heap.size + 1 + 1]? = some o3 := row_al (al4_3 w o1 o2 o3 o4)
theorem al5_4 (w : World) (o1 o2 o3 o4 o5 : Obj) : (((((w.alloc o1).alloc o2).alloc o3).alloc o4).alloc o5).heap[w.heap.size + 1 + 1 + 1]? = some o4 := row_al (al4_4 w o1 o2 o3 o4)
theorem al5_5 (w : World) (o1 o2 o3 o4 o5 : Obj) : (((((w.alloc o1).alloc o2).alloc o3).alloc o4).alloc o5).heap[w.heap.size + 1 + 1 + 1 + 1]? = some o5 := heap_newk _ _ _ (by simp)
theorem al5_s (w : World) (o1 o2 o3 o4 o5 : Obj) : (((((w.alloc o1).alloc o2).alloc o3).alloc o4).alloc o5).heap.size = w.heap.size + 5 := by simp
theorem al6_b (w : World) (o1 o2 o3 o4 o5 o6 : Obj) : Below w.heap.size w ((((((w.alloc o1).alloc o2).alloc o3).alloc o4).alloc o5).alloc o6) := (al5_b w o1 o2 o3 o4 o5).alloc (al5_b w o1 o2 o3 o4 o5).size _
theorem al6_1 (w : World) (o1 o2 o3 o4 o5 o6 : Obj) : ((((((w.alloc o1).alloc o2).alloc o3).alloc o4).alloc o5).alloc o6).heap[w.heap.size]? = some o1 := row_al (al5_1 w o1 o2 o3 o4 o5)
theorem al6_2 (w : World) (o1 o2 o3 o4 o5 o6 : Obj) : ((((((w.alloc o1).alloc o2).alloc o3).alloc o4).alloc o5).alloc o6).heap[w.heap.size + 1]? = some o2 := row_al (al5_2 w o1 o2 o3 o4 o5)
theorem al6_3 (w : World) (o1 o2 o3 o4 o5 o6 : Obj) : ((((((w.alloc o1).alloc o2).alloc o3).alloc o4).alloc o5).alloc o6).heap[w.heap.size + 1 + 1]? = some o3 := row_al (al5_3 w o1 o2 o3 o4 o5)
theorem al6_4 (w : World) (o1 o2 o3 o4 o5 o6 : Obj) : ((((((w.alloc o1).alloc o2).alloc o3).alloc o4).alloc o5).alloc o6).heap[w.heap.size + 1 + 1 + 1]? = some o4 := row_al (al5_4 w o1 o2 o3 o4 o5)
theorem al6_5 (w : World) (o1 o2 o3 o4 o5 o6 : Obj) : ((((((w.alloc o1).alloc o2).alloc o3).alloc o4).alloc o5).alloc o6).heap[w.heap.size + 1 + 1 + 1 + 1]? = some o5 := row_al (al5_5 w o1 o2 o3 o4 o5)
theorem al6_6 (w : World) (o1 o2 o3 o4 o5 o6 : Obj) : ((((((w.alloc o1).alloc o2).alloc o3).alloc o4).alloc o5).alloc o6).heap[w.heap.size + 1 + 1 + 1 + 1 + 1]? = some o6 := heap_newk _ _ _ (by simp)
theorem al6_s (w : World) (o1 o2 o3 o4 o5 o6 : Obj) : ((((((w.alloc o1).alloc o2).alloc o3).alloc o4).alloc o5).alloc o6).heap.size = w.heap.size + 6 := by simp
theorem cpuR_nil (pc : Int) (h0 : 0 ≤ pc) (h1 : pc ≤ 60) : CpuR pc [] := ⟨by decide, ⟨h0, h1⟩, fun i h => by simp at h⟩
theorem cpuR_one (pc x : Int) (h0 : 0 ≤ pc) (h1 : pc ≤ 60) (hx : isW x) : CpuR pc [x] := ⟨by simp, ⟨h0, h1⟩, fun i h => by
  have : i = 0 := by simp at h; omega
  subst this; exact hx⟩
theorem codeR_one (op arg : Int) (ho : I.isB op) (ha : I.isB arg) : I.CodeR [(op, arg)] := ⟨by simp, fun i h => by
  have : i = 0 := by simp at h; omega
  subst this; exact ⟨ho, ha⟩⟩
theorem Rd.nil (w : World) (a : Option Addr) : Rd w a [] := fun h => by simp at h
end Go.Proofs.Ythnocibkgpofnaa
