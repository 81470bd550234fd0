/-
  A step whose three answers go into variables of their own: what is left in them.
-/
import Derived.Test.YthnocibkgpofnaaStage
import Derived.Test.YthnocibkgpofnaaAl
namespace Go.Proofs.Ythnocibkgpofnaa
open Go.RowKit Go.PlainAid
set_option linter.unusedVariables false

/-- three variables, and what they hold -/
def OutB (W wc : World) (b1 b2 b3 gs cs ga ca m N : Nat) (R : Res) : Prop :=
  wc.heap[b1]? = some (.cells #[.int .i64 R.pc, .slice (some ⟨gs, 0, none⟩) N cs] 55) ∧ wc.heap[b2]? = some (.cells #[.slice (some ⟨ga, 0, none⟩) m ca] 34) ∧ wc.heap[b3]? = some (.cells #[.int .i64 R.k, .int .i64 R.po, .int .i64 R.nu, .int .i64 R.tr] 58) ∧
  OwnN wc W.heap.size gs N cs R.st ∧ OwnN wc W.heap.size ga m ca R.ce ∧ gs ≠ ga ∧ W.heap.size ≤ b1 ∧ W.heap.size ≤ b2 ∧ W.heap.size ≤ b3 ∧ Below W.heap.size W wc
/-- a variable that is there, or not yet -/
def VB (W : World) (x : Bool) (v : Value) (w : World) (o : Obj) : Prop := x = true → ∃ p, v = .pointer (some ⟨p, 0, none⟩) ∧ w.heap[p]? = some o ∧ W.heap.size ≤ p
theorem VB.no (W : World) (v : Value) (w : World) (o : Obj) : VB W false v w o := fun h => by cases h
theorem VB.on {W : World} {x : Bool} {v : Value} {w w' : World} {o : Obj} (h : VB W x v w o) (hb : Below w.heap.size w w') : VB W x v w' o := fun hx => by
  obtain ⟨p, h1, h2, h3⟩ := h hx
  exact ⟨p, h1, row_on h2 hb, h3⟩
theorem VB.new {W w : World} {o : Obj} (hB : Below W.heap.size W w) : VB W true (.pointer (some ⟨w.heap.size, 0, none⟩)) (w.alloc o) o := fun _ => ⟨_, rfl, heap_new w o, hB.size⟩
theorem row_ne {w : World} {p q : Nat} {o o' : Obj} (h : w.heap[p]? = some o) (h' : w.heap[q]? = some o') (hne : o ≠ o') : p ≠ q := fun e => by
  subst e; rw [h] at h'; exact hne (Option.some.inj h')
theorem OwnN.row {w : World} {B g n c : Nat} {l : List Int} (h : OwnN w B g n c l) : ∃ cur, w.heap[g]? = some (.cells cur 3 (0, 0)) := by
  rcases h.2 with ⟨hv, _⟩ | ⟨g', cap, cur, hv, h1, h2, _⟩
  · cases hv
  · cases hv; exact ⟨cur, h2⟩
theorem own_ne {w : World} {B g n c p : Nat} {l : List Int} {cs : Array Value} {t : TypeId} (h : OwnN w B g n c l) (hp : w.heap[p]? = some (.cells cs t)) (ht : t ≠ 3) : g ≠ p := by
  obtain ⟨cur, hc⟩ := h.row
  exact row_ne hc hp (fun e => by cases e; exact ht rfl)
abbrev zCpu : Obj := .cells #[.int .i64 0, .slice none 0 0] 55
abbrev zAr : Obj := .cells #[.slice none 0 0] 34
abbrev zEf : Obj := .cells #[.int .i64 0, .int .i64 0, .int .i64 0, .int .i64 0] 58
theorem set4_row {w : World} {k : Nat} {t : TypeId} {x y z u x' y' z' u' : Value} (h : w.heap[k]? = some (.cells #[x, y, z, u] t)) : ((((w.setCell ⟨k, 0, none⟩ x').setCell ⟨k, 1, none⟩ y').setCell ⟨k, 2, none⟩ z').setCell ⟨k, 3, none⟩ u').heap[k]? = some (.cells #[x', y', z', u'] t) :=
  set1_row (i := 3) (set1_row (i := 2) (set1_row (i := 1) (set1_row (i := 0) h)))
theorem out_stores {W w : World} {b1 b2 b3 gs cs ga ca m N : Nat} {R : Res} (h1 : w.heap[b1]? = some zCpu) (h2 : w.heap[b2]? = some zAr) (h3 : w.heap[b3]? = some zEf) (hs : OwnN w W.heap.size gs N cs R.st) (ha : OwnN w W.heap.size ga m ca R.ce) (hne : gs ≠ ga) (p1 : W.heap.size ≤ b1) (p2 : W.heap.size ≤ b2) (p3 : W.heap.size ≤ b3) (hB : Below W.heap.size W w) :
    OutB W (((((((w.setCell ⟨b1, 0, none⟩ (.int .i64 R.pc)).setCell ⟨b1, 1, none⟩ (.slice (some ⟨gs, 0, none⟩) N cs)).setCell ⟨b2, 0, none⟩ (.slice (some ⟨ga, 0, none⟩) m ca)).setCell ⟨b3, 0, none⟩ (.int .i64 R.k)).setCell ⟨b3, 1, none⟩ (.int .i64 R.po)).setCell ⟨b3, 2, none⟩ (.int .i64 R.nu)).setCell ⟨b3, 3, none⟩ (.int .i64 R.tr)) b1 b2 b3 gs cs ga ca m N R := by
  have n12 : b1 ≠ b2 := row_ne h1 h2 (by intro e; cases e)
  have n13 : b1 ≠ b3 := row_ne h1 h3 (by intro e; cases e)
  have n23 : b2 ≠ b3 := row_ne h2 h3 (by intro e; cases e)
  have s1 := own_ne hs h1 (by decide)
  have s2 := own_ne hs h2 (by decide)
  have s3 := own_ne hs h3 (by decide)
  have a1 := own_ne ha h1 (by decide)
  have a2 := own_ne ha h2 (by decide)
  have a3 := own_ne ha h3 (by decide)
  refine ⟨?_, ?_, ?_, hs.set7 s1 s2 s3, ha.set7 a1 a2 a3, hne, p1, p2, p3, ?_⟩
  · exact set_other (set_other (set_other (set_other (set_other (two_sets h1) n12) n13) n13) n13) n13
  · exact set_other (set_other (set_other (set_other (set1_row (i := 0) (set_other (set_other h2 n12.symm) n12.symm)) n23) n23) n23) n23
  · exact set4_row (set_other (set_other (set_other h3 n13.symm) n13.symm) n23.symm)
  · exact ((((((hB.setCell p1 _).setCell p1 _).setCell p2 _).setCell p3 _).setCell p3 _).setCell p3 _).setCell p3 _
theorem OutB.on {W wc w' : World} {b1 b2 b3 gs cs ga ca m N : Nat} {R : Res} (h : OutB W wc b1 b2 b3 gs cs ga ca m N R) (hb : Below wc.heap.size wc w') : OutB W w' b1 b2 b3 gs cs ga ca m N R :=
  ⟨row_on h.1 hb, row_on h.2.1 hb, row_on h.2.2.1 hb, h.2.2.2.1.on hb, h.2.2.2.2.1.on hb, h.2.2.2.2.2.1, h.2.2.2.2.2.2.1, h.2.2.2.2.2.2.2.1, h.2.2.2.2.2.2.2.2.1, bel_on (Nat.le_refl _) h.2.2.2.2.2.2.2.2.2 hb⟩
theorem OutB.bel {W wc : World} {b1 b2 b3 gs cs ga ca m N : Nat} {R : Res} (h : OutB W wc b1 b2 b3 gs cs ga ca m N R) : Below W.heap.size W wc := h.2.2.2.2.2.2.2.2.2
end Go.Proofs.Ythnocibkgpofnaa
