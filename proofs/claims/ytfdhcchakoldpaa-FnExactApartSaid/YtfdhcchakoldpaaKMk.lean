/-
  Marks: numbers stay numbers, texts stay texts, lists stay; blocks outside a range stay as they are.
-/
import Derived.Test.YtfdhcchakoldpaaKLin
import Derived.Test.YtfdhcchakoldpaaLst11
import Derived.Test.YtfdhcchakoldpaaStr11
import Derived.Test.YtfdhcchakoldpaaRu10
import Derived.Test.YtfdhcchakoldpaaPrt
import Derived.Test.YtfdhcchakoldpaaRegE
import Derived.Deep.CutBlock
namespace Go.Proofs.Ytfdhcchakoldpaa
open Go.ChangeShapes Go.WideShapes Go.ChangeAt Go.RowKit Go.PlainAid
set_option linter.unusedVariables false

/-- the block has the same length and type, numbers where numbers were, texts where texts were, the same lists -/
def Sh (w w' : World) : Prop := ∀ (g : Nat) (cs : Array Value) (T : TypeId), w.heap[g]? = some (.cells cs T (0, 0)) → ∃ cs' : Array Value, w'.heap[g]? = some (.cells cs' T (0, 0)) ∧ cs'.size = cs.size ∧ ∀ i : Nat, (∀ z : Int, cs[i]? = some (.int .i64 z) → ∃ z', cs'[i]? = some (.int .i64 z')) ∧ (∀ q n c, cs[i]? = some (.slice q n c) → cs'[i]? = some (.slice q n c)) ∧ (∀ s, cs[i]? = some (.string s) → ∃ s', cs'[i]? = some (.string s'))
theorem Sh.refl (w : World) : Sh w w := fun g cs T h => ⟨cs, h, rfl, fun i => ⟨fun z hz => ⟨z, hz⟩, fun q n c hq => hq, fun s hs => ⟨s, hs⟩⟩⟩
theorem Sh.trans {a b c : World} (h : Sh a b) (k : Sh b c) : Sh a c := fun g cs T hg => by
  obtain ⟨c1, h1, s1, f1⟩ := h g cs T hg
  obtain ⟨c2, h2, s2, f2⟩ := k g c1 T h1
  refine ⟨c2, h2, s2.trans s1, fun i => ⟨fun z hz => ?_, fun q n c hq => ?_, fun s hs => ?_⟩⟩
  · obtain ⟨z1, hz1⟩ := (f1 i).1 z hz
    exact (f2 i).1 z1 hz1
  · exact (f2 i).2.1 q n c ((f1 i).2.1 q n c hq)
  · obtain ⟨z1, hz1⟩ := (f1 i).2.2 s hs
    exact (f2 i).2.2 z1 hz1
structure Mkd (lo hi : Nat) (w w' : World) : Prop where
  os : w'.os = w.os
  tape : w'.tape = w.tape
  output : w'.output = w.output
  size : w.heap.size ≤ w'.heap.size
  sh : Sh w w'
  far : ∀ g, g < w.heap.size → (g < lo ∨ hi ≤ g) → w'.heap[g]? = w.heap[g]?
theorem Mkd.refl (lo hi : Nat) (w : World) : Mkd lo hi w w := ⟨rfl, rfl, rfl, Nat.le_refl _, Sh.refl w, fun _ _ _ => rfl⟩
theorem Mkd.trans {lo hi : Nat} {a b c : World} (h : Mkd lo hi a b) (k : Mkd lo hi b c) : Mkd lo hi a c :=
  ⟨k.os.trans h.os, k.tape.trans h.tape, k.output.trans h.output, Nat.le_trans h.size k.size, h.sh.trans k.sh, fun g hg ho => (k.far g (Nat.lt_of_lt_of_le hg h.size) ho).trans (h.far g hg ho)⟩
theorem Mkd.of_below {lo hi : Nat} {w w' : World} (h : Below w.heap.size w w') : Mkd lo hi w w' :=
  ⟨h.os, h.tape, h.output, h.size, fun g cs T hg => ⟨cs, (h.block g (row_lt hg)).trans hg, rfl, fun i => ⟨fun z hz => ⟨z, hz⟩, fun q n c hq => hq, fun s hs => ⟨s, hs⟩⟩⟩, fun g hg _ => h.block g hg⟩
/-- what it means for what was there before: the blocks below lo and from hi on -/
theorem Mkd.below {lo hi : Nat} {w w' : World} (h : Mkd lo hi w w') : Below lo w w' ∨ w.heap.size < lo := by
  by_cases hl : lo ≤ w.heap.size
  · exact .inl ⟨h.os, h.tape, h.output, h.size, fun g hg => h.far g (by omega) (.inl hg)⟩
  · exact .inr (by omega)
theorem Mkd.row {lo hi g : Nat} {w w' : World} {o : Obj} (h : Mkd lo hi w w') (hr : w.heap[g]? = some o) (hg : g < lo ∨ hi ≤ g) : w'.heap[g]? = some o := (h.far g (row_lt hr) hg).trans hr
/-- a cell that holds a number, a text, a list -/
def IntC (w : World) (g i : Nat) : Prop := ∃ (cs : Array Value) (T : TypeId) (z : Int), w.heap[g]? = some (.cells cs T (0, 0)) ∧ cs[i]? = some (.int .i64 z)
def StrC (w : World) (g i : Nat) : Prop := ∃ (cs : Array Value) (T : TypeId) (s : ByteArray), w.heap[g]? = some (.cells cs T (0, 0)) ∧ cs[i]? = some (.string s)
def SliC (w : World) (g i : Nat) (q : Option Addr) (n c : Nat) : Prop := ∃ (cs : Array Value) (T : TypeId), w.heap[g]? = some (.cells cs T (0, 0)) ∧ cs[i]? = some (.slice q n c)
theorem IntC.mk' {lo hi g i : Nat} {w w' : World} (h : IntC w g i) (m : Mkd lo hi w w') : IntC w' g i := by
  obtain ⟨cs, T, z, h1, h2⟩ := h
  obtain ⟨c1, h3, _, f⟩ := m.sh g cs T h1
  obtain ⟨z1, hz⟩ := (f i).1 z h2
  exact ⟨c1, T, z1, h3, hz⟩
theorem StrC.mk' {lo hi g i : Nat} {w w' : World} (h : StrC w g i) (m : Mkd lo hi w w') : StrC w' g i := by
  obtain ⟨cs, T, z, h1, h2⟩ := h
  obtain ⟨c1, h3, _, f⟩ := m.sh g cs T h1
  obtain ⟨z1, hz⟩ := (f i).2.2 z h2
  exact ⟨c1, T, z1, h3, hz⟩
theorem SliC.mk' {lo hi g i n c : Nat} {q : Option Addr} {w w' : World} (h : SliC w g i q n c) (m : Mkd lo hi w w') : SliC w' g i q n c := by
  obtain ⟨cs, T, h1, h2⟩ := h
  obtain ⟨c1, h3, _, f⟩ := m.sh g cs T h1
  exact ⟨c1, T, h3, (f i).2.1 q n c h2⟩
theorem IntC.cell {w : World} {g i : Nat} (h : IntC w g i) : (∃ v, w.cell? ⟨g, i, none⟩ = some v) ∧ w.frozen? ⟨g, i, none⟩ = false := by
  obtain ⟨cs, T, z, h1, h2⟩ := h
  exact ⟨⟨_, (cell_of_row w g i _ _ (0, 0) h1).trans h2⟩, frozen_of_row w g i _ _ h1⟩
theorem StrC.cell {w : World} {g i : Nat} (h : StrC w g i) : (∃ v, w.cell? ⟨g, i, none⟩ = some v) ∧ w.frozen? ⟨g, i, none⟩ = false := by
  obtain ⟨cs, T, z, h1, h2⟩ := h
  exact ⟨⟨_, (cell_of_row w g i _ _ (0, 0) h1).trans h2⟩, frozen_of_row w g i _ _ h1⟩
theorem SliC.cell {w : World} {g i n c : Nat} {q : Option Addr} (h : SliC w g i q n c) : w.cell? ⟨g, i, none⟩ = some (.slice q n c) := by
  obtain ⟨cs, T, h1, h2⟩ := h
  exact (cell_of_row w g i _ _ (0, 0) h1).trans h2
theorem Mkd.set {lo hi g i : Nat} {w : World} (h : IntC w g i) (hlo : lo ≤ g) (hhi : g < hi) (z : Int) : Mkd lo hi w (w.setCell ⟨g, i, none⟩ (.int .i64 z)) := by
  obtain ⟨cs, T, z0, h1, h2⟩ := h
  refine ⟨rfl, rfl, rfl, by simp, fun b cb Tb hb => ?_, fun b hb ho => Below.heap_setCell _ _ _ _ (show b ≠ g by omega)⟩
  by_cases e : b = g
  · subst e
    rw [h1] at hb
    obtain ⟨rfl, rfl⟩ : cs = cb ∧ T = Tb := by simpa using hb
    refine ⟨_, heap_setCell_same w b i _ _ (.int .i64 z) h1, by simp, fun j => ?_⟩
    by_cases ej : j = i
    · subst ej
      have hj : j < cs.size := by have := Array.getElem?_eq_some_iff.1 h2; exact this.1
      refine ⟨fun z' _ => ⟨z, by simp [hj]⟩, fun q n c hq => ?_, fun s hs => ?_⟩
      · rw [h2] at hq; cases hq
      · rw [h2] at hs; cases hs
    · have e2 : (cs.setIfInBounds i (.int .i64 z))[j]? = cs[j]? := by simp [Ne.symm ej]
      rw [e2]
      exact ⟨fun z hz => ⟨z, hz⟩, fun q n c hq => hq, fun s hs => ⟨s, hs⟩⟩
  · exact ⟨cb, (Below.heap_setCell _ _ _ _ e).trans hb, rfl, fun j => ⟨fun z hz => ⟨z, hz⟩, fun q n c hq => hq, fun s hs => ⟨s, hs⟩⟩⟩
theorem Mkd.setS {lo hi g i : Nat} {w : World} (h : StrC w g i) (hlo : lo ≤ g) (hhi : g < hi) (z : ByteArray) : Mkd lo hi w (w.setCell ⟨g, i, none⟩ (.string z)) := by
  obtain ⟨cs, T, z0, h1, h2⟩ := h
  refine ⟨rfl, rfl, rfl, by simp, fun b cb Tb hb => ?_, fun b hb ho => Below.heap_setCell _ _ _ _ (show b ≠ g by omega)⟩
  by_cases e : b = g
  · subst e
    rw [h1] at hb
    obtain ⟨rfl, rfl⟩ : cs = cb ∧ T = Tb := by simpa using hb
    refine ⟨_, heap_setCell_same w b i _ _ (.string z) h1, by simp, fun j => ?_⟩
    by_cases ej : j = i
    · subst ej
      have hj : j < cs.size := by have := Array.getElem?_eq_some_iff.1 h2; exact this.1
      refine ⟨fun z' hz' => ?_, fun q n c hq => ?_, fun s hs => ⟨z, by simp [hj]⟩⟩
      · rw [h2] at hz'; cases hz'
      · rw [h2] at hq; cases hq
    · have e2 : (cs.setIfInBounds i (.string z))[j]? = cs[j]? := by simp [Ne.symm ej]
      rw [e2]
      exact ⟨fun z hz => ⟨z, hz⟩, fun q n c hq => hq, fun s hs => ⟨s, hs⟩⟩
  · exact ⟨cb, (Below.heap_setCell _ _ _ _ e).trans hb, rfl, fun j => ⟨fun z hz => ⟨z, hz⟩, fun q n c hq => hq, fun s hs => ⟨s, hs⟩⟩⟩
/-- how far the marking has come; the numbers' cells of block g are those of which I says so -/
structure MkSt (I : Nat → Prop) (lo hi : Nat) (w W : World) (g : Nat) : Prop where
  m : Mkd lo hi w W
  c : ∀ i, I i → IntC W g i
  l : lo ≤ g
  h : g < hi
theorem listStoreK {I : Nat → Prop} {lo hi : Nat} {w0 w : World} {ops : Array Oper} {rest : List Oper} {o : Oper} {a : Act} {Q : Exit → Act → World → Prop} (hgd : o.guard = none) (hd : o.dst = none) (x y : Operand) (ty : TypeId) (ho : o.op = .store ty x y) (hty : ty = 3)
    (g i : Nat) (z : Int) (hx : a.eval x = .pointer (some ⟨g, i, none⟩)) (hy : a.eval y = .int .i64 z) (hS : MkSt I lo hi w0 w g) (hI : I i)
    (h : ∀ w', MkSt I lo hi w0 w' g → wpList Try.prog ops Q rest a w') : wpList Try.prog ops Q (o :: rest) a w := by
  have hc := (hS.c i hI).cell
  refine listStoreC hgd hd x y ty ho hty g i z hx hy hc.1 hc.2 ?_
  rintro w' rfl
  have hm := Mkd.set (hS.c i hI) hS.l hS.h z
  exact h _ ⟨hS.m.trans hm, fun j hj => (hS.c j hj).mk' hm, hS.l, hS.h⟩
theorem storeS_run {w : World} (g i : Nat) (z : ByteArray) {v : Value} (hc : w.cell? ⟨g, i, none⟩ = some v) (hf : w.frozen? ⟨g, i, none⟩ = false) :
    (Instr.storeAt 9 (.pointer (some ⟨g, i, none⟩)) (.string z)).run Try.prog w = .ok () (w.setCell ⟨g, i, none⟩ (.string z)) := by
  simp [go_sem, Instr.storeAt, hc, hf]
def pcelI (n i : Nat) : Prop := i < n * 6 ∧ i % 6 ≠ 2
theorem pcelI_0 {n j : Nat} (h : j < n) : pcelI n (j * 6) := ⟨by omega, by omega⟩
theorem pcelI_1 {n j : Nat} (h : j < n) : pcelI n (j * 6 + 1) := ⟨by omega, by omega⟩
theorem pcelI_3 {n j : Nat} (h : j < n) : pcelI n (j * 6 + 3) := ⟨by omega, by omega⟩
theorem pcelI_4 {n j : Nat} (h : j < n) : pcelI n (j * 6 + 4) := ⟨by omega, by omega⟩
theorem pcelI_5 {n j : Nat} (h : j < n) : pcelI n (j * 6 + 5) := ⟨by omega, by omega⟩
end Go.Proofs.Ytfdhcchakoldpaa
