/-
  Marks: numbers stay numbers, texts stay texts, lists stay; blocks outside a range stay as they are.
-/
import Derived.Test.YtokcbfgajcelhabKLin
import Derived.Test.YtokcbfgajcelhabLst11
import Derived.Test.YtokcbfgajcelhabStr11
import Derived.Test.YtokcbfgajcelhabRu10
import Derived.Test.YtokcbfgajcelhabPrt
import Derived.Test.YtokcbfgajcelhabRegE
import Derived.Deep.CutBlock
namespace Go.Proofs.Ytokcbfgajcelhab
open Go.ChangeShapes Go.WideShapes Go.ChangeAt Go.RowKit Go.PlainAid
set_option linter.unusedVariables false

/-- the block has the same length and type, numbers where numbers were, texts where texts were, the same lists -/
def Sh (w w' : World) : Prop := ∀ (g : Nat) (cs : Array Value) (T : TypeId), w.heap[g]? = some (.cells cs T (0, 0)) → ∃ cs' : Array Value, w'.heap[g]? = some (.cells cs' T (0, 0)) ∧ cs'.size = cs.size ∧ ∀ i : Nat, (∀ z : Int, cs[i]? = some (.int .i64 z) → ∃ z', cs'[i]? = some (.int .i64 z')) ∧ (∀ q n c, cs[i]? = some (.slice q n c) → cs'[i]? = some (.slice q n c)) ∧ (∀ s, cs[i]? = some (.string s) → ∃ s', cs'[i]? = some (.string s'))
theorem Sh.refl (w : World) : Sh w w := fun g cs T h => ⟨cs, h, rfl, fun i => ⟨fun z hz => ⟨z, hz⟩, fun q n c hq => hq, fun s hs => ⟨s, hs⟩⟩⟩
theorem Sh.trans {a b c : World} (h : Sh a b) (k : Sh b c) : Sh a c := fun g cs T hg => by
  obtain ⟨c1, h1, s1, f1⟩ := h g cs T hg
  obtain ⟨c2, h2, s2, f2⟩ := k g c1 T h1
  refine ⟨c2, h2, s2.trans s1, fun i => ⟨fun z hz => ?_, fun q n c hq => ?_, fun s hs => ?_⟩⟩
  · obtain ⟨z1, hz1⟩ := (f1 i).1 z hz
    exact (f2 i).1 z1 hz1
  · exact (f2 i).2.1 q n c ((f1 i).2.1 q n c hq)
  · obtain ⟨z1, hz1⟩ := (f1 i).2.2 s hs
    exact (f2 i).2.2 z1 hz1
structure Mkd (lo hi : Nat) (w w' : World) : Prop where
  os : w'.os = w.os
  tape : w'.tape = w.tape
  output : w'.output = w.output
  size : w.heap.size ≤ w'.heap.size
  sh : Sh w w'
  far : ∀ g, g < w.heap.size → (g < lo ∨ hi ≤ g) → w'.heap[g]? = w.heap[g]?
theorem Mkd.refl (lo hi : Nat) (w : World) : Mkd lo hi w w := ⟨rfl, rfl, rfl, Nat.le_refl _, Sh.refl w, fun _ _ _ => rfl⟩
theorem Mkd.trans {lo hi : Nat} {a b c : World} (h : Mkd lo hi a b) (k : Mkd lo hi b c) : Mkd lo hi a c :=
  ⟨k.os.trans h.os, k.tape.trans h.tape, k.output.trans h.output, Nat.le_trans h.size k.size, h.sh.trans k.sh, fun g hg ho => (k.far g (Nat.lt_of_lt_of_le hg h.size) ho).trans (h.far g hg ho)⟩
theorem Mkd.of_below {lo hi : Nat} {w w' : World} (h : Below w.heap.size w w') : Mkd lo hi w w' :=
  ⟨h.os, h.tape, h.output, h.size, fun g cs T hg => ⟨cs, (h.block g (row_lt hg)).trans hg, rfl, fun i => ⟨fun z hz => ⟨z, hz⟩, fun q n c hq => hq, fun s hs => ⟨s, hs⟩⟩⟩, fun g hg _ => h.block g hg⟩
/-- what it means for what was there before: the blocks below lo and from hi on -/
theorem Mkd.below {lo hi : Nat} {w w' : World} (h : Mkd lo hi w w') : Below lo w w' ∨ w.heap.size < lo := by
  by_cases hl : lo ≤ w.heap.size
  · exact .inl ⟨h.os, h.tape, h.output, h.size, fun g hg => h.far g (by omega) (.inl hg)⟩
  · exact .inr (by omega)
theorem Mkd.row {lo hi g : Nat} {w w' : World} {o : Obj} (h : Mkd lo hi w w') (hr : w.heap[g]? = some o) (hg : g < lo ∨ hi ≤ g) : w'.heap[g]? = some o := (h.far g (row_lt hr) hg).trans hr
/-- a cell that holds a number, a text, a list -/
def IntC (w : World) (g i : Nat) : Prop := ∃ (cs : Array Value) (T : TypeId) (z : Int), w.heap[g]? = some (.cells cs T (0, 0)) ∧ cs[i]? = some (.int .i64 z)
def StrC (w : World) (g i : Nat) : Prop := ∃ (cs : Array Value) (T : TypeId) (s : ByteArray), w.heap[g]? = some (.cells cs T (0, 0)) ∧ cs[i]? = some (.string s)
def SliC (w : World) (g i : Nat) (q : Option Addr) (n c : Nat) : Prop := ∃ (cs : Array Value) (T : TypeId), w.heap[g]? = some (.cells cs T (0, 0)) ∧ cs[i]? = some (.slice q n c)
theorem IntC.mk' {lo hi g i : Nat} {w w' : World} (h : IntC w g i) (m : Mkd lo hi w w') : IntC w' g i := by
  obtain ⟨cs, T, z, h1, h2⟩ := h
  obtain ⟨c1, h3, _, f⟩ := m.sh g cs T h1
  obtain ⟨z1, hz⟩ := (f i).1 z h2
  exact ⟨c1, T, z1, h3, hz⟩
theorem StrC.mk' {lo hi g i : Nat} {w w' : World} (h : StrC w g i) (m : Mkd lo hi w w') : StrC w' g i := by
  obtain ⟨cs, T, z, h1, h2⟩ := h
  obtain ⟨c1, h3, _, f⟩ := m.sh g cs T h1
  obtain ⟨z1, hz⟩ := (f i).2.2 z h2
  exact ⟨c1, T, z1, h3, hz⟩
theorem SliC.mk' {lo hi g i n c : Nat} {q : Option Addr} {w w' : World} (h : SliC w g i q n c) (m : Mkd lo hi w w') : SliC w' g i q n c := by
  obtain ⟨cs, T, h1, h2⟩ := h
  obtain ⟨c1, h3, _, f⟩ := m.sh g cs T h1
  exact ⟨c1, T, h3, (f i).2.1 q n c h2⟩
theorem IntC.cell {w : World} {g i : Nat} (h : IntC w g i) : (∃ v, w.cell? ⟨g, i, none⟩ = some v) ∧ w.frozen? ⟨g, i, none⟩ = false := by
  obtain ⟨cs, T, z, h1, h2⟩ := h
  exact ⟨⟨_, (cell_of_row w g i _ _ (0, 0) h1).trans h2⟩, frozen_of_row w g i _ _ h1⟩
theorem StrC.cell {w : World} {g i : Nat} (h : StrC w g i) : (∃ v, w.cell? ⟨g, i, none⟩ = some v) ∧ w.frozen? ⟨g, i, none⟩ = false := by
  obtain ⟨cs, T, z, h1, h2⟩ := h
  exact ⟨⟨_, (cell_of_row w g i _ _ (0, 0) h1).trans h2⟩, frozen_of_row w g i _ _ h1⟩
theorem SliC.cell {w : World} {g i n c : Nat} {q : Option Addr} (h : SliC w g i q n c) : w.cell? ⟨g, i, none⟩ = some (.slice q n c) := by
  obtain ⟨cs, T, h1, h2⟩ := h
  exact (cell_of_row w g i _ _ (0, 0) h1).trans h2
theorem Mkd.set {lo hi g i : Nat} {w : World} (h : IntC w g i) (hlo : lo ≤ g) (hhi : g < hi) (z : Int) : Mkd lo hi w (w.setCell ⟨g, i, none⟩ (.int .i64 z)) := by
  obtain ⟨cs, T, z0, h1, h2⟩ := h
  refine ⟨rfl, rfl, rfl, by simp, fun b cb Tb hb => ?_, fun b hb ho => Below.heap_setCell _ _ _ _ (show b ≠ g by omega)⟩
  by_cases e : b = g
  · subst e
    rw [h1] at hb
    obtain ⟨rfl, rfl⟩ : cs = cb ∧ T = Tb := by simpa using hb
    refine ⟨_, heap_setCell_same w b i _ _ (.int .i64 z) h1, by simp, fun j => ?_⟩
    by_cases ej : j = i
    · subst ej
      have hj : j < cs.size := by have := Array.getElem?_eq_some_iff.1 h2; exact this.1
      refine ⟨fun z' _ => ⟨z, by simp [hj]⟩, fun q n c hq => ?_, fun s hs => ?_⟩
      · rw [h2] at hq; cases hq
      · rw [h2] at hs; cases hs
    · have e2 : (cs.setIfInBounds i (.int .i64 z))[j]? = cs[j]? := by simp [Ne.symm ej]
      rw [e2]
      exact ⟨fun z hz => ⟨z, hz⟩, fun q n c hq => hq, fun s hs => ⟨s, hs⟩⟩
  · exact ⟨cb, (Below.heap_setCell _ _ _ _ e).trans hb, rfl, fun j => ⟨fun z hz => ⟨z, hz⟩, fun q n c hq => hq, fun s hs => ⟨s, hs⟩⟩⟩
theorem Mkd.setS {lo hi g i : Nat} {w : World} (h : StrC w g i) (hlo : lo ≤ g) (hhi : g < hi) (z : ByteArray) : Mkd lo hi w (w.setCell ⟨g, i, none⟩ (.string z)) := by
  obtain ⟨cs, T, z0, h1, h2⟩ := h
  refine ⟨rfl, rfl, rfl, by simp, fun b cb Tb hb => ?_, fun b hb ho => Below.heap_setCell _ _ _ _ (show b ≠ g by omega)⟩
  by_cases e : b = g
  · subst e
    rw [h1] at hb
    obtain ⟨rfl, rfl⟩ : cs = cb ∧ T = Tb := by simpa using hb
    refine ⟨_, heap_setCell_same w b i _ _ (.string z) h1, by simp, fun j => ?_⟩
    by_cases ej : j = i
    · subst ej
      have hj : j < cs.size := by have := Array.getElem?_eq_some_iff.1 h2; exact this.1
      refine ⟨fun z' hz' => ?_, fun q n c hq => ?_, fun s hs => ⟨z, by simp [hj]⟩⟩
      · rw [h2] at hz'; cases hz'
      · rw [h2] at hq; cases hq
    · have e2 : (cs.setIfInBounds i (.string z))[j]? = cs[j]? := by simp [Ne.symm ej]
      rw [e2]
      exact ⟨fun z hz => ⟨z, hz⟩, fun q n c hq => hq, fun s hs => ⟨s, hs⟩⟩
  · exact ⟨cb, (Below.heap_setCell _ _ _ _ e).trans hb, rfl, fun j => ⟨fun z hz => ⟨z, hz⟩, fun q n c hq => hq, fun s hs => ⟨s, hs⟩⟩⟩
/-- how far the marking has come; the numbers' cells of block g are those of which I says so -/
structure MkSt (I : Nat → Prop) (lo hi : Nat) (w W : World) (g : Nat) : Prop where
  m : Mkd lo hi w W
  c : ∀ i, I i → IntC W g i
  l : lo ≤ g
  h : g < hi
theorem listStoreK {I : Nat → Prop} {lo hi : Nat} {w0 w : World} {ops : Array Oper} {rest : List Oper} {o : Oper} {a : Act} {Q : Exit → Act → World → Prop} (hgd : o.guard = none) (hd : o.dst = none) (x y : Operand) (ty : TypeId) (ho : o.op = .store ty x y) (hty : ty = 3)
    (g i : Nat) (z : Int) (hx : a.eval x = .pointer (some ⟨g, i, none⟩)) (hy : a.eval y = .int .i64 z) (hS : MkSt I lo hi w0 w g) (hI : I i)
    (h : ∀ w', MkSt I lo hi w0 w' g → wpList Try.prog ops Q rest a w') : wpList Try.prog ops Q (o :: rest) a w := by
  have hc := (hS.c i hI).cell
  refine listStoreC hgd hd x y ty ho hty g i z hx hy hc.1 hc.2 ?_
  rintro w' rfl
  have hm := Mkd.set (hS.c i hI) hS.l hS.h z
  exact h _ ⟨hS.m.trans hm, fun j hj => (hS.c j hj).mk' hm, hS.l, hS.h⟩
set_option maxRecDepth 100000 in
set_option maxHeartbeats 4000000 in
theorem mkwI (g n lo hi : Nat) (k : Int) (k0 : 0 ≤ k) (k1 : k ≤ 1000000000000000) (hn : n ≤ 1048576) (w : World) (hc : ∀ i, i < n * 1 → IntC w g i) (hlo : lo ≤ g) (hhi : g < hi) :
    Calls Try.prog 13 #[.slice (some ⟨g, 0, none⟩) n n, .int .i64 k] w fun e w' => e = .returned (.int .i64 (k + n)) ∧ Mkd lo hi w w' := by
  have HC : Hid (∀ i, i < n * 1 → IntC w g i) := hc
  clear hc
  go_enter Try.func13, Try.ntmps13
  go_wp2
  go_loopg [1, 5] n (fun gk kv i wr => ∃ j : Nat, j + gk = n ∧ kv = .int .i64 (k + (j : Int)) ∧ i = .int .i64 j ∧ Hid (Mkd lo hi w wr))
  case atStart => exact ⟨0, by omega, by simp, rfl, Mkd.refl _ _ _⟩
  case round =>
    obtain ⟨j, hj, rfl, rfl, HM⟩ := hrel
    by_cases hlt : j < n
    · have hS : MkSt (fun i => i < n * 1) lo hi w wr g := ⟨HM.out, fun i hi => (HC.out i hi).mk' HM.out, hlo, hhi⟩
      clear HM
      go_wp2_with (refine listStoreK rfl rfl _ _ _ rfl rfl g _ _ rfl rfl (by assumption) (by omega) ?_; intro W hS)
      have HM' : Hid (Mkd lo hi w W) := hS.m
      clear hS
      go_roundg (gk - 1)
      case measure => omega
      case rel => exact ⟨j + 1, by omega, by go_num, by go_num, HM'⟩
    · obtain rfl : j = n := by omega
      go_wp2
      go_ret
      exact ⟨rfl, HM.out⟩
set_option maxRecDepth 100000 in
set_option maxHeartbeats 4000000 in
theorem mkwR (g n lo hi : Nat) (k : Int) (k0 : 0 ≤ k) (k1 : k ≤ 1000000000000000) (hn : n ≤ 1048576) (w : World) (hc : ∀ i, i < n * 2 → IntC w g i) (hlo : lo ≤ g) (hhi : g < hi) :
    Calls Try.prog 75 #[.slice (some ⟨g, 0, none⟩) n n, .int .i64 k] w fun e w' => e = .returned (.int .i64 (k + 2 * n)) ∧ Mkd lo hi w w' := by
  have HC : Hid (∀ i, i < n * 2 → IntC w g i) := hc
  clear hc
  go_enter Try.func75, Try.ntmps75
  go_wp2
  go_loopg [1, 5] n (fun gk kv i wr => ∃ j : Nat, j + gk = n ∧ kv = .int .i64 (k + 2 * (j : Int)) ∧ i = .int .i64 j ∧ Hid (Mkd lo hi w wr))
  case atStart => exact ⟨0, by omega, by simp, rfl, Mkd.refl _ _ _⟩
  case round =>
    obtain ⟨j, hj, rfl, rfl, HM⟩ := hrel
    by_cases hlt : j < n
    · have hS : MkSt (fun i => i < n * 2) lo hi w wr g := ⟨HM.out, fun i hi => (HC.out i hi).mk' HM.out, hlo, hhi⟩
      clear HM
      go_wp2_with (refine listStoreK rfl rfl _ _ _ rfl rfl g _ _ rfl rfl (by assumption) (by omega) ?_; intro W hS)
      have HM' : Hid (Mkd lo hi w W) := hS.m
      clear hS
      go_roundg (gk - 1)
      case measure => omega
      case rel => exact ⟨j + 1, by omega, by go_num, by go_num, HM'⟩
    · obtain rfl : j = n := by omega
      go_wp2
      go_ret
      exact ⟨rfl, HM.out⟩
set_option maxRecDepth 100000 in
set_option maxHeartbeats 4000000 in
theorem mkwW (g n lo hi : Nat) (k : Int) (k0 : 0 ≤ k) (k1 : k ≤ 1000000000000000) (hn : n ≤ 1048576) (w : World) (hc : ∀ i, i < n * 2 → IntC w g i) (hlo : lo ≤ g) (hhi : g < hi) :
    Calls Try.prog 76 #[.slice (some ⟨g, 0, none⟩) n n, .int .i64 k] w fun e w' => e = .returned (.int .i64 (k + 2 * n)) ∧ Mkd lo hi w w' := by
  have HC : Hid (∀ i, i < n * 2 → IntC w g i) := hc
  clear hc
  go_enter Try.func76, Try.ntmps76
  go_wp2
  go_loopg [1, 5] n (fun gk kv i wr => ∃ j : Nat, j + gk = n ∧ kv = .int .i64 (k + 2 * (j : Int)) ∧ i = .int .i64 j ∧ Hid (Mkd lo hi w wr))
  case atStart => exact ⟨0, by omega, by simp, rfl, Mkd.refl _ _ _⟩
  case round =>
    obtain ⟨j, hj, rfl, rfl, HM⟩ := hrel
    by_cases hlt : j < n
    · have hS : MkSt (fun i => i < n * 2) lo hi w wr g := ⟨HM.out, fun i hi => (HC.out i hi).mk' HM.out, hlo, hhi⟩
      clear HM
      go_wp2_with (refine listStoreK rfl rfl _ _ _ rfl rfl g _ _ rfl rfl (by assumption) (by omega) ?_; intro W hS)
      have HM' : Hid (Mkd lo hi w W) := hS.m
      clear hS
      go_roundg (gk - 1)
      case measure => omega
      case rel => exact ⟨j + 1, by omega, by go_num, by go_num, HM'⟩
    · obtain rfl : j = n := by omega
      go_wp2
      go_ret
      exact ⟨rfl, HM.out⟩
set_option maxRecDepth 100000 in
set_option maxHeartbeats 4000000 in
theorem mkwM (g n lo hi : Nat) (k : Int) (k0 : 0 ≤ k) (k1 : k ≤ 1000000000000000) (hn : n ≤ 1048576) (w : World) (hc : ∀ i, i < n * 2 → IntC w g i) (hlo : lo ≤ g) (hhi : g < hi) :
    Calls Try.prog 80 #[.slice (some ⟨g, 0, none⟩) n n, .int .i64 k] w fun e w' => e = .returned (.int .i64 (k + 2 * n)) ∧ Mkd lo hi w w' := by
  have HC : Hid (∀ i, i < n * 2 → IntC w g i) := hc
  clear hc
  go_enter Try.func80, Try.ntmps80
  go_wp2
  go_loopg [1, 5] n (fun gk kv i wr => ∃ j : Nat, j + gk = n ∧ kv = .int .i64 (k + 2 * (j : Int)) ∧ i = .int .i64 j ∧ Hid (Mkd lo hi w wr))
  case atStart => exact ⟨0, by omega, by simp, rfl, Mkd.refl _ _ _⟩
  case round =>
    obtain ⟨j, hj, rfl, rfl, HM⟩ := hrel
    by_cases hlt : j < n
    · have hS : MkSt (fun i => i < n * 2) lo hi w wr g := ⟨HM.out, fun i hi => (HC.out i hi).mk' HM.out, hlo, hhi⟩
      clear HM
      go_wp2_with (refine listStoreK rfl rfl _ _ _ rfl rfl g _ _ rfl rfl (by assumption) (by omega) ?_; intro W hS)
      have HM' : Hid (Mkd lo hi w W) := hS.m
      clear hS
      go_roundg (gk - 1)
      case measure => omega
      case rel => exact ⟨j + 1, by omega, by go_num, by go_num, HM'⟩
    · obtain rfl : j = n := by omega
      go_wp2
      go_ret
      exact ⟨rfl, HM.out⟩
set_option maxRecDepth 100000 in
set_option maxHeartbeats 4000000 in
theorem mkwU (g n lo hi : Nat) (k : Int) (k0 : 0 ≤ k) (k1 : k ≤ 1000000000000000) (hn : n ≤ 1048576) (w : World) (hc : ∀ i, i < n * 3 → IntC w g i) (hlo : lo ≤ g) (hhi : g < hi) :
    Calls Try.prog 78 #[.slice (some ⟨g, 0, none⟩) n n, .int .i64 k] w fun e w' => e = .returned (.int .i64 (k + 3 * n)) ∧ Mkd lo hi w w' := by
  have HC : Hid (∀ i, i < n * 3 → IntC w g i) := hc
  clear hc
  go_enter Try.func78, Try.ntmps78
  go_wp2
  go_loopg [1, 5] n (fun gk kv i wr => ∃ j : Nat, j + gk = n ∧ kv = .int .i64 (k + 3 * (j : Int)) ∧ i = .int .i64 j ∧ Hid (Mkd lo hi w wr))
  case atStart => exact ⟨0, by omega, by simp, rfl, Mkd.refl _ _ _⟩
  case round =>
    obtain ⟨j, hj, rfl, rfl, HM⟩ := hrel
    by_cases hlt : j < n
    · have hS : MkSt (fun i => i < n * 3) lo hi w wr g := ⟨HM.out, fun i hi => (HC.out i hi).mk' HM.out, hlo, hhi⟩
      clear HM
      go_wp2_with (refine listStoreK rfl rfl _ _ _ rfl rfl g _ _ rfl rfl (by assumption) (by omega) ?_; intro W hS)
      have HM' : Hid (Mkd lo hi w W) := hS.m
      clear hS
      go_roundg (gk - 1)
      case measure => omega
      case rel => exact ⟨j + 1, by omega, by go_num, by go_num, HM'⟩
    · obtain rfl : j = n := by omega
      go_wp2
      go_ret
      exact ⟨rfl, HM.out⟩
set_option maxRecDepth 100000 in
set_option maxHeartbeats 4000000 in
theorem mkwO (g n lo hi : Nat) (k : Int) (k0 : 0 ≤ k) (k1 : k ≤ 1000000000000000) (hn : n ≤ 1048576) (w : World) (hc : ∀ i, i < n * 5 → IntC w g i) (hlo : lo ≤ g) (hhi : g < hi) :
    Calls Try.prog 77 #[.slice (some ⟨g, 0, none⟩) n n, .int .i64 k] w fun e w' => e = .returned (.int .i64 (k + 5 * n)) ∧ Mkd lo hi w w' := by
  have HC : Hid (∀ i, i < n * 5 → IntC w g i) := hc
  clear hc
  go_enter Try.func77, Try.ntmps77
  go_wp2
  go_loopg [1, 5] n (fun gk kv i wr => ∃ j : Nat, j + gk = n ∧ kv = .int .i64 (k + 5 * (j : Int)) ∧ i = .int .i64 j ∧ Hid (Mkd lo hi w wr))
  case atStart => exact ⟨0, by omega, by simp, rfl, Mkd.refl _ _ _⟩
  case round =>
    obtain ⟨j, hj, rfl, rfl, HM⟩ := hrel
    by_cases hlt : j < n
    · have hS : MkSt (fun i => i < n * 5) lo hi w wr g := ⟨HM.out, fun i hi => (HC.out i hi).mk' HM.out, hlo, hhi⟩
      clear HM
      go_wp2_with (refine listStoreK rfl rfl _ _ _ rfl rfl g _ _ rfl rfl (by assumption) (by omega) ?_; intro W hS)
      have HM' : Hid (Mkd lo hi w W) := hS.m
      clear hS
      go_roundg (gk - 1)
      case measure => omega
      case rel => exact ⟨j + 1, by omega, by go_num, by go_num, HM'⟩
    · obtain rfl : j = n := by omega
      go_wp2
      go_ret
      exact ⟨rfl, HM.out⟩
set_option maxRecDepth 100000 in
set_option maxHeartbeats 4000000 in
theorem mkwE (g n lo hi : Nat) (k : Int) (k0 : 0 ≤ k) (k1 : k ≤ 1000000000000000) (hn : n ≤ 1048576) (w : World) (hc : ∀ i, i < n * 5 → IntC w g i) (hlo : lo ≤ g) (hhi : g < hi) :
    Calls Try.prog 46 #[.slice (some ⟨g, 0, none⟩) n n, .int .i64 k] w fun e w' => e = .returned (.int .i64 (k + 5 * n)) ∧ Mkd lo hi w w' := by
  have HC : Hid (∀ i, i < n * 5 → IntC w g i) := hc
  clear hc
  go_enter Try.func46, Try.ntmps46
  go_wp2
  go_loopg [1, 5] n (fun gk kv i wr => ∃ j : Nat, j + gk = n ∧ kv = .int .i64 (k + 5 * (j : Int)) ∧ i = .int .i64 j ∧ Hid (Mkd lo hi w wr))
  case atStart => exact ⟨0, by omega, by simp, rfl, Mkd.refl _ _ _⟩
  case round =>
    obtain ⟨j, hj, rfl, rfl, HM⟩ := hrel
    by_cases hlt : j < n
    · have hS : MkSt (fun i => i < n * 5) lo hi w wr g := ⟨HM.out, fun i hi => (HC.out i hi).mk' HM.out, hlo, hhi⟩
      clear HM
      go_wp2_with (refine listStoreK rfl rfl _ _ _ rfl rfl g _ _ rfl rfl (by assumption) (by omega) ?_; intro W hS)
      have HM' : Hid (Mkd lo hi w W) := hS.m
      clear hS
      go_roundg (gk - 1)
      case measure => omega
      case rel => exact ⟨j + 1, by omega, by go_num, by go_num, HM'⟩
    · obtain rfl : j = n := by omega
      go_wp2
      go_ret
      exact ⟨rfl, HM.out⟩
set_option maxRecDepth 100000 in
set_option maxHeartbeats 400000 in
theorem mtW (k : Nat) (h0 : 0 < k) (hk : k ≤ 100000000) (w : World) :
    Calls Try.prog 94 #[.int .i64 k] w fun e w' => e = .returned (.string (S.mk k)) ∧ Below w.heap.size w w' := by
  go_enter Try.func94, Try.ntmps94
  go_wp2
  go_loopw [0, 3] (fun nv sv wr => ∃ (f u : Nat) (acc : List UInt8), nv = .int .i64 u ∧ sv = .string ⟨acc.toArray⟩ ∧ u ≤ 100000000 ∧ acc.length + f = 20 ∧ u ≤ f * 100000000 ∧ Hid (u < 10 ^ f) ∧ Hid (S.mkF f u acc = S.mkF 20 k []) ∧ Below w.heap.size w wr) (fun nv _ _ => (intOf nv).toNat)
  case atStart => exact ⟨20, k, [], rfl, rfl, hk, by simp, by omega, (show Hid _ from Nat.lt_of_le_of_lt hk (by decide)), (show Hid _ from rfl), Below.refl _ _⟩
  case round =>
    obtain ⟨f, u, acc, rfl, rfl, hu, hl, _, HP, HD, hnx⟩ := hrel
    have hsz : (ByteArray.mk acc.toArray).size ≤ 20 := by rw [S.acc_size]; omega
    by_cases hu0 : u = 0
    · subst hu0
      have HE : Hid (acc = S.mkF 20 k []) := by have := HD.out; rw [S.mkF_zero] at this; exact this
      go_wp2
      go_ret
      exact ⟨by unfold S.mk; rw [← HE.out]; exact congrArg (fun x => Ending.returned (Value.string x)) (S.cat_one 109 acc), hnx⟩
    · have hpos : 0 < u := by omega
      cases f with
      | zero => exact absurd HP.out (by simp; omega)
      | succ f =>
        have hf : 0 < f ∨ u < 10 := by
          by_cases h : f = 0
          · subst h; right; simpa using HP.out
          · left; omega
        have HP' : Hid (u / 10 < 10 ^ f) := by have := HP.out; rw [Nat.pow_succ] at this; show u / 10 < 10 ^ f; omega
        have HD' : Hid (S.mkF f (u / 10) (S.fb (u % 10) :: acc) = S.mkF 20 k []) := by have := HD.out; rw [S.mkF_step hu0] at this; exact this
        have hone := S.one_text (S.fb (u % 10)) wr
        rw [show ((S.fb (u % 10)).toNat : Int) = 48 + (u : Int) % 10 by rw [S.fb_nat (by omega)]; omega] at hone
        clear HP HD
        go_wp2
        go_roundw
        case rel => exact ⟨f, u / 10, S.fb (u % 10) :: acc, by go_num, by rw [S.cat_one], by omega, by simp; omega, by omega, HP', HD', hnx.alloc hnx.size _⟩
        case measure => simp [intOf]; omega
theorem storeS_run {w : World} (g i : Nat) (z : ByteArray) {v : Value} (hc : w.cell? ⟨g, i, none⟩ = some v) (hf : w.frozen? ⟨g, i, none⟩ = false) :
    (Instr.storeAt 9 (.pointer (some ⟨g, i, none⟩)) (.string z)).run Try.prog w = .ok () (w.setCell ⟨g, i, none⟩ (.string z)) := by
  simp [go_sem, Instr.storeAt, hc, hf]
set_option maxRecDepth 100000 in
set_option maxHeartbeats 2000000 in
theorem mkwS (g n lo hi : Nat) (k : Int) (k0 : 0 < k) (k1 : k ≤ 50000000) (hn : n ≤ 1048576) (w : World) (hc : ∀ i, i < n → StrC w g i) (hlo : lo ≤ g) (hhi : g < hi) :
    Calls Try.prog 79 #[.slice (some ⟨g, 0, none⟩) n n, .int .i64 k] w fun e w' => e = .returned (.int .i64 (k + n)) ∧ Mkd lo hi w w' := by
  have HC : Hid (∀ i, i < n → StrC w g i) := hc
  clear hc
  obtain ⟨kn, rfl⟩ : ∃ kn : Nat, k = kn := ⟨k.toNat, by omega⟩
  go_enter Try.func79, Try.ntmps79
  go_wp2
  go_loopg [1, 5] n (fun gk kv i wr => ∃ j : Nat, j + gk = n ∧ kv = .int .i64 (kn + j : Nat) ∧ i = .int .i64 j ∧ Hid (Mkd lo hi w wr))
  case atStart => exact ⟨0, by omega, rfl, rfl, Mkd.refl _ _ _⟩
  case round =>
    obtain ⟨j, hj, rfl, rfl, HM⟩ := hrel
    by_cases hlt : j < n
    · have HSC : Hid (StrC wr g j) := (HC.out j hlt).mk' HM.out
      go_wp2_with fail
      refine (mtW (kn + j) (by omega) (by omega) _).mono ?_
      rintro e w1 ⟨rfl, hb1⟩
      have HSC1 : Hid (StrC w1 g j) := HSC.out.mk' (Mkd.of_below (lo := lo) (hi := hi) hb1)
      obtain ⟨⟨v, hv⟩, hf⟩ := HSC1.out.cell
      have HM' : Hid (Mkd lo hi w (w1.setCell ⟨g, j, none⟩ (.string (S.mk (kn + j))))) := (HM.out.trans (Mkd.of_below hb1)).trans (Mkd.setS HSC1.out hlo hhi _)
      clear HM HSC HSC1 hb1
      go_wp2
      go_roundg (gk - 1)
      case measure => omega
      case rel => exact ⟨j + 1, by omega, by go_num, by go_num, HM'⟩
    · obtain rfl : j = n := by omega
      go_wp2
      go_ret
      exact ⟨by go_num, HM.out⟩
theorem mkwA (g n lo hi : Nat) (k : Int) (k0 : 0 ≤ k) (k1 : k ≤ 1000000000000000) (hn : n ≤ 1048576) (w : World) (hc : ∀ i, i < n * 1 → IntC w g i) (hlo : lo ≤ g) (hhi : g < hi) :
    Calls Try.prog 43 #[.agg #[.slice (some ⟨g, 0, none⟩) n n], .int .i64 k] w fun e w' => e = .returned (.int .i64 (k + n)) ∧ Mkd lo hi w w' := by
  have HB : Hid (Below w.heap.size w (w.alloc (.cells #[.slice (some ⟨g, 0, none⟩) n n] 50))) := (Below.refl _ _).alloc (Nat.le_refl _) _
  have HC : Hid (∀ i, i < n * 1 → IntC (w.alloc (.cells #[.slice (some ⟨g, 0, none⟩) n n] 50)) g i) := fun i hi' => (hc i hi').mk' (Mkd.of_below (lo := lo) (hi := hi) HB.out)
  clear hc
  go_enter Try.func43, Try.ntmps43
  go_wp2_with fail
  refine (mkwI g n lo hi k k0 k1 hn _ HC.out hlo hhi).mono ?_
  rintro e w1 ⟨rfl, hm⟩
  have HM : Hid (Mkd lo hi w w1) := (Mkd.of_below HB.out).trans hm
  clear hm
  go_wp2
  go_ret
  exact ⟨rfl, HM.out⟩
set_option maxRecDepth 100000 in
set_option maxHeartbeats 2000000 in
theorem mkwLs (g n lo hi : Nat) (b m : Nat → Nat) (k : Int) (k0 : 0 ≤ k) (k1 : k ≤ 100000000000000) (hn : n ≤ 1048576) (w : World) (hs : ∀ j, j < n → SliC w g j (some ⟨b j, 0, none⟩) (m j) (m j)) (hm : ∀ j, j < n → m j ≤ 1048576) (hc : ∀ j, j < n → ∀ i, i < m j * 2 → IntC w (b j) i) (hb : ∀ j, j < n → lo ≤ b j ∧ b j < hi) :
    Calls Try.prog 45 #[.slice (some ⟨g, 0, none⟩) n n, .int .i64 k] w fun e w' => ∃ r : Int, e = .returned (.int .i64 r) ∧ k ≤ r ∧ r ≤ k + 2097152 * n ∧ Mkd lo hi w w' := by
  have HS : Hid (∀ j, j < n → SliC w g j (some ⟨b j, 0, none⟩) (m j) (m j)) := hs
  have HC : Hid (∀ j, j < n → ∀ i, i < m j * 2 → IntC w (b j) i) := hc
  have HMm : Hid (∀ j, j < n → m j ≤ 1048576) := hm
  have HBb : Hid (∀ j, j < n → lo ≤ b j ∧ b j < hi) := hb
  clear hs hc hm hb
  go_enter Try.func45, Try.ntmps45
  go_wp2
  go_loopg [1, 5] n (fun gk kv i wr => ∃ (j : Nat) (x : Int), j + gk = n ∧ kv = .int .i64 x ∧ i = .int .i64 j ∧ k ≤ x ∧ x ≤ k + 2097152 * j ∧ Hid (Mkd lo hi w wr))
  case atStart => exact ⟨0, k, by omega, rfl, rfl, by omega, by omega, Mkd.refl _ _ _⟩
  case round =>
    obtain ⟨j, x, hj, rfl, rfl, x0, x1, HM⟩ := hrel
    by_cases hlt : j < n
    · have hcell := ((HS.out j hlt).mk' HM.out).cell
      have hmj := HMm.out j hlt
      have HIC : Hid (∀ i, i < m j * 2 → IntC wr (b j) i) := fun i h => (HC.out j hlt i h).mk' HM.out
      have hbj := HBb.out j hlt
      generalize b j = bj at *
      generalize m j = mj at *
      go_wp2_with fail
      refine (mkwM bj mj lo hi x (by omega) (by omega) hmj _ HIC.out hbj.1 hbj.2).mono ?_
      rintro e w1 ⟨rfl, hm1⟩
      have HM' : Hid (Mkd lo hi w w1) := HM.out.trans hm1
      clear HM hm1 HIC hcell hbj
      go_wp2
      go_roundg (gk - 1)
      case measure => omega
      case rel => exact ⟨j + 1, x + 2 * mj, by omega, by go_num, by go_num, by omega, by omega, HM'⟩
    · obtain rfl : j = n := by omega
      go_wp2
      go_ret
      exact ⟨x, rfl, x0, x1, HM.out⟩
def partI (n i : Nat) : Prop := i < n * 6 ∧ i % 6 ≠ 2
theorem partI_0 {n j : Nat} (h : j < n) : partI n (j * 6) := ⟨by omega, by omega⟩
theorem partI_1 {n j : Nat} (h : j < n) : partI n (j * 6 + 1) := ⟨by omega, by omega⟩
theorem partI_3 {n j : Nat} (h : j < n) : partI n (j * 6 + 3) := ⟨by omega, by omega⟩
theorem partI_4 {n j : Nat} (h : j < n) : partI n (j * 6 + 4) := ⟨by omega, by omega⟩
theorem partI_5 {n j : Nat} (h : j < n) : partI n (j * 6 + 5) := ⟨by omega, by omega⟩
set_option maxRecDepth 100000 in
set_option maxHeartbeats 4000000 in
theorem mkwPs (g n lo hi : Nat) (b m : Nat → Nat) (k : Int) (k0 : 0 ≤ k) (k1 : k ≤ 100000000000000) (hn : n ≤ 1048576) (w : World) (hi0 : ∀ i, partI n i → IntC w g i) (hs : ∀ j, j < n → SliC w g (j * 6 + 2) (some ⟨b j, 0, none⟩) (m j) (m j)) (hm : ∀ j, j < n → m j ≤ 1048576) (hc : ∀ j, j < n → ∀ i, i < m j * 1 → IntC w (b j) i) (hb : ∀ j, j < n → lo ≤ b j ∧ b j < hi) (hlo : lo ≤ g) (hhi : g < hi) :
    Calls Try.prog 44 #[.slice (some ⟨g, 0, none⟩) n n, .int .i64 k] w fun e w' => ∃ r : Int, e = .returned (.int .i64 r) ∧ k ≤ r ∧ r ≤ k + 2097152 * n ∧ Mkd lo hi w w' := by
  have HI0 : Hid (∀ i, partI n i → IntC w g i) := hi0
  have HS : Hid (∀ j, j < n → SliC w g (j * 6 + 2) (some ⟨b j, 0, none⟩) (m j) (m j)) := hs
  have HC : Hid (∀ j, j < n → ∀ i, i < m j * 1 → IntC w (b j) i) := hc
  have HMm : Hid (∀ j, j < n → m j ≤ 1048576) := hm
  have HBb : Hid (∀ j, j < n → lo ≤ b j ∧ b j < hi) := hb
  clear hs hc hm hb hi0
  go_enter Try.func44, Try.ntmps44
  go_wp2
  go_loopg [1, 5] n (fun gk kv i wr => ∃ (j : Nat) (x : Int), j + gk = n ∧ kv = .int .i64 x ∧ i = .int .i64 j ∧ k ≤ x ∧ x ≤ k + 2097152 * j ∧ Hid (Mkd lo hi w wr))
  case atStart => exact ⟨0, k, by omega, rfl, rfl, by omega, by omega, Mkd.refl _ _ _⟩
  case round =>
    obtain ⟨j, x, hj, rfl, rfl, x0, x1, HM⟩ := hrel
    by_cases hlt : j < n
    · have HLT : Hid (j < n) := hlt
      have hS : MkSt (partI n) lo hi w wr g := ⟨HM.out, fun i hi' => (HI0.out i hi').mk' HM.out, hlo, hhi⟩
      have hmj := HMm.out j hlt
      have hbj := HBb.out j hlt
      have HS1 : Hid (SliC w g (j * 6 + 2) (some ⟨b j, 0, none⟩) (m j) (m j)) := HS.out j hlt
      have HC1 : Hid (∀ i, i < m j * 1 → IntC w (b j) i) := HC.out j hlt
      generalize b j = bj at *
      generalize m j = mj at *
      clear HM
      go_wp2_with (first | (go_at_call 13; refine (mkwI bj mj lo hi _ (by omega) (by omega) hmj _ (fun i h => (HC1.out i h).mk' hS.m) hbj.1 hbj.2).mono ?_; rintro e w1 ⟨rfl, hm1⟩; have hS : MkSt (partI n) lo hi w w1 g := ⟨hS.m.trans hm1, fun i hi' => (HI0.out i hi').mk' (hS.m.trans hm1), hlo, hhi⟩; clear hm1) | (refine listStoreK rfl rfl _ _ _ rfl rfl g _ _ rfl rfl (by assumption) (by first | exact partI_0 HLT.out | exact partI_1 HLT.out | exact partI_3 HLT.out | exact partI_4 HLT.out | exact partI_5 HLT.out) ?_; intro W hS; have hcell := (HS1.out.mk' hS.m).cell))
      have HM' : Hid (Mkd lo hi w W) := hS.m
      clear hS
      go_roundg (gk - 1)
      case measure => omega
      case rel => exact ⟨j + 1, x + 5 + mj, by omega, by go_num, by go_num, by omega, by omega, HM'⟩
    · obtain rfl : j = n := by omega
      go_wp2
      go_ret
      exact ⟨x, rfl, x0, x1, HM.out⟩
end Go.Proofs.Ytokcbfgajcelhab
