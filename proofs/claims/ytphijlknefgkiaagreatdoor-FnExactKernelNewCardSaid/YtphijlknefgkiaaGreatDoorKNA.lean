/-
  Five lists of a set-up that a call owns.
-/
import Derived.Test.YtphijlknefgkiaaGreatDoorSet11
import Derived.Test.YtphijlknefgkiaaGreatDoorKLin
import Derived.Test.YtphijlknefgkiaaGreatDoorLst11
import Derived.Test.YtphijlknefgkiaaGreatDoorStr11
import Derived.Test.YtphijlknefgkiaaGreatDoorRu10
import Derived.Test.YtphijlknefgkiaaGreatDoorPrt
import Derived.Test.YtphijlknefgkiaaGreatDoorRegE
import Derived.Deep.CutBlock
import Derived.Test.YtphijlknefgkiaaGreatDoorKer
import Derived.Deep.RegionHeld3
import Derived.Test.YtphijlknefgkiaaGreatDoorBase
import Derived.Maps.AppendAt
import Derived.Laws.CopyRow
import Derived.Laws.IdiomCopy
import Derived.Test.YtphijlknefgkiaaGreatDoorShelf
namespace Go.Proofs.YtphijlknefgkiaaGreatDoor
open Go.RowKit Go.PlainAid
set_option linter.unusedVariables false

theorem own_apart11 {W : World} {B B' t t' z z' n n' : Nat} {v v' : Value} {xs xs' : List Value} (h : W.ownsRow B t z v n xs) (h' : W.ownsRow B' t' z' v' n' xs') (ht : t ≠ t') : ∀ g, v.ownBlock = some g → v'.ownBlock ≠ some g := by
  intro g hg hg'
  rcases h.2 with ⟨rfl, _⟩ | ⟨a, c, cur, rfl, _, hh, _⟩
  · cases hg
  · cases hg
    rcases h'.2 with ⟨rfl, _⟩ | ⟨a', c', cur', rfl, _, hh', _⟩
    · cases hg'
    · cases hg'
      rw [hh] at hh'
      cases hh'
      exact ht rfl
theorem own_far11 {W : World} {B t z n k : Nat} {v : Value} {xs : List Value} {cs : Array Value} {t' : TypeId} (h : W.ownsRow B t z v n xs) (hk : W.heap[k]? = some (.cells cs t')) (ht : t ≠ t') : v.ownBlock ≠ some k := by
  intro hg
  rcases h.2 with ⟨rfl, _⟩ | ⟨a, c, cur, rfl, _, hh, _⟩
  · cases hg
  · cases hg
    rw [hh] at hk
    cases hk
    exact ht rfl
theorem own_set11 {w : World} {B t z n k i : Nat} {v x : Value} {xs : List Value} (h : w.ownsRow B t z v n xs) (hk : v.ownBlock ≠ some k) : (w.setCell ⟨k, i, none⟩ x).ownsRow B t z v n xs := by
  refine ⟨h.1, ?_⟩
  rcases h.2 with h2 | ⟨g, cap, cur, rfl, hg, hh, h3⟩
  · exact .inl h2
  · exact .inr ⟨g, cap, cur, rfl, hg, set_far hh (fun e => hk (by subst e; rfl)), h3⟩
theorem own_other11 {W W' : World} {B t z n : Nat} {v : Value} {xs : List Value} {e : Option Nat} (h : W.ownsRow B t z v n xs) (hg : W.grownBy W' e) (hne : ∀ g, v.ownBlock = some g → e ≠ some g) : W'.ownsRow B t z v n xs :=
  h.kept hg (by
    cases hv : v.ownBlock with
    | none => exact .inl rfl
    | some g => exact .inr (fun e' => hne g hv e'.symm))
/-- five lists that a call owns -/
structure OwnX (W : World) (B : Nat) (s : SH) (X : SX) : Prop where
  o0 : W.ownsRow B 94 2 (.slice s.q0 s.n0 s.c0) s.n0 (R.regsV X.R)
  o1 : W.ownsRow B 98 2 (.slice s.q1 s.n1 s.c1) s.n1 (regsV X.W)
  o2 : W.ownsRow B 88 5 (.slice s.q2 s.n2 s.c2) s.n2 (prtV X.O)
  o3 : W.ownsRow B 104 3 (.slice s.q3 s.n3 s.c3) s.n3 (rulV X.U)
  o4 : W.ownsRow B 9 1 (.slice s.q4 s.n4 s.c4) s.n4 (S.strV X.S)
theorem OwnX.bel {W W' : World} {B : Nat} {s : SH} {X : SX} (h : OwnX W B s X) (hb : Below W.heap.size W W') : OwnX W' B s X :=
  ⟨own_keep h.o0 hb (own_lt h.o0), own_keep h.o1 hb (own_lt h.o1), own_keep h.o2 hb (own_lt h.o2), own_keep h.o3 hb (own_lt h.o3), own_keep h.o4 hb (own_lt h.o4)⟩
theorem OwnX.al {W : World} {B : Nat} {s : SH} {X : SX} (h : OwnX W B s X) (o : Obj) : OwnX (W.alloc o) B s X := h.bel ((Below.refl _ _).alloc (Nat.le_refl _) _)
theorem OwnX.set {W : World} {B k i : Nat} {s : SH} {X : SX} {x : Value} (h : OwnX W B s X) {cs : Array Value} {T : TypeId} (hk : W.heap[k]? = some (.cells cs T)) (hT : 94 ≠ T ∧ 98 ≠ T ∧ 88 ≠ T ∧ 104 ≠ T ∧ 9 ≠ T) : OwnX (W.setCell ⟨k, i, none⟩ x) B s X :=
  ⟨own_set11 h.o0 (own_far11 h.o0 hk hT.1), own_set11 h.o1 (own_far11 h.o1 hk hT.2.1), own_set11 h.o2 (own_far11 h.o2 hk hT.2.2.1), own_set11 h.o3 (own_far11 h.o3 hk hT.2.2.2.1), own_set11 h.o4 (own_far11 h.o4 hk hT.2.2.2.2)⟩
theorem OwnX.gr {W W' : World} {B k : Nat} {s : SH} {X : SX} (h : OwnX W B s X) {cs : Array Value} {T : TypeId} (hk : W.heap[k]? = some (.cells cs T)) (hT : 94 ≠ T ∧ 98 ≠ T ∧ 88 ≠ T ∧ 104 ≠ T ∧ 9 ≠ T) (hg : W.grownBy W' (some k)) : OwnX W' B s X :=
  ⟨own_other11 h.o0 hg (fun g e e2 => own_far11 h.o0 hk hT.1 (by cases e2; exact e)), own_other11 h.o1 hg (fun g e e2 => own_far11 h.o1 hk hT.2.1 (by cases e2; exact e)), own_other11 h.o2 hg (fun g e e2 => own_far11 h.o2 hk hT.2.2.1 (by cases e2; exact e)), own_other11 h.o3 hg (fun g e e2 => own_far11 h.o3 hk hT.2.2.2.1 (by cases e2; exact e)), own_other11 h.o4 hg (fun g e e2 => own_far11 h.o4 hk hT.2.2.2.2 (by cases e2; exact e))⟩
theorem OwnX.rd {W : World} {B : Nat} {s : SH} {X : SX} (h : OwnX W B s X) : RdX W s X := by
  obtain ⟨h0, h1, h2, h3, h4⟩ := h
  refine ⟨?_, ?_, ?_, ?_, OwnO.len h2, OwnO.rd h2, OwnU.len h3, OwnU.rd h3, by have := h4.1; rw [S.strV_len] at this; omega, S.rdS_own h4⟩
  · obtain ⟨_, _, _, _, hl, _⟩ := R.own_rdR h0; exact hl
  · obtain ⟨a, cap, hv, _, _, hr⟩ := R.own_rdR h0; cases hv; exact hr
  · obtain ⟨_, _, _, _, hl, _⟩ := own_rdR h1; exact hl
  · obtain ⟨a, cap, hv, _, _, hr⟩ := own_rdR h1; cases hv; exact hr
end Go.Proofs.YtphijlknefgkiaaGreatDoor

namespace Go.Proofs.YtphijlknefgkiaaGreatDoor
open Go.ChangeShapes Go.WideShapes Go.ChangeAt Go.RowKit Go.PlainAid
set_option linter.unusedVariables false

/-- the block has the same length and type, numbers where numbers were, texts where texts were, the same lists -/
def Sh (w w' : World) : Prop := ∀ (g : Nat) (cs : Array Value) (T : TypeId), w.heap[g]? = some (.cells cs T (0, 0)) → ∃ cs' : Array Value, w'.heap[g]? = some (.cells cs' T (0, 0)) ∧ cs'.size = cs.size ∧ ∀ i : Nat, (∀ z : Int, cs[i]? = some (.int .i64 z) → ∃ z', cs'[i]? = some (.int .i64 z')) ∧ (∀ q n c, cs[i]? = some (.slice q n c) → cs'[i]? = some (.slice q n c)) ∧ (∀ s, cs[i]? = some (.string s) → ∃ s', cs'[i]? = some (.string s'))
theorem Sh.refl (w : World) : Sh w w := fun g cs T h => ⟨cs, h, rfl, fun i => ⟨fun z hz => ⟨z, hz⟩, fun q n c hq => hq, fun s hs => ⟨s, hs⟩⟩⟩
theorem Sh.trans {a b c : World} (h : Sh a b) (k : Sh b c) : Sh a c := fun g cs T hg => by
  obtain ⟨c1, h1, s1, f1⟩ := h g cs T hg
  obtain ⟨c2, h2, s2, f2⟩ := k g c1 T h1
  refine ⟨c2, h2, s2.trans s1, fun i => ⟨fun z hz => ?_, fun q n c hq => ?_, fun s hs => ?_⟩⟩
  · obtain ⟨z1, hz1⟩ := (f1 i).1 z hz
    exact (f2 i).1 z1 hz1
  · exact (f2 i).2.1 q n c ((f1 i).2.1 q n c hq)
  · obtain ⟨z1, hz1⟩ := (f1 i).2.2 s hs
    exact (f2 i).2.2 z1 hz1
structure Mkd (lo hi : Nat) (w w' : World) : Prop where
  os : w'.os = w.os
  tape : w'.tape = w.tape
  output : w'.output = w.output
  size : w.heap.size ≤ w'.heap.size
  sh : Sh w w'
  far : ∀ g, g < w.heap.size → (g < lo ∨ hi ≤ g) → w'.heap[g]? = w.heap[g]?
theorem Mkd.refl (lo hi : Nat) (w : World) : Mkd lo hi w w := ⟨rfl, rfl, rfl, Nat.le_refl _, Sh.refl w, fun _ _ _ => rfl⟩
theorem Mkd.trans {lo hi : Nat} {a b c : World} (h : Mkd lo hi a b) (k : Mkd lo hi b c) : Mkd lo hi a c :=
  ⟨k.os.trans h.os, k.tape.trans h.tape, k.output.trans h.output, Nat.le_trans h.size k.size, h.sh.trans k.sh, fun g hg ho => (k.far g (Nat.lt_of_lt_of_le hg h.size) ho).trans (h.far g hg ho)⟩
theorem Mkd.of_below {lo hi : Nat} {w w' : World} (h : Below w.heap.size w w') : Mkd lo hi w w' :=
  ⟨h.os, h.tape, h.output, h.size, fun g cs T hg => ⟨cs, (h.block g (row_lt hg)).trans hg, rfl, fun i => ⟨fun z hz => ⟨z, hz⟩, fun q n c hq => hq, fun s hs => ⟨s, hs⟩⟩⟩, fun g hg _ => h.block g hg⟩
/-- what it means for what was there before: the blocks below lo and from hi on -/
theorem Mkd.below {lo hi : Nat} {w w' : World} (h : Mkd lo hi w w') : Below lo w w' ∨ w.heap.size < lo := by
  by_cases hl : lo ≤ w.heap.size
  · exact .inl ⟨h.os, h.tape, h.output, h.size, fun g hg => h.far g (by omega) (.inl hg)⟩
  · exact .inr (by omega)
theorem Mkd.row {lo hi g : Nat} {w w' : World} {o : Obj} (h : Mkd lo hi w w') (hr : w.heap[g]? = some o) (hg : g < lo ∨ hi ≤ g) : w'.heap[g]? = some o := (h.far g (row_lt hr) hg).trans hr
/-- a cell that holds a number, a text, a list -/
def IntC (w : World) (g i : Nat) : Prop := ∃ (cs : Array Value) (T : TypeId) (z : Int), w.heap[g]? = some (.cells cs T (0, 0)) ∧ cs[i]? = some (.int .i64 z)
def StrC (w : World) (g i : Nat) : Prop := ∃ (cs : Array Value) (T : TypeId) (s : ByteArray), w.heap[g]? = some (.cells cs T (0, 0)) ∧ cs[i]? = some (.string s)
def SliC (w : World) (g i : Nat) (q : Option Addr) (n c : Nat) : Prop := ∃ (cs : Array Value) (T : TypeId), w.heap[g]? = some (.cells cs T (0, 0)) ∧ cs[i]? = some (.slice q n c)
theorem IntC.mk' {lo hi g i : Nat} {w w' : World} (h : IntC w g i) (m : Mkd lo hi w w') : IntC w' g i := by
  obtain ⟨cs, T, z, h1, h2⟩ := h
  obtain ⟨c1, h3, _, f⟩ := m.sh g cs T h1
  obtain ⟨z1, hz⟩ := (f i).1 z h2
  exact ⟨c1, T, z1, h3, hz⟩
theorem StrC.mk' {lo hi g i : Nat} {w w' : World} (h : StrC w g i) (m : Mkd lo hi w w') : StrC w' g i := by
  obtain ⟨cs, T, z, h1, h2⟩ := h
  obtain ⟨c1, h3, _, f⟩ := m.sh g cs T h1
  obtain ⟨z1, hz⟩ := (f i).2.2 z h2
  exact ⟨c1, T, z1, h3, hz⟩
theorem SliC.mk' {lo hi g i n c : Nat} {q : Option Addr} {w w' : World} (h : SliC w g i q n c) (m : Mkd lo hi w w') : SliC w' g i q n c := by
  obtain ⟨cs, T, h1, h2⟩ := h
  obtain ⟨c1, h3, _, f⟩ := m.sh g cs T h1
  exact ⟨c1, T, h3, (f i).2.1 q n c h2⟩
theorem IntC.cell {w : World} {g i : Nat} (h : IntC w g i) : (∃ v, w.cell? ⟨g, i, none⟩ = some v) ∧ w.frozen? ⟨g, i, none⟩ = false := by
  obtain ⟨cs, T, z, h1, h2⟩ := h
  exact ⟨⟨_, (cell_of_row w g i _ _ (0, 0) h1).trans h2⟩, frozen_of_row w g i _ _ h1⟩
theorem StrC.cell {w : World} {g i : Nat} (h : StrC w g i) : (∃ v, w.cell? ⟨g, i, none⟩ = some v) ∧ w.frozen? ⟨g, i, none⟩ = false := by
  obtain ⟨cs, T, z, h1, h2⟩ := h
  exact ⟨⟨_, (cell_of_row w g i _ _ (0, 0) h1).trans h2⟩, frozen_of_row w g i _ _ h1⟩
theorem SliC.cell {w : World} {g i n c : Nat} {q : Option Addr} (h : SliC w g i q n c) : w.cell? ⟨g, i, none⟩ = some (.slice q n c) := by
  obtain ⟨cs, T, h1, h2⟩ := h
  exact (cell_of_row w g i _ _ (0, 0) h1).trans h2
theorem Mkd.set {lo hi g i : Nat} {w : World} (h : IntC w g i) (hlo : lo ≤ g) (hhi : g < hi) (z : Int) : Mkd lo hi w (w.setCell ⟨g, i, none⟩ (.int .i64 z)) := by
  obtain ⟨cs, T, z0, h1, h2⟩ := h
  refine ⟨rfl, rfl, rfl, by simp, fun b cb Tb hb => ?_, fun b hb ho => Below.heap_setCell _ _ _ _ (show b ≠ g by omega)⟩
  by_cases e : b = g
  · subst e
    rw [h1] at hb
    obtain ⟨rfl, rfl⟩ : cs = cb ∧ T = Tb := by simpa using hb
    refine ⟨_, heap_setCell_same w b i _ _ (.int .i64 z) h1, by simp, fun j => ?_⟩
    by_cases ej : j = i
    · subst ej
      have hj : j < cs.size := by have := Array.getElem?_eq_some_iff.1 h2; exact this.1
      refine ⟨fun z' _ => ⟨z, by simp [hj]⟩, fun q n c hq => ?_, fun s hs => ?_⟩
      · rw [h2] at hq; cases hq
      · rw [h2] at hs; cases hs
    · have e2 : (cs.setIfInBounds i (.int .i64 z))[j]? = cs[j]? := by simp [Ne.symm ej]
      rw [e2]
      exact ⟨fun z hz => ⟨z, hz⟩, fun q n c hq => hq, fun s hs => ⟨s, hs⟩⟩
  · exact ⟨cb, (Below.heap_setCell _ _ _ _ e).trans hb, rfl, fun j => ⟨fun z hz => ⟨z, hz⟩, fun q n c hq => hq, fun s hs => ⟨s, hs⟩⟩⟩
theorem Mkd.setS {lo hi g i : Nat} {w : World} (h : StrC w g i) (hlo : lo ≤ g) (hhi : g < hi) (z : ByteArray) : Mkd lo hi w (w.setCell ⟨g, i, none⟩ (.string z)) := by
  obtain ⟨cs, T, z0, h1, h2⟩ := h
  refine ⟨rfl, rfl, rfl, by simp, fun b cb Tb hb => ?_, fun b hb ho => Below.heap_setCell _ _ _ _ (show b ≠ g by omega)⟩
  by_cases e : b = g
  · subst e
    rw [h1] at hb
    obtain ⟨rfl, rfl⟩ : cs = cb ∧ T = Tb := by simpa using hb
    refine ⟨_, heap_setCell_same w b i _ _ (.string z) h1, by simp, fun j => ?_⟩
    by_cases ej : j = i
    · subst ej
      have hj : j < cs.size := by have := Array.getElem?_eq_some_iff.1 h2; exact this.1
      refine ⟨fun z' hz' => ?_, fun q n c hq => ?_, fun s hs => ⟨z, by simp [hj]⟩⟩
      · rw [h2] at hz'; cases hz'
      · rw [h2] at hq; cases hq
    · have e2 : (cs.setIfInBounds i (.string z))[j]? = cs[j]? := by simp [Ne.symm ej]
      rw [e2]
      exact ⟨fun z hz => ⟨z, hz⟩, fun q n c hq => hq, fun s hs => ⟨s, hs⟩⟩
  · exact ⟨cb, (Below.heap_setCell _ _ _ _ e).trans hb, rfl, fun j => ⟨fun z hz => ⟨z, hz⟩, fun q n c hq => hq, fun s hs => ⟨s, hs⟩⟩⟩
/-- how far the marking has come; the numbers' cells of block g are those of which I says so -/
structure MkSt (I : Nat → Prop) (lo hi : Nat) (w W : World) (g : Nat) : Prop where
  m : Mkd lo hi w W
  c : ∀ i, I i → IntC W g i
  l : lo ≤ g
  h : g < hi
theorem listStoreK {I : Nat → Prop} {lo hi : Nat} {w0 w : World} {ops : Array Oper} {rest : List Oper} {o : Oper} {a : Act} {Q : Exit → Act → World → Prop} (hgd : o.guard = none) (hd : o.dst = none) (x y : Operand) (ty : TypeId) (ho : o.op = .store ty x y) (hty : ty = 3)
    (g i : Nat) (z : Int) (hx : a.eval x = .pointer (some ⟨g, i, none⟩)) (hy : a.eval y = .int .i64 z) (hS : MkSt I lo hi w0 w g) (hI : I i)
    (h : ∀ w', MkSt I lo hi w0 w' g → wpList Tryz.prog ops Q rest a w') : wpList Tryz.prog ops Q (o :: rest) a w := by
  have hc := (hS.c i hI).cell
  refine listStoreC hgd hd x y ty ho hty g i z hx hy hc.1 hc.2 ?_
  rintro w' rfl
  have hm := Mkd.set (hS.c i hI) hS.l hS.h z
  exact h _ ⟨hS.m.trans hm, fun j hj => (hS.c j hj).mk' hm, hS.l, hS.h⟩
set_option maxRecDepth 100000 in
set_option maxHeartbeats 4000000 in
theorem mkwI (g n lo hi : Nat) (k : Int) (k0 : 0 ≤ k) (k1 : k ≤ 1000000000000000) (hn : n ≤ 1048576) (w : World) (hc : ∀ i, i < n * 1 → IntC w g i) (hlo : lo ≤ g) (hhi : g < hi) :
    Calls Tryz.prog 47 #[.slice (some ⟨g, 0, none⟩) n n, .int .i64 k] w fun e w' => e = .returned (.int .i64 (k + n)) ∧ Mkd lo hi w w' := by
  have HC : Hid (∀ i, i < n * 1 → IntC w g i) := hc
  clear hc
  go_enter Tryz.func47, Tryz.ntmps47
  go_wp2
  go_loopg [1, 5] n (fun gk kv i wr => ∃ j : Nat, j + gk = n ∧ kv = .int .i64 (k + (j : Int)) ∧ i = .int .i64 j ∧ Hid (Mkd lo hi w wr))
  case atStart => exact ⟨0, by omega, by simp, rfl, Mkd.refl _ _ _⟩
  case round =>
    obtain ⟨j, hj, rfl, rfl, HM⟩ := hrel
    by_cases hlt : j < n
    · have hS : MkSt (fun i => i < n * 1) lo hi w wr g := ⟨HM.out, fun i hi => (HC.out i hi).mk' HM.out, hlo, hhi⟩
      clear HM
      go_wp2_with (refine listStoreK rfl rfl _ _ _ rfl rfl g _ _ rfl rfl (by assumption) (by omega) ?_; intro W hS)
      have HM' : Hid (Mkd lo hi w W) := hS.m
      clear hS
      go_roundg (gk - 1)
      case measure => omega
      case rel => exact ⟨j + 1, by omega, by go_num, by go_num, HM'⟩
    · obtain rfl : j = n := by omega
      go_wp2
      go_ret
      exact ⟨rfl, HM.out⟩
set_option maxRecDepth 100000 in
set_option maxHeartbeats 4000000 in
theorem mkwR (g n lo hi : Nat) (k : Int) (k0 : 0 ≤ k) (k1 : k ≤ 1000000000000000) (hn : n ≤ 1048576) (w : World) (hc : ∀ i, i < n * 2 → IntC w g i) (hlo : lo ≤ g) (hhi : g < hi) :
    Calls Tryz.prog 39 #[.slice (some ⟨g, 0, none⟩) n n, .int .i64 k] w fun e w' => e = .returned (.int .i64 (k + 2 * n)) ∧ Mkd lo hi w w' := by
  have HC : Hid (∀ i, i < n * 2 → IntC w g i) := hc
  clear hc
  go_enter Tryz.func39, Tryz.ntmps39
  go_wp2
  go_loopg [1, 5] n (fun gk kv i wr => ∃ j : Nat, j + gk = n ∧ kv = .int .i64 (k + 2 * (j : Int)) ∧ i = .int .i64 j ∧ Hid (Mkd lo hi w wr))
  case atStart => exact ⟨0, by omega, by simp, rfl, Mkd.refl _ _ _⟩
  case round =>
    obtain ⟨j, hj, rfl, rfl, HM⟩ := hrel
    by_cases hlt : j < n
    · have hS : MkSt (fun i => i < n * 2) lo hi w wr g := ⟨HM.out, fun i hi => (HC.out i hi).mk' HM.out, hlo, hhi⟩
      clear HM
      go_wp2_with (refine listStoreK rfl rfl _ _ _ rfl rfl g _ _ rfl rfl (by assumption) (by omega) ?_; intro W hS)
      have HM' : Hid (Mkd lo hi w W) := hS.m
      clear hS
      go_roundg (gk - 1)
      case measure => omega
      case rel => exact ⟨j + 1, by omega, by go_num, by go_num, HM'⟩
    · obtain rfl : j = n := by omega
      go_wp2
      go_ret
      exact ⟨rfl, HM.out⟩
set_option maxRecDepth 100000 in
set_option maxHeartbeats 4000000 in
theorem mkwW (g n lo hi : Nat) (k : Int) (k0 : 0 ≤ k) (k1 : k ≤ 1000000000000000) (hn : n ≤ 1048576) (w : World) (hc : ∀ i, i < n * 2 → IntC w g i) (hlo : lo ≤ g) (hhi : g < hi) :
    Calls Tryz.prog 40 #[.slice (some ⟨g, 0, none⟩) n n, .int .i64 k] w fun e w' => e = .returned (.int .i64 (k + 2 * n)) ∧ Mkd lo hi w w' := by
  have HC : Hid (∀ i, i < n * 2 → IntC w g i) := hc
  clear hc
  go_enter Tryz.func40, Tryz.ntmps40
  go_wp2
  go_loopg [1, 5] n (fun gk kv i wr => ∃ j : Nat, j + gk = n ∧ kv = .int .i64 (k + 2 * (j : Int)) ∧ i = .int .i64 j ∧ Hid (Mkd lo hi w wr))
  case atStart => exact ⟨0, by omega, by simp, rfl, Mkd.refl _ _ _⟩
  case round =>
    obtain ⟨j, hj, rfl, rfl, HM⟩ := hrel
    by_cases hlt : j < n
    · have hS : MkSt (fun i => i < n * 2) lo hi w wr g := ⟨HM.out, fun i hi => (HC.out i hi).mk' HM.out, hlo, hhi⟩
      clear HM
      go_wp2_with (refine listStoreK rfl rfl _ _ _ rfl rfl g _ _ rfl rfl (by assumption) (by omega) ?_; intro W hS)
      have HM' : Hid (Mkd lo hi w W) := hS.m
      clear hS
      go_roundg (gk - 1)
      case measure => omega
      case rel => exact ⟨j + 1, by omega, by go_num, by go_num, HM'⟩
    · obtain rfl : j = n := by omega
      go_wp2
      go_ret
      exact ⟨rfl, HM.out⟩
set_option maxRecDepth 100000 in
set_option maxHeartbeats 4000000 in
theorem mkwM (g n lo hi : Nat) (k : Int) (k0 : 0 ≤ k) (k1 : k ≤ 1000000000000000) (hn : n ≤ 1048576) (w : World) (hc : ∀ i, i < n * 2 → IntC w g i) (hlo : lo ≤ g) (hhi : g < hi) :
    Calls Tryz.prog 80 #[.slice (some ⟨g, 0, none⟩) n n, .int .i64 k] w fun e w' => e = .returned (.int .i64 (k + 2 * n)) ∧ Mkd lo hi w w' := by
  have HC : Hid (∀ i, i < n * 2 → IntC w g i) := hc
  clear hc
  go_enter Tryz.func80, Tryz.ntmps80
  go_wp2
  go_loopg [1, 5] n (fun gk kv i wr => ∃ j : Nat, j + gk = n ∧ kv = .int .i64 (k + 2 * (j : Int)) ∧ i = .int .i64 j ∧ Hid (Mkd lo hi w wr))
  case atStart => exact ⟨0, by omega, by simp, rfl, Mkd.refl _ _ _⟩
  case round =>
    obtain ⟨j, hj, rfl, rfl, HM⟩ := hrel
    by_cases hlt : j < n
    · have hS : MkSt (fun i => i < n * 2) lo hi w wr g := ⟨HM.out, fun i hi => (HC.out i hi).mk' HM.out, hlo, hhi⟩
      clear HM
      go_wp2_with (refine listStoreK rfl rfl _ _ _ rfl rfl g _ _ rfl rfl (by assumption) (by omega) ?_; intro W hS)
      have HM' : Hid (Mkd lo hi w W) := hS.m
      clear hS
      go_roundg (gk - 1)
      case measure => omega
      case rel => exact ⟨j + 1, by omega, by go_num, by go_num, HM'⟩
    · obtain rfl : j = n := by omega
      go_wp2
      go_ret
      exact ⟨rfl, HM.out⟩
set_option maxRecDepth 100000 in
set_option maxHeartbeats 4000000 in
theorem mkwU (g n lo hi : Nat) (k : Int) (k0 : 0 ≤ k) (k1 : k ≤ 1000000000000000) (hn : n ≤ 1048576) (w : World) (hc : ∀ i, i < n * 3 → IntC w g i) (hlo : lo ≤ g) (hhi : g < hi) :
    Calls Tryz.prog 42 #[.slice (some ⟨g, 0, none⟩) n n, .int .i64 k] w fun e w' => e = .returned (.int .i64 (k + 3 * n)) ∧ Mkd lo hi w w' := by
  have HC : Hid (∀ i, i < n * 3 → IntC w g i) := hc
  clear hc
  go_enter Tryz.func42, Tryz.ntmps42
  go_wp2
  go_loopg [1, 5] n (fun gk kv i wr => ∃ j : Nat, j + gk = n ∧ kv = .int .i64 (k + 3 * (j : Int)) ∧ i = .int .i64 j ∧ Hid (Mkd lo hi w wr))
  case atStart => exact ⟨0, by omega, by simp, rfl, Mkd.refl _ _ _⟩
  case round =>
    obtain ⟨j, hj, rfl, rfl, HM⟩ := hrel
    by_cases hlt : j < n
    · have hS : MkSt (fun i => i < n * 3) lo hi w wr g := ⟨HM.out, fun i hi => (HC.out i hi).mk' HM.out, hlo, hhi⟩
      clear HM
      go_wp2_with (refine listStoreK rfl rfl _ _ _ rfl rfl g _ _ rfl rfl (by assumption) (by omega) ?_; intro W hS)
      have HM' : Hid (Mkd lo hi w W) := hS.m
      clear hS
      go_roundg (gk - 1)
      case measure => omega
      case rel => exact ⟨j + 1, by omega, by go_num, by go_num, HM'⟩
    · obtain rfl : j = n := by omega
      go_wp2
      go_ret
      exact ⟨rfl, HM.out⟩
set_option maxRecDepth 100000 in
set_option maxHeartbeats 4000000 in
theorem mkwO (g n lo hi : Nat) (k : Int) (k0 : 0 ≤ k) (k1 : k ≤ 1000000000000000) (hn : n ≤ 1048576) (w : World) (hc : ∀ i, i < n * 5 → IntC w g i) (hlo : lo ≤ g) (hhi : g < hi) :
    Calls Tryz.prog 41 #[.slice (some ⟨g, 0, none⟩) n n, .int .i64 k] w fun e w' => e = .returned (.int .i64 (k + 5 * n)) ∧ Mkd lo hi w w' := by
  have HC : Hid (∀ i, i < n * 5 → IntC w g i) := hc
  clear hc
  go_enter Tryz.func41, Tryz.ntmps41
  go_wp2
  go_loopg [1, 5] n (fun gk kv i wr => ∃ j : Nat, j + gk = n ∧ kv = .int .i64 (k + 5 * (j : Int)) ∧ i = .int .i64 j ∧ Hid (Mkd lo hi w wr))
  case atStart => exact ⟨0, by omega, by simp, rfl, Mkd.refl _ _ _⟩
  case round =>
    obtain ⟨j, hj, rfl, rfl, HM⟩ := hrel
    by_cases hlt : j < n
    · have hS : MkSt (fun i => i < n * 5) lo hi w wr g := ⟨HM.out, fun i hi => (HC.out i hi).mk' HM.out, hlo, hhi⟩
      clear HM
      go_wp2_with (refine listStoreK rfl rfl _ _ _ rfl rfl g _ _ rfl rfl (by assumption) (by omega) ?_; intro W hS)
      have HM' : Hid (Mkd lo hi w W) := hS.m
      clear hS
      go_roundg (gk - 1)
      case measure => omega
      case rel => exact ⟨j + 1, by omega, by go_num, by go_num, HM'⟩
    · obtain rfl : j = n := by omega
      go_wp2
      go_ret
      exact ⟨rfl, HM.out⟩
set_option maxRecDepth 100000 in
set_option maxHeartbeats 4000000 in
theorem mkwE (g n lo hi : Nat) (k : Int) (k0 : 0 ≤ k) (k1 : k ≤ 1000000000000000) (hn : n ≤ 1048576) (w : World) (hc : ∀ i, i < n * 5 → IntC w g i) (hlo : lo ≤ g) (hhi : g < hi) :
    Calls Tryz.prog 48 #[.slice (some ⟨g, 0, none⟩) n n, .int .i64 k] w fun e w' => e = .returned (.int .i64 (k + 5 * n)) ∧ Mkd lo hi w w' := by
  have HC : Hid (∀ i, i < n * 5 → IntC w g i) := hc
  clear hc
  go_enter Tryz.func48, Tryz.ntmps48
  go_wp2
  go_loopg [1, 5] n (fun gk kv i wr => ∃ j : Nat, j + gk = n ∧ kv = .int .i64 (k + 5 * (j : Int)) ∧ i = .int .i64 j ∧ Hid (Mkd lo hi w wr))
  case atStart => exact ⟨0, by omega, by simp, rfl, Mkd.refl _ _ _⟩
  case round =>
    obtain ⟨j, hj, rfl, rfl, HM⟩ := hrel
    by_cases hlt : j < n
    · have hS : MkSt (fun i => i < n * 5) lo hi w wr g := ⟨HM.out, fun i hi => (HC.out i hi).mk' HM.out, hlo, hhi⟩
      clear HM
      go_wp2_with (refine listStoreK rfl rfl _ _ _ rfl rfl g _ _ rfl rfl (by assumption) (by omega) ?_; intro W hS)
      have HM' : Hid (Mkd lo hi w W) := hS.m
      clear hS
      go_roundg (gk - 1)
      case measure => omega
      case rel => exact ⟨j + 1, by omega, by go_num, by go_num, HM'⟩
    · obtain rfl : j = n := by omega
      go_wp2
      go_ret
      exact ⟨rfl, HM.out⟩
set_option maxRecDepth 100000 in
set_option maxHeartbeats 400000 in
theorem mtW (k : Nat) (h0 : 0 < k) (hk : k ≤ 100000000) (w : World) :
    Calls Tryz.prog 79 #[.int .i64 k] w fun e w' => e = .returned (.string (S.mk k)) ∧ Below w.heap.size w w' := by
  go_enter Tryz.func79, Tryz.ntmps79
  go_wp2
  go_loopw [0, 3] (fun nv sv wr => ∃ (f u : Nat) (acc : List UInt8), nv = .int .i64 u ∧ sv = .string ⟨acc.toArray⟩ ∧ u ≤ 100000000 ∧ acc.length + f = 20 ∧ u ≤ f * 100000000 ∧ Hid (u < 10 ^ f) ∧ Hid (S.mkF f u acc = S.mkF 20 k []) ∧ Below w.heap.size w wr) (fun nv _ _ => (intOf nv).toNat)
  case atStart => exact ⟨20, k, [], rfl, rfl, hk, by simp, by omega, (show Hid _ from Nat.lt_of_le_of_lt hk (by decide)), (show Hid _ from rfl), Below.refl _ _⟩
  case round =>
    obtain ⟨f, u, acc, rfl, rfl, hu, hl, _, HP, HD, hnx⟩ := hrel
    have hsz : (ByteArray.mk acc.toArray).size ≤ 20 := by rw [S.acc_size]; omega
    by_cases hu0 : u = 0
    · subst hu0
      have HE : Hid (acc = S.mkF 20 k []) := by have := HD.out; rw [S.mkF_zero] at this; exact this
      go_wp2
      go_ret
      exact ⟨by unfold S.mk; rw [← HE.out]; exact congrArg (fun x => Ending.returned (Value.string x)) (S.cat_one 109 acc), hnx⟩
    · have hpos : 0 < u := by omega
      cases f with
      | zero => exact absurd HP.out (by simp; omega)
      | succ f =>
        have hf : 0 < f ∨ u < 10 := by
          by_cases h : f = 0
          · subst h; right; simpa using HP.out
          · left; omega
        have HP' : Hid (u / 10 < 10 ^ f) := by have := HP.out; rw [Nat.pow_succ] at this; show u / 10 < 10 ^ f; omega
        have HD' : Hid (S.mkF f (u / 10) (S.fb (u % 10) :: acc) = S.mkF 20 k []) := by have := HD.out; rw [S.mkF_step hu0] at this; exact this
        have hone := S.one_text (S.fb (u % 10)) wr
        rw [show ((S.fb (u % 10)).toNat : Int) = 48 + (u : Int) % 10 by rw [S.fb_nat (by omega)]; omega] at hone
        clear HP HD
        go_wp2
        go_roundw
        case rel => exact ⟨f, u / 10, S.fb (u % 10) :: acc, by go_num, by rw [S.cat_one], by omega, by simp; omega, by omega, HP', HD', hnx.alloc hnx.size _⟩
        case measure => simp [intOf]; omega
theorem storeS_run {w : World} (g i : Nat) (z : ByteArray) {v : Value} (hc : w.cell? ⟨g, i, none⟩ = some v) (hf : w.frozen? ⟨g, i, none⟩ = false) :
    (Instr.storeAt 9 (.pointer (some ⟨g, i, none⟩)) (.string z)).run Tryz.prog w = .ok () (w.setCell ⟨g, i, none⟩ (.string z)) := by
  simp [go_sem, Instr.storeAt, hc, hf]
set_option maxRecDepth 100000 in
set_option maxHeartbeats 2000000 in
theorem mkwS (g n lo hi : Nat) (k : Int) (k0 : 0 < k) (k1 : k ≤ 50000000) (hn : n ≤ 1048576) (w : World) (hc : ∀ i, i < n → StrC w g i) (hlo : lo ≤ g) (hhi : g < hi) :
    Calls Tryz.prog 43 #[.slice (some ⟨g, 0, none⟩) n n, .int .i64 k] w fun e w' => e = .returned (.int .i64 (k + n)) ∧ Mkd lo hi w w' := by
  have HC : Hid (∀ i, i < n → StrC w g i) := hc
  clear hc
  obtain ⟨kn, rfl⟩ : ∃ kn : Nat, k = kn := ⟨k.toNat, by omega⟩
  go_enter Tryz.func43, Tryz.ntmps43
  go_wp2
  go_loopg [1, 5] n (fun gk kv i wr => ∃ j : Nat, j + gk = n ∧ kv = .int .i64 (kn + j : Nat) ∧ i = .int .i64 j ∧ Hid (Mkd lo hi w wr))
  case atStart => exact ⟨0, by omega, rfl, rfl, Mkd.refl _ _ _⟩
  case round =>
    obtain ⟨j, hj, rfl, rfl, HM⟩ := hrel
    by_cases hlt : j < n
    · have HSC : Hid (StrC wr g j) := (HC.out j hlt).mk' HM.out
      go_wp2_with fail
      refine (mtW (kn + j) (by omega) (by omega) _).mono ?_
      rintro e w1 ⟨rfl, hb1⟩
      have HSC1 : Hid (StrC w1 g j) := HSC.out.mk' (Mkd.of_below (lo := lo) (hi := hi) hb1)
      obtain ⟨⟨v, hv⟩, hf⟩ := HSC1.out.cell
      have HM' : Hid (Mkd lo hi w (w1.setCell ⟨g, j, none⟩ (.string (S.mk (kn + j))))) := (HM.out.trans (Mkd.of_below hb1)).trans (Mkd.setS HSC1.out hlo hhi _)
      clear HM HSC HSC1 hb1
      go_wp2
      go_roundg (gk - 1)
      case measure => omega
      case rel => exact ⟨j + 1, by omega, by go_num, by go_num, HM'⟩
    · obtain rfl : j = n := by omega
      go_wp2
      go_ret
      exact ⟨by go_num, HM.out⟩
theorem mkwA (g n lo hi : Nat) (k : Int) (k0 : 0 ≤ k) (k1 : k ≤ 1000000000000000) (hn : n ≤ 1048576) (w : World) (hc : ∀ i, i < n * 1 → IntC w g i) (hlo : lo ≤ g) (hhi : g < hi) :
    Calls Tryz.prog 44 #[.agg #[.slice (some ⟨g, 0, none⟩) n n], .int .i64 k] w fun e w' => e = .returned (.int .i64 (k + n)) ∧ Mkd lo hi w w' := by
  have HB : Hid (Below w.heap.size w (w.alloc (.cells #[.slice (some ⟨g, 0, none⟩) n n] 38))) := (Below.refl _ _).alloc (Nat.le_refl _) _
  have HC : Hid (∀ i, i < n * 1 → IntC (w.alloc (.cells #[.slice (some ⟨g, 0, none⟩) n n] 38)) g i) := fun i hi' => (hc i hi').mk' (Mkd.of_below (lo := lo) (hi := hi) HB.out)
  clear hc
  go_enter Tryz.func44, Tryz.ntmps44
  go_wp2_with fail
  refine (mkwI g n lo hi k k0 k1 hn _ HC.out hlo hhi).mono ?_
  rintro e w1 ⟨rfl, hm⟩
  have HM : Hid (Mkd lo hi w w1) := (Mkd.of_below HB.out).trans hm
  clear hm
  go_wp2
  go_ret
  exact ⟨rfl, HM.out⟩
set_option maxRecDepth 100000 in
set_option maxHeartbeats 2000000 in
theorem mkwLs (g n lo hi : Nat) (b m : Nat → Nat) (k : Int) (k0 : 0 ≤ k) (k1 : k ≤ 100000000000000) (hn : n ≤ 1048576) (w : World) (hs : ∀ j, j < n → SliC w g j (some ⟨b j, 0, none⟩) (m j) (m j)) (hm : ∀ j, j < n → m j ≤ 1048576) (hc : ∀ j, j < n → ∀ i, i < m j * 2 → IntC w (b j) i) (hb : ∀ j, j < n → lo ≤ b j ∧ b j < hi) :
    Calls Tryz.prog 46 #[.slice (some ⟨g, 0, none⟩) n n, .int .i64 k] w fun e w' => ∃ r : Int, e = .returned (.int .i64 r) ∧ k ≤ r ∧ r ≤ k + 2097152 * n ∧ Mkd lo hi w w' := by
  have HS : Hid (∀ j, j < n → SliC w g j (some ⟨b j, 0, none⟩) (m j) (m j)) := hs
  have HC : Hid (∀ j, j < n → ∀ i, i < m j * 2 → IntC w (b j) i) := hc
  have HMm : Hid (∀ j, j < n → m j ≤ 1048576) := hm
  have HBb : Hid (∀ j, j < n → lo ≤ b j ∧ b j < hi) := hb
  clear hs hc hm hb
  go_enter Tryz.func46, Tryz.ntmps46
  go_wp2
  go_loopg [1, 5] n (fun gk kv i wr => ∃ (j : Nat) (x : Int), j + gk = n ∧ kv = .int .i64 x ∧ i = .int .i64 j ∧ k ≤ x ∧ x ≤ k + 2097152 * j ∧ Hid (Mkd lo hi w wr))
  case atStart => exact ⟨0, k, by omega, rfl, rfl, by omega, by omega, Mkd.refl _ _ _⟩
  case round =>
    obtain ⟨j, x, hj, rfl, rfl, x0, x1, HM⟩ := hrel
    by_cases hlt : j < n
    · have hcell := ((HS.out j hlt).mk' HM.out).cell
      have hmj := HMm.out j hlt
      have HIC : Hid (∀ i, i < m j * 2 → IntC wr (b j) i) := fun i h => (HC.out j hlt i h).mk' HM.out
      have hbj := HBb.out j hlt
      generalize b j = bj at *
      generalize m j = mj at *
      go_wp2_with fail
      refine (mkwM bj mj lo hi x (by omega) (by omega) hmj _ HIC.out hbj.1 hbj.2).mono ?_
      rintro e w1 ⟨rfl, hm1⟩
      have HM' : Hid (Mkd lo hi w w1) := HM.out.trans hm1
      clear HM hm1 HIC hcell hbj
      go_wp2
      go_roundg (gk - 1)
      case measure => omega
      case rel => exact ⟨j + 1, x + 2 * mj, by omega, by go_num, by go_num, by omega, by omega, HM'⟩
    · obtain rfl : j = n := by omega
      go_wp2
      go_ret
      exact ⟨x, rfl, x0, x1, HM.out⟩
def pcelI (n i : Nat) : Prop := i < n * 6 ∧ i % 6 ≠ 2
theorem pcelI_0 {n j : Nat} (h : j < n) : pcelI n (j * 6) := ⟨by omega, by omega⟩
theorem pcelI_1 {n j : Nat} (h : j < n) : pcelI n (j * 6 + 1) := ⟨by omega, by omega⟩
theorem pcelI_3 {n j : Nat} (h : j < n) : pcelI n (j * 6 + 3) := ⟨by omega, by omega⟩
theorem pcelI_4 {n j : Nat} (h : j < n) : pcelI n (j * 6 + 4) := ⟨by omega, by omega⟩
theorem pcelI_5 {n j : Nat} (h : j < n) : pcelI n (j * 6 + 5) := ⟨by omega, by omega⟩
set_option maxRecDepth 100000 in
set_option maxHeartbeats 4000000 in
theorem mkwPs (g n lo hi : Nat) (b m : Nat → Nat) (k : Int) (k0 : 0 ≤ k) (k1 : k ≤ 100000000000000) (hn : n ≤ 1048576) (w : World) (hi0 : ∀ i, pcelI n i → IntC w g i) (hs : ∀ j, j < n → SliC w g (j * 6 + 2) (some ⟨b j, 0, none⟩) (m j) (m j)) (hm : ∀ j, j < n → m j ≤ 1048576) (hc : ∀ j, j < n → ∀ i, i < m j * 1 → IntC w (b j) i) (hb : ∀ j, j < n → lo ≤ b j ∧ b j < hi) (hlo : lo ≤ g) (hhi : g < hi) :
    Calls Tryz.prog 45 #[.slice (some ⟨g, 0, none⟩) n n, .int .i64 k] w fun e w' => ∃ r : Int, e = .returned (.int .i64 r) ∧ k ≤ r ∧ r ≤ k + 2097152 * n ∧ Mkd lo hi w w' := by
  have HI0 : Hid (∀ i, pcelI n i → IntC w g i) := hi0
  have HS : Hid (∀ j, j < n → SliC w g (j * 6 + 2) (some ⟨b j, 0, none⟩) (m j) (m j)) := hs
  have HC : Hid (∀ j, j < n → ∀ i, i < m j * 1 → IntC w (b j) i) := hc
  have HMm : Hid (∀ j, j < n → m j ≤ 1048576) := hm
  have HBb : Hid (∀ j, j < n → lo ≤ b j ∧ b j < hi) := hb
  clear hs hc hm hb hi0
  go_enter Tryz.func45, Tryz.ntmps45
  go_wp2
  go_loopg [1, 5] n (fun gk kv i wr => ∃ (j : Nat) (x : Int), j + gk = n ∧ kv = .int .i64 x ∧ i = .int .i64 j ∧ k ≤ x ∧ x ≤ k + 2097152 * j ∧ Hid (Mkd lo hi w wr))
  case atStart => exact ⟨0, k, by omega, rfl, rfl, by omega, by omega, Mkd.refl _ _ _⟩
  case round =>
    obtain ⟨j, x, hj, rfl, rfl, x0, x1, HM⟩ := hrel
    by_cases hlt : j < n
    · have HLT : Hid (j < n) := hlt
      have hS : MkSt (pcelI n) lo hi w wr g := ⟨HM.out, fun i hi' => (HI0.out i hi').mk' HM.out, hlo, hhi⟩
      have hmj := HMm.out j hlt
      have hbj := HBb.out j hlt
      have HS1 : Hid (SliC w g (j * 6 + 2) (some ⟨b j, 0, none⟩) (m j) (m j)) := HS.out j hlt
      have HC1 : Hid (∀ i, i < m j * 1 → IntC w (b j) i) := HC.out j hlt
      generalize b j = bj at *
      generalize m j = mj at *
      clear HM
      go_wp2_with (first | (go_at_call 47; refine (mkwI bj mj lo hi _ (by omega) (by omega) hmj _ (fun i h => (HC1.out i h).mk' hS.m) hbj.1 hbj.2).mono ?_; rintro e w1 ⟨rfl, hm1⟩; have hS : MkSt (pcelI n) lo hi w w1 g := ⟨hS.m.trans hm1, fun i hi' => (HI0.out i hi').mk' (hS.m.trans hm1), hlo, hhi⟩; clear hm1) | (refine listStoreK rfl rfl _ _ _ rfl rfl g _ _ rfl rfl (by assumption) (by first | exact pcelI_0 HLT.out | exact pcelI_1 HLT.out | exact pcelI_3 HLT.out | exact pcelI_4 HLT.out | exact pcelI_5 HLT.out) ?_; intro W hS; have hcell := (HS1.out.mk' hS.m).cell))
      have HM' : Hid (Mkd lo hi w W) := hS.m
      clear hS
      go_roundg (gk - 1)
      case measure => omega
      case rel => exact ⟨j + 1, x + 5 + mj, by omega, by go_num, by go_num, by omega, by omega, HM'⟩
    · obtain rfl : j = n := by omega
      go_wp2
      go_ret
      exact ⟨x, rfl, x0, x1, HM.out⟩
end Go.Proofs.YtphijlknefgkiaaGreatDoor

namespace Go.Proofs.YtphijlknefgkiaaGreatDoor
open Go.ChangeShapes Go.WideShapes Go.ChangeAt Go.RowKit Go.PlainAid
set_option linter.unusedVariables false

theorem intC_row {w : World} {g : Nat} {T : TypeId} {xs : List Value} {N : Nat} (h : w.heap[g]? = some (.cells xs.toArray T (0, 0))) (hl : xs.length = N) (ha : ∀ v ∈ xs, ∃ z, v = .int .i64 z) : ∀ i, i < N → IntC w g i := fun i hi => by
  have hi' : i < xs.length := by omega
  obtain ⟨z, hz⟩ := ha xs[i] (List.getElem_mem hi')
  exact ⟨_, T, z, h, by simp [hi', hz]⟩
theorem strC_row {w : World} {g : Nat} {T : TypeId} {xs : List Value} {N : Nat} (h : w.heap[g]? = some (.cells xs.toArray T (0, 0))) (hl : xs.length = N) (ha : ∀ v ∈ xs, ∃ z, v = .string z) : ∀ i, i < N → StrC w g i := fun i hi => by
  have hi' : i < xs.length := by omega
  obtain ⟨z, hz⟩ := ha xs[i] (List.getElem_mem hi')
  exact ⟨_, T, z, h, by simp [hi', hz]⟩
theorem int_R : ∀ (l : List (Int × Int)) (v : Value), v ∈ R.regsV l → ∃ z, v = .int .i64 z
  | [], v, h => by simp [R.regsV] at h
  | r :: l, v, h => by
    simp [R.regsV] at h
    rcases h with (rfl | rfl | h)
    · exact ⟨_, rfl⟩
    · exact ⟨_, rfl⟩
    · exact int_R l v h
theorem int_W : ∀ (l : List (Int × Int)) (v : Value), v ∈ regsV l → ∃ z, v = .int .i64 z
  | [], v, h => by simp [regsV] at h
  | r :: l, v, h => by
    simp [regsV] at h
    rcases h with (rfl | rfl | h)
    · exact ⟨_, rfl⟩
    · exact ⟨_, rfl⟩
    · exact int_W l v h
theorem int_M : ∀ (l : List (Int × Int)) (v : Value), v ∈ P.regsV l → ∃ z, v = .int .i64 z
  | [], v, h => by simp [P.regsV] at h
  | r :: l, v, h => by
    simp [P.regsV] at h
    rcases h with (rfl | rfl | h)
    · exact ⟨_, rfl⟩
    · exact ⟨_, rfl⟩
    · exact int_M l v h
theorem int_U : ∀ (l : List (Rule)) (v : Value), v ∈ rulV l → ∃ z, v = .int .i64 z
  | [], v, h => by simp [rulV] at h
  | r :: l, v, h => by
    simp [rulV] at h
    rcases h with (rfl | rfl | rfl | h)
    · exact ⟨_, rfl⟩
    · exact ⟨_, rfl⟩
    · exact ⟨_, rfl⟩
    · exact int_U l v h
theorem int_O : ∀ (l : List (Prt)) (v : Value), v ∈ prtV l → ∃ z, v = .int .i64 z
  | [], v, h => by simp [prtV] at h
  | r :: l, v, h => by
    simp [prtV] at h
    rcases h with (rfl | rfl | rfl | rfl | rfl | h)
    · exact ⟨_, rfl⟩
    · exact ⟨_, rfl⟩
    · exact ⟨_, rfl⟩
    · exact ⟨_, rfl⟩
    · exact ⟨_, rfl⟩
    · exact int_O l v h
theorem int_E : ∀ (l : List (Ent)) (v : Value), v ∈ entV l → ∃ z, v = .int .i64 z
  | [], v, h => by simp [entV] at h
  | r :: l, v, h => by
    simp [entV] at h
    rcases h with (rfl | rfl | rfl | rfl | rfl | h)
    · exact ⟨_, rfl⟩
    · exact ⟨_, rfl⟩
    · exact ⟨_, rfl⟩
    · exact ⟨_, rfl⟩
    · exact ⟨_, rfl⟩
    · exact int_E l v h
theorem int_I (l : List Int) (v : Value) (h : v ∈ intsV l) : ∃ z, v = .int .i64 z := by
  simp [intsV] at h
  obtain ⟨z, _, rfl⟩ := h
  exact ⟨z, rfl⟩
theorem str_S (l : List ByteArray) (v : Value) (h : v ∈ S.strV l) : ∃ z, v = .string z := by
  simp [S.strV] at h
  obtain ⟨z, _, rfl⟩ := h
  exact ⟨z, rfl⟩
set_option maxRecDepth 100000 in
set_option maxHeartbeats 4000000 in
theorem mkwX (s : SH) (X : SX) (lo : Nat) (w0 w : World) (h : RwX w0 lo s X) (hb : Below w0.heap.size w0 w) (hs : SmX s X) :
    Calls Tryz.prog 10 #[SetV s, .int .i64 1] w fun e w' => ∃ r : Int, e = .returned (.int .i64 r) ∧ 0 < r ∧ r ≤ 30000000 ∧ Mkd lo w0.heap.size w w' := by
  obtain ⟨g0, g1, g2, g3, g4, rfl, ⟨l0, l1, l2, l3, l4⟩, r0, r1, r2, r3, r4⟩ := h.ex
  have u0 := r0.lt
  have u1 := r1.lt
  have u2 := r2.lt
  have u3 := r3.lt
  have u4 := r4.lt
  have m0 := hs.n0
  have m1 := hs.n1
  have m2 := hs.n2
  have m3 := hs.n3
  have m4 := hs.n4
  dsimp only at m0 m1 m2 m3 m4
  obtain ⟨B, hB⟩ : ∃ B, w0.heap.size = B := ⟨_, rfl⟩
  have hWB : B ≤ w.heap.size := by rw [← hB]; exact hb.size
  have c0 : ∀ i, i < X.R.length * 2 → IntC w g0 i := intC_row (row_on r0 hb) (R.regsV_len _) (int_R _)
  have c1 : ∀ i, i < X.W.length * 2 → IntC w g1 i := intC_row (row_on r1 hb) (regsV_len _) (int_W _)
  have c2 : ∀ i, i < X.O.length * 5 → IntC w g2 i := intC_row (row_on r2 hb) (prtV_len _) (int_O _)
  have c3 : ∀ i, i < X.U.length * 3 → IntC w g3 i := intC_row (row_on r3 hb) (rulV_len _) (int_U _)
  have c4 : ∀ i, i < X.S.length → StrC w g4 i := strC_row (row_on r4 hb) (S.strV_len _) (str_S _)
  rw [hB] at u0 u1 u2 u3 u4 ⊢
  obtain ⟨n0, e0⟩ : ∃ n, X.R.length = n := ⟨_, rfl⟩
  obtain ⟨n1, e1⟩ : ∃ n, X.W.length = n := ⟨_, rfl⟩
  obtain ⟨n2, e2⟩ : ∃ n, X.O.length = n := ⟨_, rfl⟩
  obtain ⟨n3, e3⟩ : ∃ n, X.U.length = n := ⟨_, rfl⟩
  obtain ⟨n4, e4⟩ : ∃ n, X.S.length = n := ⟨_, rfl⟩
  unfold SetV
  dsimp only
  rw [e0] at m0 c0 ⊢
  rw [e1] at m1 c1 ⊢
  rw [e2] at m2 c2 ⊢
  rw [e3] at m3 c3 ⊢
  rw [e4] at m4 c4 ⊢
  have HA : Hid (Mkd lo B w (w.alloc (.cells #[.slice (some ⟨g0, 0, none⟩) n0 n0, .slice (some ⟨g1, 0, none⟩) n1 n1, .slice (some ⟨g2, 0, none⟩) n2 n2, .slice (some ⟨g3, 0, none⟩) n3 n3, .slice (some ⟨g4, 0, none⟩) n4 n4] 35))) := Mkd.of_below ((Below.refl _ _).alloc (Nat.le_refl _) _)
  have HR : Hid ((w.alloc (.cells #[.slice (some ⟨g0, 0, none⟩) n0 n0, .slice (some ⟨g1, 0, none⟩) n1 n1, .slice (some ⟨g2, 0, none⟩) n2 n2, .slice (some ⟨g3, 0, none⟩) n3 n3, .slice (some ⟨g4, 0, none⟩) n4 n4] 35)).heap[w.heap.size]? = some (.cells #[.slice (some ⟨g0, 0, none⟩) n0 n0, .slice (some ⟨g1, 0, none⟩) n1 n1, .slice (some ⟨g2, 0, none⟩) n2 n2, .slice (some ⟨g3, 0, none⟩) n3 n3, .slice (some ⟨g4, 0, none⟩) n4 n4] 35)) := heap_new w _
  have C0 : Hid (∀ i, i < n0 * 2 → IntC w g0 i) := c0
  have C1 : Hid (∀ i, i < n1 * 2 → IntC w g1 i) := c1
  have C2 : Hid (∀ i, i < n2 * 5 → IntC w g2 i) := c2
  have C3 : Hid (∀ i, i < n3 * 3 → IntC w g3 i) := c3
  have C4 : Hid (∀ i, i < n4 → StrC w g4 i) := c4
  clear c0 c1 c2 c3 c4 r0 r1 r2 r3 r4 e0 e1 e2 e3 e4 hs h hb hB
  go_enter Tryz.func10, Tryz.ntmps10
  go_wp2_with fail
  refine (mkwR g0 n0 lo B 1 (by omega) (by omega) m0 _ (fun i hi' => (C0.out i hi').mk' HA.out) l0 u0).mono ?_
  rintro e w1 ⟨rfl, hm⟩
  have HM0 : Hid (Mkd lo B w w1) := HA.out.trans hm
  have HR0 : Hid (w1.heap[w.heap.size]? = some (.cells #[.slice (some ⟨g0, 0, none⟩) n0 n0, .slice (some ⟨g1, 0, none⟩) n1 n1, .slice (some ⟨g2, 0, none⟩) n2 n2, .slice (some ⟨g3, 0, none⟩) n3 n3, .slice (some ⟨g4, 0, none⟩) n4 n4] 35)) := hm.row HR.out (.inr hWB)
  have kb0 := boxO_cells HR0.out
  obtain ⟨k1, hk1⟩ : ∃ k : Int, (1 : Int) + 2 * (n0 : Int) = k := ⟨_, rfl⟩
  rw [hk1]
  clear hm HA HR C0
  go_wp2_with fail
  refine (mkwW g1 n1 lo B k1 (by omega) (by omega) m1 _ (fun i hi' => (C1.out i hi').mk' HM0.out) l1 u1).mono ?_
  rintro e w2 ⟨rfl, hm⟩
  have HM1 : Hid (Mkd lo B w w2) := HM0.out.trans hm
  have HR1 : Hid (w2.heap[w.heap.size]? = some (.cells #[.slice (some ⟨g0, 0, none⟩) n0 n0, .slice (some ⟨g1, 0, none⟩) n1 n1, .slice (some ⟨g2, 0, none⟩) n2 n2, .slice (some ⟨g3, 0, none⟩) n3 n3, .slice (some ⟨g4, 0, none⟩) n4 n4] 35)) := hm.row HR0.out (.inr hWB)
  have kb1 := boxO_cells HR1.out
  obtain ⟨k2, hk2⟩ : ∃ k : Int, k1 + 2 * (n1 : Int) = k := ⟨_, rfl⟩
  rw [hk2]
  clear hm HM0 HR0 kb0 C1
  go_wp2_with fail
  refine (mkwO g2 n2 lo B k2 (by omega) (by omega) m2 _ (fun i hi' => (C2.out i hi').mk' HM1.out) l2 u2).mono ?_
  rintro e w3 ⟨rfl, hm⟩
  have HM2 : Hid (Mkd lo B w w3) := HM1.out.trans hm
  have HR2 : Hid (w3.heap[w.heap.size]? = some (.cells #[.slice (some ⟨g0, 0, none⟩) n0 n0, .slice (some ⟨g1, 0, none⟩) n1 n1, .slice (some ⟨g2, 0, none⟩) n2 n2, .slice (some ⟨g3, 0, none⟩) n3 n3, .slice (some ⟨g4, 0, none⟩) n4 n4] 35)) := hm.row HR1.out (.inr hWB)
  have kb2 := boxO_cells HR2.out
  obtain ⟨k3, hk3⟩ : ∃ k : Int, k2 + 5 * (n2 : Int) = k := ⟨_, rfl⟩
  rw [hk3]
  clear hm HM1 HR1 kb1 C2
  go_wp2_with fail
  refine (mkwU g3 n3 lo B k3 (by omega) (by omega) m3 _ (fun i hi' => (C3.out i hi').mk' HM2.out) l3 u3).mono ?_
  rintro e w4 ⟨rfl, hm⟩
  have HM3 : Hid (Mkd lo B w w4) := HM2.out.trans hm
  have HR3 : Hid (w4.heap[w.heap.size]? = some (.cells #[.slice (some ⟨g0, 0, none⟩) n0 n0, .slice (some ⟨g1, 0, none⟩) n1 n1, .slice (some ⟨g2, 0, none⟩) n2 n2, .slice (some ⟨g3, 0, none⟩) n3 n3, .slice (some ⟨g4, 0, none⟩) n4 n4] 35)) := hm.row HR2.out (.inr hWB)
  have kb3 := boxO_cells HR3.out
  obtain ⟨k4, hk4⟩ : ∃ k : Int, k3 + 3 * (n3 : Int) = k := ⟨_, rfl⟩
  rw [hk4]
  clear hm HM2 HR2 kb2 C3
  go_wp2_with fail
  refine (mkwS g4 n4 lo B k4 (by omega) (by omega) m4 _ (fun i hi' => (C4.out i hi').mk' HM3.out) l4 u4).mono ?_
  rintro e w5 ⟨rfl, hm⟩
  have HM4 : Hid (Mkd lo B w w5) := HM3.out.trans hm
  have HR4 : Hid (w5.heap[w.heap.size]? = some (.cells #[.slice (some ⟨g0, 0, none⟩) n0 n0, .slice (some ⟨g1, 0, none⟩) n1 n1, .slice (some ⟨g2, 0, none⟩) n2 n2, .slice (some ⟨g3, 0, none⟩) n3 n3, .slice (some ⟨g4, 0, none⟩) n4 n4] 35)) := hm.row HR3.out (.inr hWB)
  have kb4 := boxO_cells HR4.out
  obtain ⟨k5, hk5⟩ : ∃ k : Int, k4 + (n4 : Int) = k := ⟨_, rfl⟩
  rw [hk5]
  clear hm HM3 HR3 kb3 C4
  go_wp2
  go_ret
  exact ⟨k5, rfl, by omega, by omega, HM4.out⟩
theorem msgs_len (l : MsgL) : (P.regsV l).length = l.length * 2 := P.regsV_len l
theorem par_int {w : World} {g n : Nat} {v : List PV} {l : List PX} {b : Nat → Nat} (hr : RowQ w g v) (hl : v.length = n) (hl' : l.length = n) (hv : ∀ j (h : j < l.length) (h' : j < v.length), v[j] = pvOf l[j] (some ⟨b j, 0, none⟩) l[j].sk.length) : ∀ i, pcelI n i → IntC w g i := by
  rintro i ⟨h1, h2⟩
  have hj : i / 6 < v.length := by omega
  have hj' : i / 6 < l.length := by omega
  have ha := parV_at v (i / 6) hj
  rw [hv _ hj' hj] at ha
  unfold pvOf at ha
  have h3 : i % 6 = 0 ∨ i % 6 = 1 ∨ i % 6 = 3 ∨ i % 6 = 4 ∨ i % 6 = 5 := by omega
  rcases h3 with e | e | e | e | e
  · exact ⟨_, _, _, hr, by have := ha.1; rw [show i / 6 * 6 = i by omega] at this; simpa using this⟩
  · exact ⟨_, _, _, hr, by have := ha.2.1; rw [show i / 6 * 6 + 1 = i by omega] at this; simpa using this⟩
  · exact ⟨_, _, _, hr, by have := ha.2.2.2.1; rw [show i / 6 * 6 + 3 = i by omega] at this; simpa using this⟩
  · exact ⟨_, _, _, hr, by have := ha.2.2.2.2.1; rw [show i / 6 * 6 + 4 = i by omega] at this; simpa using this⟩
  · exact ⟨_, _, _, hr, by have := ha.2.2.2.2.2; rw [show i / 6 * 6 + 5 = i by omega] at this; simpa using this⟩
theorem par_sli {w : World} {g n : Nat} {v : List PV} {l : List PX} {b : Nat → Nat} (hr : RowQ w g v) (hl : v.length = n) (hl' : l.length = n) (hv : ∀ j (h : j < l.length) (h' : j < v.length), v[j] = pvOf l[j] (some ⟨b j, 0, none⟩) l[j].sk.length) : ∀ j (h : j < n), SliC w g (j * 6 + 2) (some ⟨b j, 0, none⟩) ((l.map (·.sk.length)).getD j 0) ((l.map (·.sk.length)).getD j 0) := by
  intro j h
  have hj : j < v.length := by omega
  have hj' : j < l.length := by omega
  have ha := (parV_at v j hj).2.2.1
  rw [hv _ hj' hj] at ha
  unfold pvOf at ha
  refine ⟨_, _, hr, ?_⟩
  have e : (l.map (·.sk.length)).getD j 0 = l[j].sk.length := by simp [hj']
  rw [e]
  simpa using ha
theorem lin_sli {w : World} {g n : Nat} {v : List Value} {l : List MsgL} {b : Nat → Nat} (hr : RowV w g v) (hl : v.length = n) (hl' : l.length = n) (hv : ∀ j (h : j < l.length) (h' : j < v.length), v[j] = .slice (some ⟨b j, 0, none⟩) l[j].length l[j].length) : ∀ j (h : j < n), SliC w g j (some ⟨b j, 0, none⟩) ((l.map (·.length)).getD j 0) ((l.map (·.length)).getD j 0) := by
  intro j h
  have hj : j < v.length := by omega
  have hj' : j < l.length := by omega
  refine ⟨_, _, hr, ?_⟩
  have e : (l.map (·.length)).getD j 0 = l[j].length := by simp [hj']
  rw [e]
  simp [hj, hv j hj' hj]
set_option maxRecDepth 100000 in
set_option maxHeartbeats 8000000 in
theorem mkwK (k : KH) (K : KX) (lo : Nat) (w0 w : World) (h : OwnK w0 lo k K) (hb : Below w0.heap.size w0 w) (hs : SmK k K) :
    Calls Tryz.prog 11 #[KerV k K, .int .i64 1] w fun e w' => ∃ r : Int, e = .returned (.int .i64 r) ∧ 0 < r ∧ Mkd lo w0.heap.size w w' := by
  obtain ⟨s, qA, cA, qP, cP, qL, cL, qO, cO, qE, cE⟩ := k
  obtain ⟨X, A, P, L, O, tu, sp, E⟩ := K
  obtain ⟨gA, eA, lA, rA⟩ := h.a
  obtain ⟨gP, bP, vP, eP, lP, rP, nvP, cvP⟩ := h.p.ex
  obtain ⟨gL, bL, vL, eL, lL, rL, nvL, cvL⟩ := h.l.ex
  obtain ⟨gO, eO, lO, rO⟩ := h.o
  obtain ⟨gE, eE, lE, rE⟩ := h.e
  have HXX : Hid (RwX w0 lo s X) := h.x
  have HBB : Hid (Below w0.heap.size w0 w) := hb
  have HSX : Hid (SmX s X) := hs.x
  have f1 := h.ca
  have f2 := h.cp
  have f3 := h.cl
  have f4 := h.co
  have f5 := h.ce
  have m1 := hs.a
  have m2 := hs.p
  have m3 := hs.l
  have m4 := hs.o
  have m5 := hs.e
  have p2 := hs.ps
  have p3 := hs.ls
  dsimp only at eA eP eL eO eE rA rP rL rO rE nvP nvL cvP cvL f1 f2 f3 f4 f5 m1 m2 m3 m4 m5 p2 p3
  subst eA eP eL eO eE f1 f2 f3 f4 f5
  obtain ⟨nA, hA⟩ : ∃ n, A.length = n := ⟨_, rfl⟩
  obtain ⟨nP, hP⟩ : ∃ n, P.length = n := ⟨_, rfl⟩
  obtain ⟨nL, hL⟩ : ∃ n, L.length = n := ⟨_, rfl⟩
  obtain ⟨nO, hO⟩ : ∃ n, O.length = n := ⟨_, rfl⟩
  obtain ⟨nE, hE⟩ : ∃ n, E.length = n := ⟨_, rfl⟩
  have uA := rA.lt
  have uP := rP.lt
  have uL := rL.lt
  have uO := rO.lt
  have uE := rE.lt
  have CA : Hid (∀ i, i < nA * 1 → IntC w gA i) := intC_row (row_on rA hb) (by rw [intsV_len, hA, Nat.mul_one]) (int_I _)
  have CO : Hid (∀ i, i < nO * 1 → IntC w gO i) := intC_row (row_on rO hb) (by rw [intsV_len, hO, Nat.mul_one]) (int_I _)
  have CE : Hid (∀ i, i < nE * 5 → IntC w gE i) := intC_row (row_on rE hb) (by rw [entV_len, hE]) (int_E _)
  have CP : Hid (∀ i, pcelI nP i → IntC w gP i) := par_int (rP.on hb) (nvP.trans hP) hP (fun j h h' => (cvP j h h').1)
  have CPs : Hid (∀ j, j < nP → SliC w gP (j * 6 + 2) (some ⟨bP j, 0, none⟩) ((P.map (·.sk.length)).getD j 0) ((P.map (·.sk.length)).getD j 0)) := par_sli (rP.on hb) (nvP.trans hP) hP (fun j h h' => (cvP j h h').1)
  have CPm : Hid (∀ j, j < nP → (P.map (·.sk.length)).getD j 0 ≤ 1048576) := fun j hj => by
    have hj' : j < P.length := by omega
    have e : (P.map (·.sk.length)).getD j 0 = P[j].sk.length := by simp [hj']
    rw [e]; exact p2 j hj'
  have CPc : Hid (∀ j, j < nP → ∀ i, i < (P.map (·.sk.length)).getD j 0 * 1 → IntC w (bP j) i) := fun j hj => by
    have hj' : j < P.length := by omega
    have e : (P.map (·.sk.length)).getD j 0 = P[j].sk.length := by simp [hj']
    rw [e, Nat.mul_one]
    exact intC_row (row_on (cvP j hj' (by omega)).2.2 hb) (by rw [intsV_len]) (int_I _)
  have CPb : Hid (∀ j, j < nP → lo ≤ bP j ∧ bP j < w0.heap.size) := fun j hj => ⟨(cvP j (by omega) (by omega)).2.1, (cvP j (by omega) (by omega)).2.2.lt⟩
  have CLs : Hid (∀ j, j < nL → SliC w gL j (some ⟨bL j, 0, none⟩) ((L.map (·.length)).getD j 0) ((L.map (·.length)).getD j 0)) := lin_sli (rL.on hb) (nvL.trans hL) hL (fun j h h' => (cvL j h h').1)
  have CLm : Hid (∀ j, j < nL → (L.map (·.length)).getD j 0 ≤ 1048576) := fun j hj => by
    have hj' : j < L.length := by omega
    have e : (L.map (·.length)).getD j 0 = L[j].length := by simp [hj']
    rw [e]; exact p3 j hj'
  have CLc : Hid (∀ j, j < nL → ∀ i, i < (L.map (·.length)).getD j 0 * 2 → IntC w (bL j) i) := fun j hj => by
    have hj' : j < L.length := by omega
    have e : (L.map (·.length)).getD j 0 = L[j].length := by simp [hj']
    rw [e]
    exact intC_row (row_on (cvL j hj' (by omega)).2.2 hb) (by rw [msgs_len]) (int_M _)
  have CLb : Hid (∀ j, j < nL → lo ≤ bL j ∧ bL j < w0.heap.size) := fun j hj => ⟨(cvL j (by omega) (by omega)).2.1, (cvL j (by omega) (by omega)).2.2.lt⟩
  obtain ⟨B, hB⟩ : ∃ B, w0.heap.size = B := ⟨_, rfl⟩
  have hWB : B ≤ w.heap.size := by rw [← hB]; exact hb.size
  unfold KerV
  dsimp only
  rw [hA] at m1 ⊢
  rw [hP] at m2 ⊢
  rw [hL] at m3 ⊢
  rw [hO] at m4 ⊢
  rw [hE] at m5 ⊢
  have HA : Hid (Mkd lo B w (w.alloc (.cells #[.slice s.q0 s.n0 s.c0, .slice s.q1 s.n1 s.c1, .slice s.q2 s.n2 s.c2, .slice s.q3 s.n3 s.c3, .slice s.q4 s.n4 s.c4, .slice (some ⟨gA, 0, none⟩) nA nA, .slice (some ⟨gP, 0, none⟩) nP nP, .slice (some ⟨gL, 0, none⟩) nL nL, .slice (some ⟨gO, 0, none⟩) nO nO, .int .i64 tu, .bool sp, .slice (some ⟨gE, 0, none⟩) nE nE] 43))) := Mkd.of_below ((Below.refl _ _).alloc (Nat.le_refl _) _)
  have HR : Hid ((w.alloc (.cells #[.slice s.q0 s.n0 s.c0, .slice s.q1 s.n1 s.c1, .slice s.q2 s.n2 s.c2, .slice s.q3 s.n3 s.c3, .slice s.q4 s.n4 s.c4, .slice (some ⟨gA, 0, none⟩) nA nA, .slice (some ⟨gP, 0, none⟩) nP nP, .slice (some ⟨gL, 0, none⟩) nL nL, .slice (some ⟨gO, 0, none⟩) nO nO, .int .i64 tu, .bool sp, .slice (some ⟨gE, 0, none⟩) nE nE] 43)).heap[w.heap.size]? = some (.cells #[.slice s.q0 s.n0 s.c0, .slice s.q1 s.n1 s.c1, .slice s.q2 s.n2 s.c2, .slice s.q3 s.n3 s.c3, .slice s.q4 s.n4 s.c4, .slice (some ⟨gA, 0, none⟩) nA nA, .slice (some ⟨gP, 0, none⟩) nP nP, .slice (some ⟨gL, 0, none⟩) nL nL, .slice (some ⟨gO, 0, none⟩) nO nO, .int .i64 tu, .bool sp, .slice (some ⟨gE, 0, none⟩) nE nE] 43)) := heap_new w _
  have HBA : Hid (Below w0.heap.size w0 (w.alloc (.cells #[.slice s.q0 s.n0 s.c0, .slice s.q1 s.n1 s.c1, .slice s.q2 s.n2 s.c2, .slice s.q3 s.n3 s.c3, .slice s.q4 s.n4 s.c4, .slice (some ⟨gA, 0, none⟩) nA nA, .slice (some ⟨gP, 0, none⟩) nP nP, .slice (some ⟨gL, 0, none⟩) nL nL, .slice (some ⟨gO, 0, none⟩) nO nO, .int .i64 tu, .bool sp, .slice (some ⟨gE, 0, none⟩) nE nE] 43))) := bel_on (Nat.le_refl _) hb ((Below.refl _ _).alloc (Nat.le_refl _) _)
  have XM : Hid (∀ W, Below w0.heap.size w0 W → Calls Tryz.prog 10 #[.agg #[.slice s.q0 s.n0 s.c0, .slice s.q1 s.n1 s.c1, .slice s.q2 s.n2 s.c2, .slice s.q3 s.n3 s.c3, .slice s.q4 s.n4 s.c4], .int .i64 1] W fun e w' => ∃ r : Int, e = .returned (.int .i64 r) ∧ 0 < r ∧ r ≤ 30000000 ∧ Mkd lo w0.heap.size W w') := fun W hW => mkwX s X lo w0 W HXX.out hW HSX.out
  clear h hb hs hA hP hL hO hE rA rP rL rO rE cvP cvL nvP nvL p2 p3 HXX HBB HSX
  rw [hB] at CPb CLb uA uP uL uO uE ⊢
  rw [hB] at XM
  have HB0 : Hid (w0.heap.size = B) := hB
  clear hB
  go_enter Tryz.func11, Tryz.ntmps11
  go_wp2_with fail
  refine (XM.out _ (by have := HBA.out; rw [HB0.out] at this; exact this)).mono ?_
  rintro e w1 ⟨k1, rfl, k10, k11, hm⟩
  have HM1 : Hid (Mkd lo B w w1) := HA.out.trans hm
  have HR1 : Hid (w1.heap[w.heap.size]? = some (.cells #[.slice s.q0 s.n0 s.c0, .slice s.q1 s.n1 s.c1, .slice s.q2 s.n2 s.c2, .slice s.q3 s.n3 s.c3, .slice s.q4 s.n4 s.c4, .slice (some ⟨gA, 0, none⟩) nA nA, .slice (some ⟨gP, 0, none⟩) nP nP, .slice (some ⟨gL, 0, none⟩) nL nL, .slice (some ⟨gO, 0, none⟩) nO nO, .int .i64 tu, .bool sp, .slice (some ⟨gE, 0, none⟩) nE nE] 43)) := hm.row HR.out (.inr hWB)
  have kb1 := box12_cells HR1.out
  clear hm HA HR
  go_wp2_with fail
  refine (mkwA gA nA lo B k1 (by omega) (by omega) m1 _ (fun i hi' => (CA.out i hi').mk' HM1.out) lA uA).mono ?_
  rintro e w2 ⟨rfl, hm⟩
  have HM2 : Hid (Mkd lo B w w2) := HM1.out.trans hm
  have HR2 : Hid (w2.heap[w.heap.size]? = some (.cells #[.slice s.q0 s.n0 s.c0, .slice s.q1 s.n1 s.c1, .slice s.q2 s.n2 s.c2, .slice s.q3 s.n3 s.c3, .slice s.q4 s.n4 s.c4, .slice (some ⟨gA, 0, none⟩) nA nA, .slice (some ⟨gP, 0, none⟩) nP nP, .slice (some ⟨gL, 0, none⟩) nL nL, .slice (some ⟨gO, 0, none⟩) nO nO, .int .i64 tu, .bool sp, .slice (some ⟨gE, 0, none⟩) nE nE] 43)) := hm.row HR1.out (.inr hWB)
  have kb2 := box12_cells HR2.out
  clear hm HM1 HR1 kb1
  obtain ⟨k2, hk2⟩ : ∃ k : Int, k1 + (nA : Int) = k := ⟨_, rfl⟩
  rw [hk2]
  go_wp2_with fail
  refine (mkwPs gP nP lo B bP (fun j => (P.map (·.sk.length)).getD j 0) k2 (by omega) (by omega) m2 _ (fun i hi' => (CP.out i hi').mk' HM2.out) (fun j hj => (CPs.out j hj).mk' HM2.out) CPm.out (fun j hj i hi' => (CPc.out j hj i hi').mk' HM2.out) CPb.out lP uP).mono ?_
  rintro e w3 ⟨k3, rfl, k30, k31, hm⟩
  have HM3 : Hid (Mkd lo B w w3) := HM2.out.trans hm
  have HR3 : Hid (w3.heap[w.heap.size]? = some (.cells #[.slice s.q0 s.n0 s.c0, .slice s.q1 s.n1 s.c1, .slice s.q2 s.n2 s.c2, .slice s.q3 s.n3 s.c3, .slice s.q4 s.n4 s.c4, .slice (some ⟨gA, 0, none⟩) nA nA, .slice (some ⟨gP, 0, none⟩) nP nP, .slice (some ⟨gL, 0, none⟩) nL nL, .slice (some ⟨gO, 0, none⟩) nO nO, .int .i64 tu, .bool sp, .slice (some ⟨gE, 0, none⟩) nE nE] 43)) := hm.row HR2.out (.inr hWB)
  have kb3 := box12_cells HR3.out
  clear hm HM2 HR2 kb2
  go_wp2_with fail
  refine (mkwLs gL nL lo B bL (fun j => (L.map (·.length)).getD j 0) k3 (by omega) (by omega) m3 _ (fun j hj => (CLs.out j hj).mk' HM3.out) CLm.out (fun j hj i hi' => (CLc.out j hj i hi').mk' HM3.out) CLb.out).mono ?_
  rintro e w4 ⟨k4, rfl, k40, k41, hm⟩
  have HM4 : Hid (Mkd lo B w w4) := HM3.out.trans hm
  have HR4 : Hid (w4.heap[w.heap.size]? = some (.cells #[.slice s.q0 s.n0 s.c0, .slice s.q1 s.n1 s.c1, .slice s.q2 s.n2 s.c2, .slice s.q3 s.n3 s.c3, .slice s.q4 s.n4 s.c4, .slice (some ⟨gA, 0, none⟩) nA nA, .slice (some ⟨gP, 0, none⟩) nP nP, .slice (some ⟨gL, 0, none⟩) nL nL, .slice (some ⟨gO, 0, none⟩) nO nO, .int .i64 tu, .bool sp, .slice (some ⟨gE, 0, none⟩) nE nE] 43)) := hm.row HR3.out (.inr hWB)
  have kb4 := box12_cells HR4.out
  clear hm HM3 HR3 kb3
  go_wp2_with fail
  refine (mkwI gO nO lo B k4 (by omega) (by omega) m4 _ (fun i hi' => (CO.out i hi').mk' HM4.out) lO uO).mono ?_
  rintro e w5 ⟨rfl, hm⟩
  have HM5 : Hid (Mkd lo B w w5) := HM4.out.trans hm
  have HR5 : Hid (w5.heap[w.heap.size]? = some (.cells #[.slice s.q0 s.n0 s.c0, .slice s.q1 s.n1 s.c1, .slice s.q2 s.n2 s.c2, .slice s.q3 s.n3 s.c3, .slice s.q4 s.n4 s.c4, .slice (some ⟨gA, 0, none⟩) nA nA, .slice (some ⟨gP, 0, none⟩) nP nP, .slice (some ⟨gL, 0, none⟩) nL nL, .slice (some ⟨gO, 0, none⟩) nO nO, .int .i64 tu, .bool sp, .slice (some ⟨gE, 0, none⟩) nE nE] 43)) := hm.row HR4.out (.inr hWB)
  have kb5 := box12_cells HR5.out
  clear hm HM4 HR4 kb4
  obtain ⟨k5, hk5⟩ : ∃ k : Int, k4 + (nO : Int) = k := ⟨_, rfl⟩
  rw [hk5]
  go_wp2_with fail
  refine (mkwE gE nE lo B k5 (by omega) (by omega) m5 _ (fun i hi' => (CE.out i hi').mk' HM5.out) lE uE).mono ?_
  rintro e w6 ⟨rfl, hm⟩
  have HM6 : Hid (Mkd lo B w w6) := HM5.out.trans hm
  have HR6 : Hid (w6.heap[w.heap.size]? = some (.cells #[.slice s.q0 s.n0 s.c0, .slice s.q1 s.n1 s.c1, .slice s.q2 s.n2 s.c2, .slice s.q3 s.n3 s.c3, .slice s.q4 s.n4 s.c4, .slice (some ⟨gA, 0, none⟩) nA nA, .slice (some ⟨gP, 0, none⟩) nP nP, .slice (some ⟨gL, 0, none⟩) nL nL, .slice (some ⟨gO, 0, none⟩) nO nO, .int .i64 tu, .bool sp, .slice (some ⟨gE, 0, none⟩) nE nE] 43)) := hm.row HR5.out (.inr hWB)
  have kb6 := box12_cells HR6.out
  clear hm HM5 HR5 kb5
  go_wp2
  go_ret
  exact ⟨_, rfl, by omega, HM6.out⟩
end Go.Proofs.YtphijlknefgkiaaGreatDoor

namespace Go.Proofs.YtphijlknefgkiaaGreatDoor
open Go.RowKit Go.PlainAid
set_option linter.unusedVariables false

section
variable {P : Program} {md : Region.Mode} {ops : Array Oper} {Q : Exit → Act → World → Prop} {S : World → Prop}
theorem any_states {σ : Type} (L : σ → Array Bool) (E : σ → List Nat) (rk : σ → Nat) (ok fin : σ → Bool) (St : σ → Act → World → Prop)
    (hrd : ∀ s, ok s = true → fin s = false → Region.ready md ops (L s) = E s ∧ E s ≠ [] ∧ 0 < rk s)
    (hst : ∀ s i, ok s = true → fin s = false → i ∈ E s → ∃ s', (L s).setIfInBounds i true = L s' ∧ ok s' = true ∧ rk s' < rk s ∧ ∀ a w, S w → St s a w → wpOp P ops Q i (fun a' w' => S w' ∧ St s' a' w') a w)
    (hfi : ∀ s a w f, ok s = true → fin s = true → rk s ≤ f → S w → St s a w → wpAnyH P md ops Q S f (L s) a w) :
    ∀ n s a w f, rk s ≤ n → rk s ≤ f → ok s = true → S w → St s a w → wpAnyH P md ops Q S f (L s) a w := by
  intro n
  induction n with
  | zero =>
    intro s a w f hn hf hok hS hSt
    cases hfs : fin s with
    | true => exact hfi s a w f hok hfs hf hS hSt
    | false => have := (hrd s hok hfs).2.2; omega
  | succ n ih =>
    intro s a w f hn hf hok hS hSt
    cases hfs : fin s with
    | true => exact hfi s a w f hok hfs hf hS hSt
    | false =>
      obtain ⟨h1, h2, h3⟩ := hrd s hok hfs
      obtain ⟨f', rfl⟩ : ∃ f', f = f' + 1 := ⟨f - 1, by omega⟩
      refine ⟨fun h => absurd (h1 ▸ h) h2, fun i hi => ?_⟩
      rw [h1] at hi
      obtain ⟨s', e1, e2, e3, e4⟩ := hst s i hok hfs hi
      exact wpOp_mono (fun a' w' h => ⟨h.1, by rw [e1]; exact ih s' a' w' f' (by omega) (by omega) e2 h.1 h.2⟩) (e4 a w hS hSt)
end
end Go.Proofs.YtphijlknefgkiaaGreatDoor

namespace Go.Proofs.YtphijlknefgkiaaGreatDoor
open Go.ChangeShapes Go.WideShapes Go.ChangeAt Go.RowKit Go.PlainAid
set_option linter.unusedVariables false

/-- a list that is made, and what is appended to it -/
structure Slot (B : Nat) (T : TypeId) (z n : Nat) (xs : List Value) (x d : Bool) (tm ta : Value) (w : World) : Prop where
  m : x = true → d = false → w.ownsRow B T z tm 0 []
  a : d = true → w.ownsRow B T z ta n xs
theorem Slot.bel {B : Nat} {T : TypeId} {z n : Nat} {xs : List Value} {x d : Bool} {tm ta : Value} {w w' : World} (h : Slot B T z n xs x d tm ta w) (hb : Below w.heap.size w w') : Slot B T z n xs x d tm ta w' :=
  ⟨fun h1 h2 => own_keep (h.m h1 h2) hb (own_lt (h.m h1 h2)), fun h1 => own_keep (h.a h1) hb (own_lt (h.a h1))⟩
theorem Slot.gr {B B' : Nat} {T T' : TypeId} {z z' n n' : Nat} {xs xs' : List Value} {x d : Bool} {tm ta v : Value} {w w' : World} (h : Slot B T z n xs x d tm ta w) (hv : w.ownsRow B' T' z' v n' xs') (hg : w.grownBy w' v.ownBlock) (hT : T ≠ T') : Slot B T z n xs x d tm ta w' :=
  ⟨fun h1 h2 => own_other11 (h.m h1 h2) hg (own_apart11 (h.m h1 h2) hv hT), fun h1 => own_other11 (h.a h1) hg (own_apart11 (h.a h1) hv hT)⟩
theorem own_new0 (w : World) (B : Nat) (T : TypeId) (z : Nat) (hB : B ≤ w.heap.size) : (w.alloc (.cells #[] T)).ownsRow B T z (.slice (some ⟨w.heap.size, 0, none⟩) 0 0) 0 [] :=
  ⟨by simp, Or.inr ⟨_, 0, #[], rfl, hB, heap_new w _, Nat.le_refl _, by decide, by simp, by simp⟩⟩
theorem one_int {l : List Value} (h : ∀ v ∈ l, ∃ z, v = .int .i64 z) : ∀ u ∈ l, u.oneCell' = true := fun u hu => by
  obtain ⟨z, rfl⟩ := h u hu; rfl
theorem one_str {l : List Value} (h : ∀ v ∈ l, ∃ z, v = .string z) : ∀ u ∈ l, u.oneCell' = true := fun u hu => by
  obtain ⟨z, rfl⟩ := h u hu; rfl
theorem mem_ifn {i k : Nat} {x : Bool} : (i ∈ (if x = true then ([] : List Nat) else [k])) ↔ (x = false ∧ i = k) := by cases x <;> simp
theorem mem_ifc {i k : Nat} {p : Prop} [Decidable p] : (i ∈ (if p then [k] else ([] : List Nat))) ↔ (p ∧ i = k) := by by_cases h : p <;> simp [h]
theorem al1_k (w : World) (o : Obj) : Below w.heap.size w (w.alloc o) := (Below.refl _ _).alloc (Nat.le_refl _) _
theorem gr_cell {w w' : World} {B z n k i : Nat} {T : TypeId} {v x : Value} {xs : List Value} (hm : w.ownsRow B T z v n xs) (hg : w.grownBy w' v.ownBlock) (hc : w.cell? ⟨k, i, none⟩ = some x) (hk : k < B) (hB : B ≤ w.heap.size) : w'.cell? ⟨k, i, none⟩ = some x :=
  (((Below.refl B w).grown hg hB (fun g e => own_ge hm g e)).cell (p := ⟨k, i, none⟩) hk).trans hc
theorem own_slice {w : World} {B z n : Nat} {T : TypeId} {v : Value} {xs : List Value} (h : w.ownsRow B T z v n xs) : ∃ q c, v = .slice q n c := by
  rcases h.2 with ⟨rfl, rfl⟩ | ⟨g, cap, cur, rfl, _⟩
  · exact ⟨none, 0, rfl⟩
  · exact ⟨_, _, rfl⟩
theorem put5_cell {W : World} {k r i : Nat} {v : Value} (h : W.cell? ⟨k, i, none⟩ = some v) (hne : k ≠ r) (x0 x1 x2 x3 x4 : Value) : (((((W.setCell ⟨r, 0, none⟩ x0).setCell ⟨r, 1, none⟩ x1).setCell ⟨r, 2, none⟩ x2).setCell ⟨r, 3, none⟩ x3).setCell ⟨r, 4, none⟩ x4).cell? ⟨k, i, none⟩ = some v := by
  have f : ∀ (W : World) (j : Nat) (x : Value), W.cell? ⟨k, i, none⟩ = some v → (W.setCell ⟨r, j, none⟩ x).cell? ⟨k, i, none⟩ = some v := fun W j x h => by
    rw [World.cell?_setCell_other _ _ _ _ (by intro e; cases e; exact hne rfl)]; exact h
  exact f _ _ _ (f _ _ _ (f _ _ _ (f _ _ _ (f _ _ _ h))))
theorem stepX {o : Oper} {a : Act} {K : Act → World → Prop} {Q : Exit → Act → World → Prop} (W : World) (s x : Operand) (sT T : TypeId)
    (ho : o.op = .call { callee := .builtin .append, args := #[s, x], argTypes := #[sT, sT] }) (zv : Value) (z bytes : Nat) (hu : Tryz.prog.underlying sT = some (.slice T))
    (hin : (Tryz.prog.info? T).map (fun i => (i.zero, i.size, i.bytes)) = some (some zv, z, bytes)) (hzs : zv.cells.size = z) (hzp : 0 < z)
    (B : Nat) (tm : Value) (g m cx : Nat) (vals : List Value) (hs : a.eval s = tm) (hx : a.eval x = .slice (some ⟨g, 0, none⟩) m cx) (hown : W.ownsRow B T z tm 0 []) (hrow : W.heap[g]? = some (.cells vals.toArray T)) (hl : vals.length = m * z)
    (h1 : ∀ u ∈ vals, u.oneCell' = true) (hm : m ≤ 1048576) (hby : bytes ≤ 40) (hB : B ≤ W.heap.size)
    (h : ∀ v' w', w'.ownsRow B T z v' m vals → W.grownBy w' tm.ownBlock → K (a.put o.dst v') w') : o.wp Tryz.prog a W K Q := by
  obtain ⟨i0, hi, hz0, hz1, hz2⟩ := info_parts hin
  have hb : (0 + m) * bytes ≤ 140737488355328 := by
    have := Nat.mul_le_mul hm hby
    rw [Nat.zero_add]; omega
  obtain ⟨v', w', hrun, h2, h3, _⟩ := run_append_own_at (P := Tryz.prog) W B sT o.type T i0 zv z bytes hu hi hz0 hz1 hz2 hzs hzp _ 0 _ hown ⟨g, 0, none⟩ m cx vals hl (fun j u hj => World.news_of_block hrow j u (by simpa using hj)) h1 (by unfold maxLen; omega) hb hB
  rw [Nat.zero_add, List.nil_append] at h2
  unfold Oper.wp execOp
  simp only [ho, resolve, invoke, builtin, Sem.run_bind, Sem.run_pure, Result.andThen_ok, List.map_toArray, List.map_cons, List.map_nil, hs, hx, hrun]
  exact h v' w' h2 h3

set_option maxRecDepth 100000 in
set_option maxHeartbeats 4000000 in
theorem l12S (s : SH) (X : SX) (lo : Nat) (w : World) (h : RwX w lo s X) (hs : SmX s X) :
    Calls Tryz.prog 19 #[SetV s] w fun e w' => ∃ s', e = .returned (SetV s') ∧ OwnX w' w.heap.size s' X ∧ Below w.heap.size w w' := by
  obtain ⟨g0, g1, g2, g3, g4, rfl, _, r0, r1, r2, r3, r4⟩ := h.ex
  obtain ⟨k0, k1, k2, k3, k4, kb⟩ := hs
  dsimp only at k0 k1 k2 k3 k4
  clear h kb
  have HR0 : Hid (w.heap[g0]? = some (.cells (R.regsV X.R).toArray 94)) := r0
  have HL0 := R.regsV_len X.R
  obtain ⟨n0, hn0⟩ : ∃ n, X.R.length = n := ⟨_, rfl⟩
  rw [hn0] at HL0 k0
  have HR1 : Hid (w.heap[g1]? = some (.cells (regsV X.W).toArray 98)) := r1
  have HL1 := regsV_len X.W
  obtain ⟨n1, hn1⟩ : ∃ n, X.W.length = n := ⟨_, rfl⟩
  rw [hn1] at HL1 k1
  have HR2 : Hid (w.heap[g2]? = some (.cells (prtV X.O).toArray 88)) := r2
  have HL2 := prtV_len X.O
  obtain ⟨n2, hn2⟩ : ∃ n, X.O.length = n := ⟨_, rfl⟩
  rw [hn2] at HL2 k2
  have HR3 : Hid (w.heap[g3]? = some (.cells (rulV X.U).toArray 104)) := r3
  have HL3 := rulV_len X.U
  obtain ⟨n3, hn3⟩ : ∃ n, X.U.length = n := ⟨_, rfl⟩
  rw [hn3] at HL3 k3
  have HR4 : Hid (w.heap[g4]? = some (.cells (S.strV X.S).toArray 9)) := r4
  have HL4 := S.strV_len X.S
  obtain ⟨n4, hn4⟩ : ∃ n, X.S.length = n := ⟨_, rfl⟩
  rw [hn4] at HL4 k4
  unfold SetV
  dsimp only
  rw [hn0, hn1, hn2, hn3, hn4]
  clear r0 r1 r2 r3 r4
  have HI : Hid (((w.alloc (.cells #[.slice (some ⟨g0, 0, none⟩) n0 n0, .slice (some ⟨g1, 0, none⟩) n1 n1, .slice (some ⟨g2, 0, none⟩) n2 n2, .slice (some ⟨g3, 0, none⟩) n3 n3, .slice (some ⟨g4, 0, none⟩) n4 n4] 35)).alloc (.cells #[.slice none 0 0, .slice none 0 0, .slice none 0 0, .slice none 0 0, .slice none 0 0] 35)).heap[w.heap.size]? = some (.cells #[.slice (some ⟨g0, 0, none⟩) n0 n0, .slice (some ⟨g1, 0, none⟩) n1 n1, .slice (some ⟨g2, 0, none⟩) n2 n2, .slice (some ⟨g3, 0, none⟩) n3 n3, .slice (some ⟨g4, 0, none⟩) n4 n4] 35)) := row_on (heap_new w _) ((Below.refl _ _).alloc (Nat.le_refl _) _)
  have HZ : Hid (((w.alloc (.cells #[.slice (some ⟨g0, 0, none⟩) n0 n0, .slice (some ⟨g1, 0, none⟩) n1 n1, .slice (some ⟨g2, 0, none⟩) n2 n2, .slice (some ⟨g3, 0, none⟩) n3 n3, .slice (some ⟨g4, 0, none⟩) n4 n4] 35)).alloc (.cells #[.slice none 0 0, .slice none 0 0, .slice none 0 0, .slice none 0 0, .slice none 0 0] 35)).heap[w.heap.size + 1]? = some (.cells #[.slice none 0 0, .slice none 0 0, .slice none 0 0, .slice none 0 0, .slice none 0 0] 35)) := by
    have h1 := heap_new (w.alloc (.cells #[.slice (some ⟨g0, 0, none⟩) n0 n0, .slice (some ⟨g1, 0, none⟩) n1 n1, .slice (some ⟨g2, 0, none⟩) n2 n2, .slice (some ⟨g3, 0, none⟩) n3 n3, .slice (some ⟨g4, 0, none⟩) n4 n4] 35)) (.cells #[.slice none 0 0, .slice none 0 0, .slice none 0 0, .slice none 0 0, .slice none 0 0] 35)
    rw [show (w.alloc (.cells #[.slice (some ⟨g0, 0, none⟩) n0 n0, .slice (some ⟨g1, 0, none⟩) n1 n1, .slice (some ⟨g2, 0, none⟩) n2 n2, .slice (some ⟨g3, 0, none⟩) n3 n3, .slice (some ⟨g4, 0, none⟩) n4 n4] 35)).heap.size = w.heap.size + 1 from by simp] at h1
    exact h1
  have HB : Hid (Below w.heap.size w ((w.alloc (.cells #[.slice (some ⟨g0, 0, none⟩) n0 n0, .slice (some ⟨g1, 0, none⟩) n1 n1, .slice (some ⟨g2, 0, none⟩) n2 n2, .slice (some ⟨g3, 0, none⟩) n3 n3, .slice (some ⟨g4, 0, none⟩) n4 n4] 35)).alloc (.cells #[.slice none 0 0, .slice none 0 0, .slice none 0 0, .slice none 0 0, .slice none 0 0] 35))) := ((Below.refl _ _).alloc (Nat.le_refl _) _).alloc (by simp) _
  have HS : ((w.alloc (.cells #[.slice (some ⟨g0, 0, none⟩) n0 n0, .slice (some ⟨g1, 0, none⟩) n1 n1, .slice (some ⟨g2, 0, none⟩) n2 n2, .slice (some ⟨g3, 0, none⟩) n3 n3, .slice (some ⟨g4, 0, none⟩) n4 n4] 35)).alloc (.cells #[.slice none 0 0, .slice none 0 0, .slice none 0 0, .slice none 0 0, .slice none 0 0] 35)).heap.size = w.heap.size + 1 + 1 := by simp
  go_enter Tryz.func19, Tryz.ntmps19
  go_upto_region 1 with fail
  generalize hW1 : (w.alloc (.cells #[.slice (some ⟨g0, 0, none⟩) n0 n0, .slice (some ⟨g1, 0, none⟩) n1 n1, .slice (some ⟨g2, 0, none⟩) n2 n2, .slice (some ⟨g3, 0, none⟩) n3 n3, .slice (some ⟨g4, 0, none⟩) n4 n4] 35)).alloc (.cells #[.slice none 0 0, .slice none 0 0, .slice none 0 0, .slice none 0 0, .slice none 0 0] 35) = W1 at *
  clear hW1
  have kk := boxO_cells HI.out
  refine wp_region_held_drew (S := fun w' => w'.cell? ⟨w.heap.size, 0, none⟩ = some (.slice (some ⟨g0, 0, none⟩) n0 n0) ∧ w'.cell? ⟨w.heap.size, 1, none⟩ = some (.slice (some ⟨g1, 0, none⟩) n1 n1) ∧ w'.cell? ⟨w.heap.size, 2, none⟩ = some (.slice (some ⟨g2, 0, none⟩) n2 n2) ∧ w'.cell? ⟨w.heap.size, 3, none⟩ = some (.slice (some ⟨g3, 0, none⟩) n3 n3) ∧ w'.cell? ⟨w.heap.size, 4, none⟩ = some (.slice (some ⟨g4, 0, none⟩) n4 n4) ∧ Below w.heap.size w w') (by kernel_rfl) ?_ (fun hHeld => ?_)
  · exact ⟨kk.1.1, kk.1.2.1, kk.1.2.2.1, kk.1.2.2.2.1, kk.1.2.2.2.2, HB.out.drew⟩
  refine wpAnyH_take (i := 1) (v := ?_) rfl (by kernel_rfl) (by kernel_rfl) (by kernel_rfl) (fun _ _ _ h => h) (Or.inl ⟨by rfl, ?_⟩) (by assumption) ?_
  rotate_left
  · intro w_ hSw; (try obtain ⟨z0_, z1_, z2_, z3_, z4_, z5_⟩ := hSw); go_simp <;> with_reducible rfl
  try simp only [Act.put, List.setIfInBounds_toArray, List.set_cons_zero, List.set_cons_succ, List.getElem_toArray, List.getElem_cons_zero, List.getElem_cons_succ]
  refine wpAnyH_take (i := 2) (v := ?_) rfl (by kernel_rfl) (by kernel_rfl) (by kernel_rfl) (fun _ _ _ h => h) (Or.inl ⟨by rfl, ?_⟩) (by assumption) ?_
  rotate_left
  · intro w_ hSw; (try obtain ⟨z0_, z1_, z2_, z3_, z4_, z5_⟩ := hSw); go_simp <;> with_reducible rfl
  try simp only [Act.put, List.setIfInBounds_toArray, List.set_cons_zero, List.set_cons_succ, List.getElem_toArray, List.getElem_cons_zero, List.getElem_cons_succ]
  refine wpAnyH_take (i := 5) (v := ?_) rfl (by kernel_rfl) (by kernel_rfl) (by kernel_rfl) (fun _ _ _ h => h) (Or.inl ⟨by rfl, ?_⟩) (by assumption) ?_
  rotate_left
  · intro w_ hSw; (try obtain ⟨z0_, z1_, z2_, z3_, z4_, z5_⟩ := hSw); go_simp <;> with_reducible rfl
  try simp only [Act.put, List.setIfInBounds_toArray, List.set_cons_zero, List.set_cons_succ, List.getElem_toArray, List.getElem_cons_zero, List.getElem_cons_succ]
  refine wpAnyH_take (i := 6) (v := ?_) rfl (by kernel_rfl) (by kernel_rfl) (by kernel_rfl) (fun _ _ _ h => h) (Or.inl ⟨by rfl, ?_⟩) (by assumption) ?_
  rotate_left
  · intro w_ hSw; (try obtain ⟨z0_, z1_, z2_, z3_, z4_, z5_⟩ := hSw); go_simp <;> with_reducible rfl
  try simp only [Act.put, List.setIfInBounds_toArray, List.set_cons_zero, List.set_cons_succ, List.getElem_toArray, List.getElem_cons_zero, List.getElem_cons_succ]
  refine wpAnyH_take (i := 9) (v := ?_) rfl (by kernel_rfl) (by kernel_rfl) (by kernel_rfl) (fun _ _ _ h => h) (Or.inl ⟨by rfl, ?_⟩) (by assumption) ?_
  rotate_left
  · intro w_ hSw; (try obtain ⟨z0_, z1_, z2_, z3_, z4_, z5_⟩ := hSw); go_simp <;> with_reducible rfl
  try simp only [Act.put, List.setIfInBounds_toArray, List.set_cons_zero, List.set_cons_succ, List.getElem_toArray, List.getElem_cons_zero, List.getElem_cons_succ]
  refine wpAnyH_take (i := 10) (v := ?_) rfl (by kernel_rfl) (by kernel_rfl) (by kernel_rfl) (fun _ _ _ h => h) (Or.inl ⟨by rfl, ?_⟩) (by assumption) ?_
  rotate_left
  · intro w_ hSw; (try obtain ⟨z0_, z1_, z2_, z3_, z4_, z5_⟩ := hSw); go_simp <;> with_reducible rfl
  try simp only [Act.put, List.setIfInBounds_toArray, List.set_cons_zero, List.set_cons_succ, List.getElem_toArray, List.getElem_cons_zero, List.getElem_cons_succ]
  refine wpAnyH_take (i := 13) (v := ?_) rfl (by kernel_rfl) (by kernel_rfl) (by kernel_rfl) (fun _ _ _ h => h) (Or.inl ⟨by rfl, ?_⟩) (by assumption) ?_
  rotate_left
  · intro w_ hSw; (try obtain ⟨z0_, z1_, z2_, z3_, z4_, z5_⟩ := hSw); go_simp <;> with_reducible rfl
  try simp only [Act.put, List.setIfInBounds_toArray, List.set_cons_zero, List.set_cons_succ, List.getElem_toArray, List.getElem_cons_zero, List.getElem_cons_succ]
  refine wpAnyH_take (i := 14) (v := ?_) rfl (by kernel_rfl) (by kernel_rfl) (by kernel_rfl) (fun _ _ _ h => h) (Or.inl ⟨by rfl, ?_⟩) (by assumption) ?_
  rotate_left
  · intro w_ hSw; (try obtain ⟨z0_, z1_, z2_, z3_, z4_, z5_⟩ := hSw); go_simp <;> with_reducible rfl
  try simp only [Act.put, List.setIfInBounds_toArray, List.set_cons_zero, List.set_cons_succ, List.getElem_toArray, List.getElem_cons_zero, List.getElem_cons_succ]
  refine wpAnyH_take (i := 17) (v := ?_) rfl (by kernel_rfl) (by kernel_rfl) (by kernel_rfl) (fun _ _ _ h => h) (Or.inl ⟨by rfl, ?_⟩) (by assumption) ?_
  rotate_left
  · intro w_ hSw; (try obtain ⟨z0_, z1_, z2_, z3_, z4_, z5_⟩ := hSw); go_simp <;> with_reducible rfl
  try simp only [Act.put, List.setIfInBounds_toArray, List.set_cons_zero, List.set_cons_succ, List.getElem_toArray, List.getElem_cons_zero, List.getElem_cons_succ]
  refine wpAnyH_take (i := 18) (v := ?_) rfl (by kernel_rfl) (by kernel_rfl) (by kernel_rfl) (fun _ _ _ h => h) (Or.inl ⟨by rfl, ?_⟩) (by assumption) ?_
  rotate_left
  · intro w_ hSw; (try obtain ⟨z0_, z1_, z2_, z3_, z4_, z5_⟩ := hSw); go_simp <;> with_reducible rfl
  try simp only [Act.put, List.setIfInBounds_toArray, List.set_cons_zero, List.set_cons_succ, List.getElem_toArray, List.getElem_cons_zero, List.getElem_cons_succ]
  refine any_states (σ := Bool × Bool × Bool × Bool × Bool × Fin 6) (fun s => #[s.1, true, true, (decide (0 < s.2.2.2.2.2)), s.2.1, true, true, (decide (1 < s.2.2.2.2.2)), s.2.2.1, true, true, (decide (2 < s.2.2.2.2.2)), s.2.2.2.1, true, true, (decide (3 < s.2.2.2.2.2)), s.2.2.2.2.1, true, true, (decide (4 < s.2.2.2.2.2)), false, false]) (fun s => (if s.1 then [] else [0]) ++ (if s.2.2.2.2.2 = 0 ∧ s.1 = true then [3] else []) ++ (if s.2.1 then [] else [4]) ++ (if s.2.2.2.2.2 = 1 ∧ s.2.1 = true then [7] else []) ++ (if s.2.2.1 then [] else [8]) ++ (if s.2.2.2.2.2 = 2 ∧ s.2.2.1 = true then [11] else []) ++ (if s.2.2.2.1 then [] else [12]) ++ (if s.2.2.2.2.2 = 3 ∧ s.2.2.2.1 = true then [15] else []) ++ (if s.2.2.2.2.1 then [] else [16]) ++ (if s.2.2.2.2.2 = 4 ∧ s.2.2.2.2.1 = true then [19] else [])) (fun s => 2 + (if s.1 then 0 else 1) + (if s.2.1 then 0 else 1) + (if s.2.2.1 then 0 else 1) + (if s.2.2.2.1 then 0 else 1) + (if s.2.2.2.2.1 then 0 else 1) + (5 - s.2.2.2.2.2.val)) (fun s => (!(decide (0 < s.2.2.2.2.2)) || s.1) && (!(decide (1 < s.2.2.2.2.2)) || s.2.1) && (!(decide (2 < s.2.2.2.2.2)) || s.2.2.1) && (!(decide (3 < s.2.2.2.2.2)) || s.2.2.2.1) && (!(decide (4 < s.2.2.2.2.2)) || s.2.2.2.2.1)) (fun s => decide (s.2.2.2.2.2 = 5)) (fun s a w_ => ∃ m0 m1 m2 m3 m4 a0 a1 a2 a3 a4 : Value, a = ⟨#[.agg #[.slice (some ⟨g0, 0, none⟩) n0 n0, .slice (some ⟨g1, 0, none⟩) n1 n1, .slice (some ⟨g2, 0, none⟩) n2 n2, .slice (some ⟨g3, 0, none⟩) n3 n3, .slice (some ⟨g4, 0, none⟩) n4 n4], .pointer (some ⟨w.heap.size, 0, none⟩), .pointer (some ⟨w.heap.size + 1, 0, none⟩), m0, .pointer (some ⟨w.heap.size, 0, none⟩), .slice (some ⟨g0, 0, none⟩) n0 n0, a0, m1, .pointer (some ⟨w.heap.size, 1, none⟩), .slice (some ⟨g1, 0, none⟩) n1 n1, a1, m2, .pointer (some ⟨w.heap.size, 2, none⟩), .slice (some ⟨g2, 0, none⟩) n2 n2, a2, m3, .pointer (some ⟨w.heap.size, 3, none⟩), .slice (some ⟨g3, 0, none⟩) n3 n3, a3, m4, .pointer (some ⟨w.heap.size, 4, none⟩), .slice (some ⟨g4, 0, none⟩) n4 n4, a4, undef], []⟩ ∧ Below W1.heap.size W1 w_ ∧ Slot (w.heap.size + 1 + 1) 94 2 n0 (R.regsV X.R) s.1 (decide (0 < s.2.2.2.2.2)) m0 a0 w_ ∧ Slot (w.heap.size + 1 + 1) 98 2 n1 (regsV X.W) s.2.1 (decide (1 < s.2.2.2.2.2)) m1 a1 w_ ∧ Slot (w.heap.size + 1 + 1) 88 5 n2 (prtV X.O) s.2.2.1 (decide (2 < s.2.2.2.2.2)) m2 a2 w_ ∧ Slot (w.heap.size + 1 + 1) 104 3 n3 (rulV X.U) s.2.2.2.1 (decide (3 < s.2.2.2.2.2)) m3 a3 w_ ∧ Slot (w.heap.size + 1 + 1) 9 1 n4 (S.strV X.S) s.2.2.2.2.1 (decide (4 < s.2.2.2.2.2)) m4 a4 w_) ?_ ?_ ?_ 12 (false, false, false, false, false, 0) _ _ _ (by decide) (by decide) (by decide) hHeld ⟨undef, undef, undef, undef, undef, undef, undef, undef, undef, undef, rfl, (Below.refl _ _).drew, ⟨fun h => (by cases h), fun h => (by cases h)⟩, ⟨fun h => (by cases h), fun h => (by cases h)⟩, ⟨fun h => (by cases h), fun h => (by cases h)⟩, ⟨fun h => (by cases h), fun h => (by cases h)⟩, ⟨fun h => (by cases h), fun h => (by cases h)⟩⟩
  · rintro ⟨x0, x1, x2, x3, x4, c⟩
    dsimp only
    revert x0 x1 x2 x3 x4 c
    decide +kernel
  · rintro ⟨x0, x1, x2, x3, x4, c⟩ i hok hfin hi
    dsimp only at hok hfin hi
    simp only [List.mem_append, mem_ifn, mem_ifc] at hi
    rcases hi with ((((((((hi | hi) | hi) | hi) | hi) | hi) | hi) | hi) | hi) | hi
    · obtain ⟨hx, rfl⟩ := hi
      subst hx
      have hd : decide (0 < c) = false := by clear hfin; revert hok; revert x1 x2 x3 x4 c; decide +kernel
      refine ⟨(true, x1, x2, x3, x4, c), rfl, ?_, ?_, ?_⟩
      · clear hfin hd; revert hok; revert x1 x2 x3 x4 c; decide +kernel
      · clear hfin hd; revert hok; revert x1 x2 x3 x4 c; decide +kernel
      rintro a w_ hSw ⟨m0, m1, m2, m3, m4, a0, a1, a2, a3, a4, rfl, hb, s0, s1, s2, s3, s4⟩
      dsimp only at s0 s1 s2 s3 s4 ⊢
      refine wpOp_step (i := 0) rfl (fun K hK => ?_)
      go_simp
      exact hK _ _ ⟨⟨cell_on hSw.1 (al1_k w_ _), cell_on hSw.2.1 (al1_k w_ _), cell_on hSw.2.2.1 (al1_k w_ _), cell_on hSw.2.2.2.1 (al1_k w_ _), cell_on hSw.2.2.2.2.1 (al1_k w_ _), bel_on (Nat.le_refl _) hSw.2.2.2.2.2 (al1_k w_ _)⟩, _, m1, m2, m3, m4, a0, a1, a2, a3, a4, rfl, bel_on (Nat.le_refl _) hb (al1_k w_ _), ⟨fun _ _ => own_new0 _ _ _ _ (by have := hb.size; omega), fun h => absurd h (by rw [hd]; exact Bool.false_ne_true)⟩, s1.bel (al1_k w_ _), s2.bel (al1_k w_ _), s3.bel (al1_k w_ _), s4.bel (al1_k w_ _)⟩
    · obtain ⟨⟨rfl, rfl⟩, rfl⟩ := hi
      refine ⟨(true, x1, x2, x3, x4, 1), rfl, ?_, ?_, ?_⟩
      · clear hfin; revert hok; revert x1 x2 x3 x4; decide +kernel
      · clear hfin; revert hok; revert x1 x2 x3 x4; decide +kernel
      rintro a w_ hSw ⟨m0, m1, m2, m3, m4, a0, a1, a2, a3, a4, rfl, hb, s0, s1, s2, s3, s4⟩
      dsimp only at s0 s1 s2 s3 s4 ⊢
      have hm := s0.m rfl (by first | rfl | simp)
      have hrow : w_.heap[g0]? = some (.cells (R.regsV X.R).toArray 94) := row_on (row_on HR0.out HB.out) hb
      refine wpOp_step (i := 3) rfl (fun K hK => ?_)
      rw [if_pos (by kernel_rfl)]
      refine stepX w_ (.tmp 3) (.tmp 5) 30 94 rfl (.agg #[.int .i64 0, .int .i64 0]) 2 16 Tryz.underlying30 R.infoR rfl (by decide) (w.heap.size + 1 + 1) m0 g0 n0 n0 (R.regsV X.R) rfl rfl hm hrow (by rw [HL0]) (one_int (int_R _)) k0 (by decide) (by have := hb.size; omega) ?_
      intro v' w2 ho hg
      have hg1 : Below W1.heap.size W1 w2 := hb.grown hg hb.size (fun k hk => by have := own_ge hm k hk; omega)
      exact hK _ _ ⟨⟨(gr_cell hm hg hSw.1 (by omega) (by have := hb.size; omega)), (gr_cell hm hg hSw.2.1 (by omega) (by have := hb.size; omega)), (gr_cell hm hg hSw.2.2.1 (by omega) (by have := hb.size; omega)), (gr_cell hm hg hSw.2.2.2.1 (by omega) (by have := hb.size; omega)), (gr_cell hm hg hSw.2.2.2.2.1 (by omega) (by have := hb.size; omega)), hSw.2.2.2.2.2.trans ((Below.refl _ _).grown hg (by have := hb.size; omega) (fun k hk => by have := own_ge hm k hk; omega))⟩, m0, m1, m2, m3, m4, v', a1, a2, a3, a4, rfl, hg1, ⟨fun _ h => absurd h (by simp), fun _ => ho⟩, s1.gr hm hg (by decide), s2.gr hm hg (by decide), s3.gr hm hg (by decide), s4.gr hm hg (by decide)⟩
    · obtain ⟨hx, rfl⟩ := hi
      subst hx
      have hd : decide (1 < c) = false := by clear hfin; revert hok; revert x0 x2 x3 x4 c; decide +kernel
      refine ⟨(x0, true, x2, x3, x4, c), rfl, ?_, ?_, ?_⟩
      · clear hfin hd; revert hok; revert x0 x2 x3 x4 c; decide +kernel
      · clear hfin hd; revert hok; revert x0 x2 x3 x4 c; decide +kernel
      rintro a w_ hSw ⟨m0, m1, m2, m3, m4, a0, a1, a2, a3, a4, rfl, hb, s0, s1, s2, s3, s4⟩
      dsimp only at s0 s1 s2 s3 s4 ⊢
      refine wpOp_step (i := 4) rfl (fun K hK => ?_)
      go_simp
      exact hK _ _ ⟨⟨cell_on hSw.1 (al1_k w_ _), cell_on hSw.2.1 (al1_k w_ _), cell_on hSw.2.2.1 (al1_k w_ _), cell_on hSw.2.2.2.1 (al1_k w_ _), cell_on hSw.2.2.2.2.1 (al1_k w_ _), bel_on (Nat.le_refl _) hSw.2.2.2.2.2 (al1_k w_ _)⟩, m0, _, m2, m3, m4, a0, a1, a2, a3, a4, rfl, bel_on (Nat.le_refl _) hb (al1_k w_ _), s0.bel (al1_k w_ _), ⟨fun _ _ => own_new0 _ _ _ _ (by have := hb.size; omega), fun h => absurd h (by rw [hd]; exact Bool.false_ne_true)⟩, s2.bel (al1_k w_ _), s3.bel (al1_k w_ _), s4.bel (al1_k w_ _)⟩
    · obtain ⟨⟨rfl, rfl⟩, rfl⟩ := hi
      refine ⟨(x0, true, x2, x3, x4, 2), rfl, ?_, ?_, ?_⟩
      · clear hfin; revert hok; revert x0 x2 x3 x4; decide +kernel
      · clear hfin; revert hok; revert x0 x2 x3 x4; decide +kernel
      rintro a w_ hSw ⟨m0, m1, m2, m3, m4, a0, a1, a2, a3, a4, rfl, hb, s0, s1, s2, s3, s4⟩
      dsimp only at s0 s1 s2 s3 s4 ⊢
      have hm := s1.m rfl (by first | rfl | simp)
      have hrow : w_.heap[g1]? = some (.cells (regsV X.W).toArray 98) := row_on (row_on HR1.out HB.out) hb
      refine wpOp_step (i := 7) rfl (fun K hK => ?_)
      rw [if_pos (by kernel_rfl)]
      refine stepX w_ (.tmp 7) (.tmp 9) 31 98 rfl (.agg #[.int .i64 0, .int .i64 0]) 2 16 Tryz.underlying31 infoR rfl (by decide) (w.heap.size + 1 + 1) m1 g1 n1 n1 (regsV X.W) rfl rfl hm hrow (by rw [HL1]) (one_int (int_W _)) k1 (by decide) (by have := hb.size; omega) ?_
      intro v' w2 ho hg
      have hg1 : Below W1.heap.size W1 w2 := hb.grown hg hb.size (fun k hk => by have := own_ge hm k hk; omega)
      exact hK _ _ ⟨⟨(gr_cell hm hg hSw.1 (by omega) (by have := hb.size; omega)), (gr_cell hm hg hSw.2.1 (by omega) (by have := hb.size; omega)), (gr_cell hm hg hSw.2.2.1 (by omega) (by have := hb.size; omega)), (gr_cell hm hg hSw.2.2.2.1 (by omega) (by have := hb.size; omega)), (gr_cell hm hg hSw.2.2.2.2.1 (by omega) (by have := hb.size; omega)), hSw.2.2.2.2.2.trans ((Below.refl _ _).grown hg (by have := hb.size; omega) (fun k hk => by have := own_ge hm k hk; omega))⟩, m0, m1, m2, m3, m4, a0, v', a2, a3, a4, rfl, hg1, s0.gr hm hg (by decide), ⟨fun _ h => absurd h (by simp), fun _ => ho⟩, s2.gr hm hg (by decide), s3.gr hm hg (by decide), s4.gr hm hg (by decide)⟩
    · obtain ⟨hx, rfl⟩ := hi
      subst hx
      have hd : decide (2 < c) = false := by clear hfin; revert hok; revert x0 x1 x3 x4 c; decide +kernel
      refine ⟨(x0, x1, true, x3, x4, c), rfl, ?_, ?_, ?_⟩
      · clear hfin hd; revert hok; revert x0 x1 x3 x4 c; decide +kernel
      · clear hfin hd; revert hok; revert x0 x1 x3 x4 c; decide +kernel
      rintro a w_ hSw ⟨m0, m1, m2, m3, m4, a0, a1, a2, a3, a4, rfl, hb, s0, s1, s2, s3, s4⟩
      dsimp only at s0 s1 s2 s3 s4 ⊢
      refine wpOp_step (i := 8) rfl (fun K hK => ?_)
      go_simp
      exact hK _ _ ⟨⟨cell_on hSw.1 (al1_k w_ _), cell_on hSw.2.1 (al1_k w_ _), cell_on hSw.2.2.1 (al1_k w_ _), cell_on hSw.2.2.2.1 (al1_k w_ _), cell_on hSw.2.2.2.2.1 (al1_k w_ _), bel_on (Nat.le_refl _) hSw.2.2.2.2.2 (al1_k w_ _)⟩, m0, m1, _, m3, m4, a0, a1, a2, a3, a4, rfl, bel_on (Nat.le_refl _) hb (al1_k w_ _), s0.bel (al1_k w_ _), s1.bel (al1_k w_ _), ⟨fun _ _ => own_new0 _ _ _ _ (by have := hb.size; omega), fun h => absurd h (by rw [hd]; exact Bool.false_ne_true)⟩, s3.bel (al1_k w_ _), s4.bel (al1_k w_ _)⟩
    · obtain ⟨⟨rfl, rfl⟩, rfl⟩ := hi
      refine ⟨(x0, x1, true, x3, x4, 3), rfl, ?_, ?_, ?_⟩
      · clear hfin; revert hok; revert x0 x1 x3 x4; decide +kernel
      · clear hfin; revert hok; revert x0 x1 x3 x4; decide +kernel
      rintro a w_ hSw ⟨m0, m1, m2, m3, m4, a0, a1, a2, a3, a4, rfl, hb, s0, s1, s2, s3, s4⟩
      dsimp only at s0 s1 s2 s3 s4 ⊢
      have hm := s2.m rfl (by first | rfl | simp)
      have hrow : w_.heap[g2]? = some (.cells (prtV X.O).toArray 88) := row_on (row_on HR2.out HB.out) hb
      refine wpOp_step (i := 11) rfl (fun K hK => ?_)
      rw [if_pos (by kernel_rfl)]
      refine stepX w_ (.tmp 11) (.tmp 13) 32 88 rfl (.agg #[.int .i64 0, .int .i64 0, .int .i64 0, .int .i64 0, .int .i64 0]) 5 40 Tryz.underlying32 infoO rfl (by decide) (w.heap.size + 1 + 1) m2 g2 n2 n2 (prtV X.O) rfl rfl hm hrow (by rw [HL2]) (one_int (int_O _)) k2 (by decide) (by have := hb.size; omega) ?_
      intro v' w2 ho hg
      have hg1 : Below W1.heap.size W1 w2 := hb.grown hg hb.size (fun k hk => by have := own_ge hm k hk; omega)
      exact hK _ _ ⟨⟨(gr_cell hm hg hSw.1 (by omega) (by have := hb.size; omega)), (gr_cell hm hg hSw.2.1 (by omega) (by have := hb.size; omega)), (gr_cell hm hg hSw.2.2.1 (by omega) (by have := hb.size; omega)), (gr_cell hm hg hSw.2.2.2.1 (by omega) (by have := hb.size; omega)), (gr_cell hm hg hSw.2.2.2.2.1 (by omega) (by have := hb.size; omega)), hSw.2.2.2.2.2.trans ((Below.refl _ _).grown hg (by have := hb.size; omega) (fun k hk => by have := own_ge hm k hk; omega))⟩, m0, m1, m2, m3, m4, a0, a1, v', a3, a4, rfl, hg1, s0.gr hm hg (by decide), s1.gr hm hg (by decide), ⟨fun _ h => absurd h (by simp), fun _ => ho⟩, s3.gr hm hg (by decide), s4.gr hm hg (by decide)⟩
    · obtain ⟨hx, rfl⟩ := hi
      subst hx
      have hd : decide (3 < c) = false := by clear hfin; revert hok; revert x0 x1 x2 x4 c; decide +kernel
      refine ⟨(x0, x1, x2, true, x4, c), rfl, ?_, ?_, ?_⟩
      · clear hfin hd; revert hok; revert x0 x1 x2 x4 c; decide +kernel
      · clear hfin hd; revert hok; revert x0 x1 x2 x4 c; decide +kernel
      rintro a w_ hSw ⟨m0, m1, m2, m3, m4, a0, a1, a2, a3, a4, rfl, hb, s0, s1, s2, s3, s4⟩
      dsimp only at s0 s1 s2 s3 s4 ⊢
      refine wpOp_step (i := 12) rfl (fun K hK => ?_)
      go_simp
      exact hK _ _ ⟨⟨cell_on hSw.1 (al1_k w_ _), cell_on hSw.2.1 (al1_k w_ _), cell_on hSw.2.2.1 (al1_k w_ _), cell_on hSw.2.2.2.1 (al1_k w_ _), cell_on hSw.2.2.2.2.1 (al1_k w_ _), bel_on (Nat.le_refl _) hSw.2.2.2.2.2 (al1_k w_ _)⟩, m0, m1, m2, _, m4, a0, a1, a2, a3, a4, rfl, bel_on (Nat.le_refl _) hb (al1_k w_ _), s0.bel (al1_k w_ _), s1.bel (al1_k w_ _), s2.bel (al1_k w_ _), ⟨fun _ _ => own_new0 _ _ _ _ (by have := hb.size; omega), fun h => absurd h (by rw [hd]; exact Bool.false_ne_true)⟩, s4.bel (al1_k w_ _)⟩
    · obtain ⟨⟨rfl, rfl⟩, rfl⟩ := hi
      refine ⟨(x0, x1, x2, true, x4, 4), rfl, ?_, ?_, ?_⟩
      · clear hfin; revert hok; revert x0 x1 x2 x4; decide +kernel
      · clear hfin; revert hok; revert x0 x1 x2 x4; decide +kernel
      rintro a w_ hSw ⟨m0, m1, m2, m3, m4, a0, a1, a2, a3, a4, rfl, hb, s0, s1, s2, s3, s4⟩
      dsimp only at s0 s1 s2 s3 s4 ⊢
      have hm := s3.m rfl (by first | rfl | simp)
      have hrow : w_.heap[g3]? = some (.cells (rulV X.U).toArray 104) := row_on (row_on HR3.out HB.out) hb
      refine wpOp_step (i := 15) rfl (fun K hK => ?_)
      rw [if_pos (by kernel_rfl)]
      refine stepX w_ (.tmp 15) (.tmp 17) 33 104 rfl (.agg #[.int .i64 0, .int .i64 0, .int .i64 0]) 3 24 Tryz.underlying33 infoU rfl (by decide) (w.heap.size + 1 + 1) m3 g3 n3 n3 (rulV X.U) rfl rfl hm hrow (by rw [HL3]) (one_int (int_U _)) k3 (by decide) (by have := hb.size; omega) ?_
      intro v' w2 ho hg
      have hg1 : Below W1.heap.size W1 w2 := hb.grown hg hb.size (fun k hk => by have := own_ge hm k hk; omega)
      exact hK _ _ ⟨⟨(gr_cell hm hg hSw.1 (by omega) (by have := hb.size; omega)), (gr_cell hm hg hSw.2.1 (by omega) (by have := hb.size; omega)), (gr_cell hm hg hSw.2.2.1 (by omega) (by have := hb.size; omega)), (gr_cell hm hg hSw.2.2.2.1 (by omega) (by have := hb.size; omega)), (gr_cell hm hg hSw.2.2.2.2.1 (by omega) (by have := hb.size; omega)), hSw.2.2.2.2.2.trans ((Below.refl _ _).grown hg (by have := hb.size; omega) (fun k hk => by have := own_ge hm k hk; omega))⟩, m0, m1, m2, m3, m4, a0, a1, a2, v', a4, rfl, hg1, s0.gr hm hg (by decide), s1.gr hm hg (by decide), s2.gr hm hg (by decide), ⟨fun _ h => absurd h (by simp), fun _ => ho⟩, s4.gr hm hg (by decide)⟩
    · obtain ⟨hx, rfl⟩ := hi
      subst hx
      have hd : decide (4 < c) = false := by clear hfin; revert hok; revert x0 x1 x2 x3 c; decide +kernel
      refine ⟨(x0, x1, x2, x3, true, c), rfl, ?_, ?_, ?_⟩
      · clear hfin hd; revert hok; revert x0 x1 x2 x3 c; decide +kernel
      · clear hfin hd; revert hok; revert x0 x1 x2 x3 c; decide +kernel
      rintro a w_ hSw ⟨m0, m1, m2, m3, m4, a0, a1, a2, a3, a4, rfl, hb, s0, s1, s2, s3, s4⟩
      dsimp only at s0 s1 s2 s3 s4 ⊢
      refine wpOp_step (i := 16) rfl (fun K hK => ?_)
      go_simp
      exact hK _ _ ⟨⟨cell_on hSw.1 (al1_k w_ _), cell_on hSw.2.1 (al1_k w_ _), cell_on hSw.2.2.1 (al1_k w_ _), cell_on hSw.2.2.2.1 (al1_k w_ _), cell_on hSw.2.2.2.2.1 (al1_k w_ _), bel_on (Nat.le_refl _) hSw.2.2.2.2.2 (al1_k w_ _)⟩, m0, m1, m2, m3, _, a0, a1, a2, a3, a4, rfl, bel_on (Nat.le_refl _) hb (al1_k w_ _), s0.bel (al1_k w_ _), s1.bel (al1_k w_ _), s2.bel (al1_k w_ _), s3.bel (al1_k w_ _), ⟨fun _ _ => own_new0 _ _ _ _ (by have := hb.size; omega), fun h => absurd h (by rw [hd]; exact Bool.false_ne_true)⟩⟩
    · obtain ⟨⟨rfl, rfl⟩, rfl⟩ := hi
      refine ⟨(x0, x1, x2, x3, true, 5), rfl, ?_, ?_, ?_⟩
      · clear hfin; revert hok; revert x0 x1 x2 x3; decide +kernel
      · clear hfin; revert hok; revert x0 x1 x2 x3; decide +kernel
      rintro a w_ hSw ⟨m0, m1, m2, m3, m4, a0, a1, a2, a3, a4, rfl, hb, s0, s1, s2, s3, s4⟩
      dsimp only at s0 s1 s2 s3 s4 ⊢
      have hm := s4.m rfl (by first | rfl | simp)
      have hrow : w_.heap[g4]? = some (.cells (S.strV X.S).toArray 9) := row_on (row_on HR4.out HB.out) hb
      refine wpOp_step (i := 19) rfl (fun K hK => ?_)
      rw [if_pos (by kernel_rfl)]
      refine stepX w_ (.tmp 19) (.tmp 21) 26 9 rfl (.string ⟨#[]⟩) 1 16 Tryz.underlying26 S.info9 rfl (by decide) (w.heap.size + 1 + 1) m4 g4 n4 n4 (S.strV X.S) rfl rfl hm hrow (by rw [HL4]; omega) (one_str (str_S _)) k4 (by decide) (by have := hb.size; omega) ?_
      intro v' w2 ho hg
      have hg1 : Below W1.heap.size W1 w2 := hb.grown hg hb.size (fun k hk => by have := own_ge hm k hk; omega)
      exact hK _ _ ⟨⟨(gr_cell hm hg hSw.1 (by omega) (by have := hb.size; omega)), (gr_cell hm hg hSw.2.1 (by omega) (by have := hb.size; omega)), (gr_cell hm hg hSw.2.2.1 (by omega) (by have := hb.size; omega)), (gr_cell hm hg hSw.2.2.2.1 (by omega) (by have := hb.size; omega)), (gr_cell hm hg hSw.2.2.2.2.1 (by omega) (by have := hb.size; omega)), hSw.2.2.2.2.2.trans ((Below.refl _ _).grown hg (by have := hb.size; omega) (fun k hk => by have := own_ge hm k hk; omega))⟩, m0, m1, m2, m3, m4, a0, a1, a2, a3, v', rfl, hg1, s0.gr hm hg (by decide), s1.gr hm hg (by decide), s2.gr hm hg (by decide), s3.gr hm hg (by decide), ⟨fun _ h => absurd h (by simp), fun _ => ho⟩⟩
  · rintro ⟨x0, x1, x2, x3, x4, c⟩ a w_ f hok hfin hf hSw ⟨m0, m1, m2, m3, m4, a0, a1, a2, a3, a4, rfl, hb, s0, s1, s2, s3, s4⟩
    dsimp only at hok hfin hf s0 s1 s2 s3 s4 ⊢
    obtain rfl : c = 5 := by simpa using hfin
    obtain ⟨rfl, rfl, rfl, rfl, rfl⟩ : x0 = true ∧ x1 = true ∧ x2 = true ∧ x3 = true ∧ x4 = true := by clear hf s0 s1 s2 s3 s4 hfin; revert hok; revert x0 x1 x2 x3 x4; decide +kernel
    obtain ⟨f2, rfl⟩ : ∃ f2, f = f2 + 2 := ⟨f - 2, by simp at hf; omega⟩
    have o0 := s0.a (by first | rfl | simp)
    obtain ⟨q0, c0, rfl⟩ := own_slice o0
    have o1 := s1.a (by first | rfl | simp)
    obtain ⟨q1, c1, rfl⟩ := own_slice o1
    have o2 := s2.a (by first | rfl | simp)
    obtain ⟨q2, c2, rfl⟩ := own_slice o2
    have o3 := s3.a (by first | rfl | simp)
    obtain ⟨q3, c3, rfl⟩ := own_slice o3
    have o4 := s4.a (by first | rfl | simp)
    obtain ⟨q4, c4, rfl⟩ := own_slice o4
    have hz : w_.heap[w.heap.size + 1]? = some (.cells #[.slice none 0 0, .slice none 0 0, .slice none 0 0, .slice none 0 0, .slice none 0 0] 35) := (hb.block _ (by omega)).trans HZ.out
    have kz := boxO_cells hz
    have ne := fun (q : Option Addr) (n c' : Nat) (hge : ∀ g, (Value.slice q n c').ownBlock = some g → w.heap.size + 1 + 1 ≤ g) => (fun e => by have := hge _ e; omega : (Value.slice q n c').ownBlock ≠ some (w.heap.size + 1))
    refine wpAnyH_ready (rs := [20]) (by kernel_rfl) (by simp) ?_
    refine AllReadyH.cons rfl (fun K hK => ?_) AllReadyH.nil
    go_simp
    refine hK.out _ _ hSw (fun hHeld2 => ?_)
    clear hK K hHeld2
    refine wpAnyH_ready (rs := [21]) (by kernel_rfl) (by simp) ?_
    refine AllReadyH.cons rfl (fun K hK => ?_) AllReadyH.nil
    go_simp
    have ne0 := ne q0 n0 c0 (own_ge o0)
    have ne1 := ne q1 n1 c1 (own_ge o1)
    have ne2 := ne q2 n2 c2 (own_ge o2)
    have ne3 := ne q3 n3 c3 (own_ge o3)
    have ne4 := ne q4 n4 c4 (own_ge o4)
    have HO : Hid (OwnX (((((w_.setCell ⟨w.heap.size + 1, 0, none⟩ (.slice q0 n0 c0)).setCell ⟨w.heap.size + 1, 1, none⟩ (.slice q1 n1 c1)).setCell ⟨w.heap.size + 1, 2, none⟩ (.slice q2 n2 c2)).setCell ⟨w.heap.size + 1, 3, none⟩ (.slice q3 n3 c3)).setCell ⟨w.heap.size + 1, 4, none⟩ (.slice q4 n4 c4)) (w.heap.size + 1 + 1) ⟨q0, n0, c0, q1, n1, c1, q2, n2, c2, q3, n3, c3, q4, n4, c4⟩ X) := ⟨own_set11 (own_set11 (own_set11 (own_set11 (own_set11 o0 ne0) ne0) ne0) ne0) ne0, own_set11 (own_set11 (own_set11 (own_set11 (own_set11 o1 ne1) ne1) ne1) ne1) ne1, own_set11 (own_set11 (own_set11 (own_set11 (own_set11 o2 ne2) ne2) ne2) ne2) ne2, own_set11 (own_set11 (own_set11 (own_set11 (own_set11 o3 ne3) ne3) ne3) ne3) ne3, own_set11 (own_set11 (own_set11 (own_set11 (own_set11 o4 ne4) ne4) ne4) ne4) ne4⟩
    have HQ : Hid ((((((w_.setCell ⟨w.heap.size + 1, 0, none⟩ (.slice q0 n0 c0)).setCell ⟨w.heap.size + 1, 1, none⟩ (.slice q1 n1 c1)).setCell ⟨w.heap.size + 1, 2, none⟩ (.slice q2 n2 c2)).setCell ⟨w.heap.size + 1, 3, none⟩ (.slice q3 n3 c3)).setCell ⟨w.heap.size + 1, 4, none⟩ (.slice q4 n4 c4)).heap[w.heap.size + 1]? = some (.cells #[.slice q0 n0 c0, .slice q1 n1 c1, .slice q2 n2 c2, .slice q3 n3 c3, .slice q4 n4 c4] 35)) := set_row5 (set_row5 (set_row5 (set_row5 (set_row5 hz 0 _) 1 _) 2 _) 3 _) 4 _
    have HBF : Hid (Below w.heap.size w (((((w_.setCell ⟨w.heap.size + 1, 0, none⟩ (.slice q0 n0 c0)).setCell ⟨w.heap.size + 1, 1, none⟩ (.slice q1 n1 c1)).setCell ⟨w.heap.size + 1, 2, none⟩ (.slice q2 n2 c2)).setCell ⟨w.heap.size + 1, 3, none⟩ (.slice q3 n3 c3)).setCell ⟨w.heap.size + 1, 4, none⟩ (.slice q4 n4 c4))) := ((((hSw.2.2.2.2.2.setCell (by show _ ≤ w.heap.size + 1; omega) _).setCell (by show _ ≤ w.heap.size + 1; omega) _).setCell (by show _ ≤ w.heap.size + 1; omega) _).setCell (by show _ ≤ w.heap.size + 1; omega) _).setCell (by show _ ≤ w.heap.size + 1; omega) _
    have hSF := put5_cell hSw.1 (show w.heap.size ≠ w.heap.size + 1 by omega) (.slice q0 n0 c0) (.slice q1 n1 c1) (.slice q2 n2 c2) (.slice q3 n3 c3) (.slice q4 n4 c4)
    have hSG := put5_cell hSw.2.1 (show w.heap.size ≠ w.heap.size + 1 by omega) (.slice q0 n0 c0) (.slice q1 n1 c1) (.slice q2 n2 c2) (.slice q3 n3 c3) (.slice q4 n4 c4)
    have hSH := put5_cell hSw.2.2.1 (show w.heap.size ≠ w.heap.size + 1 by omega) (.slice q0 n0 c0) (.slice q1 n1 c1) (.slice q2 n2 c2) (.slice q3 n3 c3) (.slice q4 n4 c4)
    have hSI := put5_cell hSw.2.2.2.1 (show w.heap.size ≠ w.heap.size + 1 by omega) (.slice q0 n0 c0) (.slice q1 n1 c1) (.slice q2 n2 c2) (.slice q3 n3 c3) (.slice q4 n4 c4)
    have hSJ := put5_cell hSw.2.2.2.2.1 (show w.heap.size ≠ w.heap.size + 1 by omega) (.slice q0 n0 c0) (.slice q1 n1 c1) (.slice q2 n2 c2) (.slice q3 n3 c3) (.slice q4 n4 c4)
    refine hK.out _ _ ⟨hSF, hSG, hSH, hSI, hSJ, HBF.out⟩ (fun hHeld2 => ?_)
    clear hK K hHeld2 hSF hSG hSH hSI hSJ o0 o1 o2 o3 o4 s0 s1 s2 s3 s4 hz kz hSw
    refine wpAnyH_done (by kernel_rfl) ?_ _
    obtain ⟨WF, hWF⟩ : ∃ W, W = (((((w_.setCell ⟨w.heap.size + 1, 0, none⟩ (.slice q0 n0 c0)).setCell ⟨w.heap.size + 1, 1, none⟩ (.slice q1 n1 c1)).setCell ⟨w.heap.size + 1, 2, none⟩ (.slice q2 n2 c2)).setCell ⟨w.heap.size + 1, 3, none⟩ (.slice q3 n3 c3)).setCell ⟨w.heap.size + 1, 4, none⟩ (.slice q4 n4 c4)) := ⟨_, rfl⟩
    rw [← hWF] at HO HQ HBF ⊢
    clear hWF
    have kf := boxO_cells HQ.out
    go_wp2
    refine bodyPost_ret (v := .agg #[.slice q0 n0 c0, .slice q1 n1 c1, .slice q2 n2 c2, .slice q3 n3 c3, .slice q4 n4 c4]) (by simp [results, Tryz.results19, go_sem, kf]) rfl ⟨⟨q0, n0, c0, q1, n1, c1, q2, n2, c2, q3, n3, c3, q4, n4, c4⟩, rfl, ⟨own_mono HO.out.o0 (by omega), own_mono HO.out.o1 (by omega), own_mono HO.out.o2 (by omega), own_mono HO.out.o3 (by omega), own_mono HO.out.o4 (by omega)⟩, HBF.out⟩
end Go.Proofs.YtphijlknefgkiaaGreatDoor

namespace Go.Proofs.YtphijlknefgkiaaGreatDoor
open Go.ChangeShapes Go.WideShapes Go.ChangeAt Go.RowKit Go.PlainAid
set_option linter.unusedVariables false

theorem run_copy_rowN (w : World) (Kn : Nat) (dT sT ty elem : TypeId) (g o n dCap : Nat) (a : Addr) (sCap : Nat) (cur : Array Value) (t : TypeId) (cs : List Value)
    (hu : Tryz.prog.underlying dT = some (.slice elem)) (hs : (Tryz.prog.info? elem).map (·.size) = some Kn)
    (hg : w.heap[g]? = some (.cells cur t (0, 0))) (hn : cs.length = n * Kn)
    (hsrc : ∀ j v, cs[j]? = some v → w.cell? (a.add j) = some v) (hfit : o + cs.length ≤ cur.size) (h1 : ∀ v ∈ cs, v.oneCell' = true) :
    (Builtin.copy_ #[dT, sT] ty #[.slice (some ⟨g, o, none⟩) n dCap, .slice (some a) n sCap]).run Tryz.prog w =
      .ok (goInt n) (w.setRow g (cur.toList.take o ++ cs ++ cur.toList.drop (o + cs.length)).toArray) := by
  have hl := run_loadCells_list (P := Tryz.prog) w a cs hsrc
  have hst := run_storeCells_at Tryz.prog g o t cs 0 cur w hg (by simpa using hfit) h1
  cases hq : Tryz.prog.info? elem with
  | none => simp [hq] at hs
  | some i =>
    have hi : i.size = Kn := by simpa [hq] using hs
    rw [hn] at hl hst
    rw [hn]
    simp [Builtin.copy_, run_underlying hu, Builtin.lenOf, Builtin.firstCells, sizeOf, typeInfo, hq, hi, hl, hst]
theorem run_copy_noneN (w : World) (Kn : Nat) (dT sT ty elem : TypeId) (d a : Option Addr) (dCap sCap : Nat) (hu : Tryz.prog.underlying dT = some (.slice elem)) (hs : (Tryz.prog.info? elem).map (·.size) = some Kn) :
    (Builtin.copy_ #[dT, sT] ty #[.slice d 0 dCap, .slice a 0 sCap]).run Tryz.prog w = .ok (goInt 0) w := by
  cases hq : Tryz.prog.info? elem with
  | none => simp [hq] at hs
  | some i =>
    have hl : ∀ (x : Addr), (loadCells x 0).run Tryz.prog w = .ok #[] w := fun x => by simpa using run_loadCells_list (P := Tryz.prog) w x [] (by simp)
    cases d <;> cases a <;> simp [Builtin.copy_, run_underlying hu, Builtin.lenOf, Builtin.firstCells, sizeOf, typeInfo, hq, storeCells, hl]
theorem sizeR12 : (Tryz.prog.info? 94).map (·.size) = some 2 := by kernel_rfl
theorem run_cpR (w : World) (a : Option Addr) (l : List (Int × Int)) (n cap : Nat) (hl : l.length = n) (hr : R.RdR (w.alloc (.cells (R.regsV (List.replicate n (0, 0))).toArray 94)) a l) :
    (Builtin.copy_ #[30, 30] 3 #[.slice (some ⟨w.heap.size, 0, none⟩) n n, .slice a n cap]).run Tryz.prog (w.alloc (.cells (R.regsV (List.replicate n (0, 0))).toArray 94)) = .ok (.int .i64 n) (w.alloc (.cells (R.regsV l).toArray 94)) := by
  by_cases h0 : n = 0
  · subst h0
    obtain rfl : l = [] := List.eq_nil_of_length_eq_zero hl
    rw [run_copy_noneN _ 2 30 30 3 94 _ _ 0 cap Tryz.underlying30 sizeR12]
    rfl
  · obtain ⟨g, off, rfl, hc⟩ := hr (by omega)
    have hlen : (R.regsV l).length = n * 2 := by rw [R.regsV_len, hl]
    have hcell : ∀ j v, (R.regsV l)[j]? = some v → (w.alloc (.cells (R.regsV (List.replicate n (0, 0))).toArray 94)).cell? ((⟨g, off, none⟩ : Addr).add j) = some v := by
      intro j v hv
      have hj : j < n * 2 := by
        rcases Nat.lt_or_ge j (n * 2) with h' | h'
        · exact h'
        · rw [List.getElem?_eq_none (by omega)] at hv; cases hv
      have ha := R.regsV_at l (j / 2) (by omega)
      have hb := hc (j / 2) (by omega)
      rw [add_at]
      have h3 : j % 2 = 0 ∨ j % 2 = 1 := by omega
      rcases h3 with e | e
      · have h1 := ha.1
        have h2 := hb.1
        rw [show j / 2 * 2 = j by omega, hv] at h1
        rw [show off + j / 2 * 2 = off + j by omega] at h2
        rw [h2]; exact h1.symm
      · have h1 := ha.2
        have h2 := hb.2
        rw [show j / 2 * 2 + 1 = j by omega, hv] at h1
        rw [show off + j / 2 * 2 + 1 = off + j by omega] at h2
        rw [h2]; exact h1.symm
    rw [run_copy_rowN _ 2 30 30 3 94 w.heap.size 0 n n ⟨g, off, none⟩ cap (R.regsV (List.replicate n (0, 0))).toArray 94 (R.regsV l) Tryz.underlying30 sizeR12 (heap_new w _) hlen hcell (by rw [hlen]; simp [R.regsV_len]) (R.regsV_one l)]
    rw [hlen, World.setRow_alloc_new]
    have : List.take 0 (R.regsV (List.replicate n (0, 0))).toArray.toList ++ R.regsV l ++ List.drop (0 + n * 2) (R.regsV (List.replicate n (0, 0))).toArray.toList = R.regsV l := by
      simp [R.regsV_len]
    rw [this]
    rfl
set_option maxRecDepth 100000 in
set_option maxHeartbeats 1000000 in
theorem cpR (a : Option Addr) (l : List (Int × Int)) (n cap : Nat) (hl : l.length = n) (hn : n ≤ 1048576) (w : World) (hr : R.RdR w a l) :
    Calls Tryz.prog 68 #[.slice a n cap] w fun e w' => e = .returned (.slice (some ⟨w.heap.size, 0, none⟩) n n) ∧ R.RowR w' w.heap.size l ∧ Below w.heap.size w w' := by
  have hmk := R.makeR n hn
  have HB : Hid (Below w.heap.size w (w.alloc (.cells (R.regsV (List.replicate n (0, 0))).toArray 94))) := (Below.refl _ _).alloc (Nat.le_refl _) _
  have hcp := run_cpR w a l n cap hl (hr.keep HB.out (Nat.le_refl _))
  have HR : Hid (R.RowR (w.alloc (.cells (R.regsV l).toArray 94)) w.heap.size l) := heap_new w _
  clear hr hl
  go_enter Tryz.func68, Tryz.ntmps68
  go_wp2
  go_ret
  exact ⟨rfl, HR.out, (Below.refl _ _).alloc (Nat.le_refl _) _⟩
theorem sizeW12 : (Tryz.prog.info? 98).map (·.size) = some 2 := by kernel_rfl
theorem run_cpW (w : World) (a : Option Addr) (l : List (Int × Int)) (n cap : Nat) (hl : l.length = n) (hr : RdR (w.alloc (.cells (regsV (List.replicate n (0, 0))).toArray 98)) a l) :
    (Builtin.copy_ #[31, 31] 3 #[.slice (some ⟨w.heap.size, 0, none⟩) n n, .slice a n cap]).run Tryz.prog (w.alloc (.cells (regsV (List.replicate n (0, 0))).toArray 98)) = .ok (.int .i64 n) (w.alloc (.cells (regsV l).toArray 98)) := by
  by_cases h0 : n = 0
  · subst h0
    obtain rfl : l = [] := List.eq_nil_of_length_eq_zero hl
    rw [run_copy_noneN _ 2 31 31 3 98 _ _ 0 cap Tryz.underlying31 sizeW12]
    rfl
  · obtain ⟨g, off, rfl, hc⟩ := hr (by omega)
    have hlen : (regsV l).length = n * 2 := by rw [regsV_len, hl]
    have hcell : ∀ j v, (regsV l)[j]? = some v → (w.alloc (.cells (regsV (List.replicate n (0, 0))).toArray 98)).cell? ((⟨g, off, none⟩ : Addr).add j) = some v := by
      intro j v hv
      have hj : j < n * 2 := by
        rcases Nat.lt_or_ge j (n * 2) with h' | h'
        · exact h'
        · rw [List.getElem?_eq_none (by omega)] at hv; cases hv
      have ha := regsV_at l (j / 2) (by omega)
      have hb := hc (j / 2) (by omega)
      rw [add_at]
      have h3 : j % 2 = 0 ∨ j % 2 = 1 := by omega
      rcases h3 with e | e
      · have h1 := ha.1
        have h2 := hb.1
        rw [show j / 2 * 2 = j by omega, hv] at h1
        rw [show off + j / 2 * 2 = off + j by omega] at h2
        rw [h2]; exact h1.symm
      · have h1 := ha.2
        have h2 := hb.2
        rw [show j / 2 * 2 + 1 = j by omega, hv] at h1
        rw [show off + j / 2 * 2 + 1 = off + j by omega] at h2
        rw [h2]; exact h1.symm
    rw [run_copy_rowN _ 2 31 31 3 98 w.heap.size 0 n n ⟨g, off, none⟩ cap (regsV (List.replicate n (0, 0))).toArray 98 (regsV l) Tryz.underlying31 sizeW12 (heap_new w _) hlen hcell (by rw [hlen]; simp [regsV_len]) (regsV_one l)]
    rw [hlen, World.setRow_alloc_new]
    have : List.take 0 (regsV (List.replicate n (0, 0))).toArray.toList ++ regsV l ++ List.drop (0 + n * 2) (regsV (List.replicate n (0, 0))).toArray.toList = regsV l := by
      simp [regsV_len]
    rw [this]
    rfl
set_option maxRecDepth 100000 in
set_option maxHeartbeats 1000000 in
theorem cpW (a : Option Addr) (l : List (Int × Int)) (n cap : Nat) (hl : l.length = n) (hn : n ≤ 1048576) (w : World) (hr : RdR w a l) :
    Calls Tryz.prog 69 #[.slice a n cap] w fun e w' => e = .returned (.slice (some ⟨w.heap.size, 0, none⟩) n n) ∧ RowR w' w.heap.size l ∧ Below w.heap.size w w' := by
  have hmk := makeR n hn
  have HB : Hid (Below w.heap.size w (w.alloc (.cells (regsV (List.replicate n (0, 0))).toArray 98))) := (Below.refl _ _).alloc (Nat.le_refl _) _
  have hcp := run_cpW w a l n cap hl (hr.keep HB.out (Nat.le_refl _))
  have HR : Hid (RowR (w.alloc (.cells (regsV l).toArray 98)) w.heap.size l) := heap_new w _
  clear hr hl
  go_enter Tryz.func69, Tryz.ntmps69
  go_wp2
  go_ret
  exact ⟨rfl, HR.out, (Below.refl _ _).alloc (Nat.le_refl _) _⟩
theorem sizeO12 : (Tryz.prog.info? 88).map (·.size) = some 5 := by kernel_rfl
theorem run_cpO (w : World) (a : Option Addr) (l : List Prt) (n cap : Nat) (hl : l.length = n) (hr : RdO (w.alloc (.cells (prtV (List.replicate n (0, 0, 0, 0, 0))).toArray 88)) a l) :
    (Builtin.copy_ #[32, 32] 3 #[.slice (some ⟨w.heap.size, 0, none⟩) n n, .slice a n cap]).run Tryz.prog (w.alloc (.cells (prtV (List.replicate n (0, 0, 0, 0, 0))).toArray 88)) = .ok (.int .i64 n) (w.alloc (.cells (prtV l).toArray 88)) := by
  by_cases h0 : n = 0
  · subst h0
    obtain rfl : l = [] := List.eq_nil_of_length_eq_zero hl
    rw [run_copy_noneN _ 5 32 32 3 88 _ _ 0 cap Tryz.underlying32 sizeO12]
    rfl
  · obtain ⟨g, off, rfl, hc⟩ := hr (by omega)
    have hlen : (prtV l).length = n * 5 := by rw [prtV_len, hl]
    have hcell : ∀ j v, (prtV l)[j]? = some v → (w.alloc (.cells (prtV (List.replicate n (0, 0, 0, 0, 0))).toArray 88)).cell? ((⟨g, off, none⟩ : Addr).add j) = some v := by
      intro j v hv
      have hj : j < n * 5 := by
        rcases Nat.lt_or_ge j (n * 5) with h' | h'
        · exact h'
        · rw [List.getElem?_eq_none (by omega)] at hv; cases hv
      have ha := prtV_at l (j / 5) (by omega)
      have hb := hc (j / 5) (by omega)
      rw [add_at]
      have h3 : j % 5 = 0 ∨ j % 5 = 1 ∨ j % 5 = 2 ∨ j % 5 = 3 ∨ j % 5 = 4 := by omega
      rcases h3 with e | e | e | e | e
      · have h1 := ha.1
        have h2 := hb.1
        rw [show j / 5 * 5 = j by omega, hv] at h1
        rw [show off + j / 5 * 5 = off + j by omega] at h2
        rw [h2]; exact h1.symm
      · have h1 := ha.2.1
        have h2 := hb.2.1
        rw [show j / 5 * 5 + 1 = j by omega, hv] at h1
        rw [show off + j / 5 * 5 + 1 = off + j by omega] at h2
        rw [h2]; exact h1.symm
      · have h1 := ha.2.2.1
        have h2 := hb.2.2.1
        rw [show j / 5 * 5 + 2 = j by omega, hv] at h1
        rw [show off + j / 5 * 5 + 2 = off + j by omega] at h2
        rw [h2]; exact h1.symm
      · have h1 := ha.2.2.2.1
        have h2 := hb.2.2.2.1
        rw [show j / 5 * 5 + 3 = j by omega, hv] at h1
        rw [show off + j / 5 * 5 + 3 = off + j by omega] at h2
        rw [h2]; exact h1.symm
      · have h1 := ha.2.2.2.2
        have h2 := hb.2.2.2.2
        rw [show j / 5 * 5 + 4 = j by omega, hv] at h1
        rw [show off + j / 5 * 5 + 4 = off + j by omega] at h2
        rw [h2]; exact h1.symm
    rw [run_copy_rowN _ 5 32 32 3 88 w.heap.size 0 n n ⟨g, off, none⟩ cap (prtV (List.replicate n (0, 0, 0, 0, 0))).toArray 88 (prtV l) Tryz.underlying32 sizeO12 (heap_new w _) hlen hcell (by rw [hlen]; simp [prtV_len]) (prtV_one l)]
    rw [hlen, World.setRow_alloc_new]
    have : List.take 0 (prtV (List.replicate n (0, 0, 0, 0, 0))).toArray.toList ++ prtV l ++ List.drop (0 + n * 5) (prtV (List.replicate n (0, 0, 0, 0, 0))).toArray.toList = prtV l := by
      simp [prtV_len]
    rw [this]
    rfl
set_option maxRecDepth 100000 in
set_option maxHeartbeats 1000000 in
theorem cpO (a : Option Addr) (l : List Prt) (n cap : Nat) (hl : l.length = n) (hn : n ≤ 1048576) (w : World) (hr : RdO w a l) :
    Calls Tryz.prog 70 #[.slice a n cap] w fun e w' => e = .returned (.slice (some ⟨w.heap.size, 0, none⟩) n n) ∧ RowO w' w.heap.size l ∧ Below w.heap.size w w' := by
  have hmk := makeO n hn
  have HB : Hid (Below w.heap.size w (w.alloc (.cells (prtV (List.replicate n (0, 0, 0, 0, 0))).toArray 88))) := (Below.refl _ _).alloc (Nat.le_refl _) _
  have hcp := run_cpO w a l n cap hl (hr.keep HB.out (Nat.le_refl _))
  have HR : Hid (RowO (w.alloc (.cells (prtV l).toArray 88)) w.heap.size l) := heap_new w _
  clear hr hl
  go_enter Tryz.func70, Tryz.ntmps70
  go_wp2
  go_ret
  exact ⟨rfl, HR.out, (Below.refl _ _).alloc (Nat.le_refl _) _⟩
theorem sizeU12 : (Tryz.prog.info? 104).map (·.size) = some 3 := by kernel_rfl
theorem run_cpU (w : World) (a : Option Addr) (l : List Rule) (n cap : Nat) (hl : l.length = n) (hr : RdU (w.alloc (.cells (rulV (List.replicate n (0, 0, 0))).toArray 104)) a l) :
    (Builtin.copy_ #[33, 33] 3 #[.slice (some ⟨w.heap.size, 0, none⟩) n n, .slice a n cap]).run Tryz.prog (w.alloc (.cells (rulV (List.replicate n (0, 0, 0))).toArray 104)) = .ok (.int .i64 n) (w.alloc (.cells (rulV l).toArray 104)) := by
  by_cases h0 : n = 0
  · subst h0
    obtain rfl : l = [] := List.eq_nil_of_length_eq_zero hl
    rw [run_copy_noneN _ 3 33 33 3 104 _ _ 0 cap Tryz.underlying33 sizeU12]
    rfl
  · obtain ⟨g, off, rfl, hc⟩ := hr (by omega)
    have hlen : (rulV l).length = n * 3 := by rw [rulV_len, hl]
    have hcell : ∀ j v, (rulV l)[j]? = some v → (w.alloc (.cells (rulV (List.replicate n (0, 0, 0))).toArray 104)).cell? ((⟨g, off, none⟩ : Addr).add j) = some v := by
      intro j v hv
      have hj : j < n * 3 := by
        rcases Nat.lt_or_ge j (n * 3) with h' | h'
        · exact h'
        · rw [List.getElem?_eq_none (by omega)] at hv; cases hv
      have ha := rulV_at l (j / 3) (by omega)
      have hb := hc (j / 3) (by omega)
      rw [add_at]
      have h3 : j % 3 = 0 ∨ j % 3 = 1 ∨ j % 3 = 2 := by omega
      rcases h3 with e | e | e
      · have h1 := ha.1
        have h2 := hb.1
        rw [show j / 3 * 3 = j by omega, hv] at h1
        rw [show off + j / 3 * 3 = off + j by omega] at h2
        rw [h2]; exact h1.symm
      · have h1 := ha.2.1
        have h2 := hb.2.1
        rw [show j / 3 * 3 + 1 = j by omega, hv] at h1
        rw [show off + j / 3 * 3 + 1 = off + j by omega] at h2
        rw [h2]; exact h1.symm
      · have h1 := ha.2.2
        have h2 := hb.2.2
        rw [show j / 3 * 3 + 2 = j by omega, hv] at h1
        rw [show off + j / 3 * 3 + 2 = off + j by omega] at h2
        rw [h2]; exact h1.symm
    rw [run_copy_rowN _ 3 33 33 3 104 w.heap.size 0 n n ⟨g, off, none⟩ cap (rulV (List.replicate n (0, 0, 0))).toArray 104 (rulV l) Tryz.underlying33 sizeU12 (heap_new w _) hlen hcell (by rw [hlen]; simp [rulV_len]) (rulV_one l)]
    rw [hlen, World.setRow_alloc_new]
    have : List.take 0 (rulV (List.replicate n (0, 0, 0))).toArray.toList ++ rulV l ++ List.drop (0 + n * 3) (rulV (List.replicate n (0, 0, 0))).toArray.toList = rulV l := by
      simp [rulV_len]
    rw [this]
    rfl
set_option maxRecDepth 100000 in
set_option maxHeartbeats 1000000 in
theorem cpU (a : Option Addr) (l : List Rule) (n cap : Nat) (hl : l.length = n) (hn : n ≤ 1048576) (w : World) (hr : RdU w a l) :
    Calls Tryz.prog 71 #[.slice a n cap] w fun e w' => e = .returned (.slice (some ⟨w.heap.size, 0, none⟩) n n) ∧ RowU w' w.heap.size l ∧ Below w.heap.size w w' := by
  have hmk := makeU n hn
  have HB : Hid (Below w.heap.size w (w.alloc (.cells (rulV (List.replicate n (0, 0, 0))).toArray 104))) := (Below.refl _ _).alloc (Nat.le_refl _) _
  have hcp := run_cpU w a l n cap hl (hr.keep HB.out (Nat.le_refl _))
  have HR : Hid (RowU (w.alloc (.cells (rulV l).toArray 104)) w.heap.size l) := heap_new w _
  clear hr hl
  go_enter Tryz.func71, Tryz.ntmps71
  go_wp2
  go_ret
  exact ⟨rfl, HR.out, (Below.refl _ _).alloc (Nat.le_refl _) _⟩
theorem sizeE12 : (Tryz.prog.info? 130).map (·.size) = some 5 := by kernel_rfl
theorem run_cpE (w : World) (a : Option Addr) (l : List Ent) (n cap : Nat) (hl : l.length = n) (hr : RdE (w.alloc (.cells (entV (List.replicate n (0, 0, 0, 0, 0))).toArray 130)) a l) :
    (Builtin.copy_ #[41, 41] 3 #[.slice (some ⟨w.heap.size, 0, none⟩) n n, .slice a n cap]).run Tryz.prog (w.alloc (.cells (entV (List.replicate n (0, 0, 0, 0, 0))).toArray 130)) = .ok (.int .i64 n) (w.alloc (.cells (entV l).toArray 130)) := by
  by_cases h0 : n = 0
  · subst h0
    obtain rfl : l = [] := List.eq_nil_of_length_eq_zero hl
    rw [run_copy_noneN _ 5 41 41 3 130 _ _ 0 cap Tryz.underlying41 sizeE12]
    rfl
  · obtain ⟨g, off, rfl, hc⟩ := hr (by omega)
    have hlen : (entV l).length = n * 5 := by rw [entV_len, hl]
    have hcell : ∀ j v, (entV l)[j]? = some v → (w.alloc (.cells (entV (List.replicate n (0, 0, 0, 0, 0))).toArray 130)).cell? ((⟨g, off, none⟩ : Addr).add j) = some v := by
      intro j v hv
      have hj : j < n * 5 := by
        rcases Nat.lt_or_ge j (n * 5) with h' | h'
        · exact h'
        · rw [List.getElem?_eq_none (by omega)] at hv; cases hv
      have ha := entV_at l (j / 5) (by omega)
      have hb := hc (j / 5) (by omega)
      rw [add_at]
      have h3 : j % 5 = 0 ∨ j % 5 = 1 ∨ j % 5 = 2 ∨ j % 5 = 3 ∨ j % 5 = 4 := by omega
      rcases h3 with e | e | e | e | e
      · have h1 := ha.1
        have h2 := hb.1
        rw [show j / 5 * 5 = j by omega, hv] at h1
        rw [show off + j / 5 * 5 = off + j by omega] at h2
        rw [h2]; exact h1.symm
      · have h1 := ha.2.1
        have h2 := hb.2.1
        rw [show j / 5 * 5 + 1 = j by omega, hv] at h1
        rw [show off + j / 5 * 5 + 1 = off + j by omega] at h2
        rw [h2]; exact h1.symm
      · have h1 := ha.2.2.1
        have h2 := hb.2.2.1
        rw [show j / 5 * 5 + 2 = j by omega, hv] at h1
        rw [show off + j / 5 * 5 + 2 = off + j by omega] at h2
        rw [h2]; exact h1.symm
      · have h1 := ha.2.2.2.1
        have h2 := hb.2.2.2.1
        rw [show j / 5 * 5 + 3 = j by omega, hv] at h1
        rw [show off + j / 5 * 5 + 3 = off + j by omega] at h2
        rw [h2]; exact h1.symm
      · have h1 := ha.2.2.2.2
        have h2 := hb.2.2.2.2
        rw [show j / 5 * 5 + 4 = j by omega, hv] at h1
        rw [show off + j / 5 * 5 + 4 = off + j by omega] at h2
        rw [h2]; exact h1.symm
    rw [run_copy_rowN _ 5 41 41 3 130 w.heap.size 0 n n ⟨g, off, none⟩ cap (entV (List.replicate n (0, 0, 0, 0, 0))).toArray 130 (entV l) Tryz.underlying41 sizeE12 (heap_new w _) hlen hcell (by rw [hlen]; simp [entV_len]) (entV_one l)]
    rw [hlen, World.setRow_alloc_new]
    have : List.take 0 (entV (List.replicate n (0, 0, 0, 0, 0))).toArray.toList ++ entV l ++ List.drop (0 + n * 5) (entV (List.replicate n (0, 0, 0, 0, 0))).toArray.toList = entV l := by
      simp [entV_len]
    rw [this]
    rfl
end Go.Proofs.YtphijlknefgkiaaGreatDoor

namespace Go.Proofs.YtphijlknefgkiaaGreatDoor
open Go.ChangeShapes Go.WideShapes Go.ChangeAt Go.RowKit Go.PlainAid
set_option linter.unusedVariables false
set_option linter.unusedSimpArgs false

theorem cloneK (s : ByteArray) (w : World) (hs : s.size ≤ 281474976710656) :
    Calls Tryz.prog 67 #[.string s] w fun e w' => e = .returned (.string s) ∧ Below w.heap.size w w' := by
  go_enter Tryz.func67, Tryz.ntmps67
  go_wp2_with fail
  refine (Tryz.stringslite_Clone s _ hs).mono ?_
  rintro e w1 ⟨rfl, hb⟩
  go_wp2
  go_ret
  exact ⟨rfl, hb⟩
theorem bytes_at : ∀ (l : List ByteArray) (j : Nat) (h : j < l.length), (l[j]).size ≤ S.bytesS l
  | x :: l, 0, _ => by simp [S.bytesS]
  | x :: l, j + 1, h => by
    have := bytes_at l j (by simpa using h)
    simp [S.bytesS]
    omega

set_option maxRecDepth 100000 in
set_option maxHeartbeats 4000000 in
theorem cpSet (s : SH) (X : SX) (lo : Nat) (w : World) (h : RwX w lo s X) (hs : SmX s X) :
    Calls Tryz.prog 27 #[SetV s] w fun e w' => ∃ s', e = .returned (SetV s') ∧ RwX w' w.heap.size s' X ∧ Below w.heap.size w w' := by
  obtain ⟨g0, g1, g2, g3, g4, rfl, _, r0, r1, r2, r3, r4⟩ := h.ex
  obtain ⟨k0, k1, k2, k3, k4, kb⟩ := hs
  dsimp only at k0 k1 k2 k3 k4
  clear h
  have HR0 : Hid (R.RowR w g0 X.R) := r0
  obtain ⟨n0, hn0⟩ : ∃ n, X.R.length = n := ⟨_, rfl⟩
  rw [hn0] at k0
  have HR1 : Hid (RowR w g1 X.W) := r1
  obtain ⟨n1, hn1⟩ : ∃ n, X.W.length = n := ⟨_, rfl⟩
  rw [hn1] at k1
  have HR2 : Hid (RowO w g2 X.O) := r2
  obtain ⟨n2, hn2⟩ : ∃ n, X.O.length = n := ⟨_, rfl⟩
  rw [hn2] at k2
  have HR3 : Hid (RowU w g3 X.U) := r3
  obtain ⟨n3, hn3⟩ : ∃ n, X.U.length = n := ⟨_, rfl⟩
  rw [hn3] at k3
  have HR4 : Hid (S.RowS w g4 X.S) := r4
  obtain ⟨n4, hn4⟩ : ∃ n, X.S.length = n := ⟨_, rfl⟩
  rw [hn4] at k4
  have HN : Hid (X.R.length = n0 ∧ X.W.length = n1 ∧ X.O.length = n2 ∧ X.U.length = n3 ∧ X.S.length = n4) := ⟨hn0, hn1, hn2, hn3, hn4⟩
  have HY : Hid (∀ j (h : j < X.S.length), (X.S[j]).size ≤ 1048576) := fun j h => Nat.le_trans (bytes_at X.S j h) kb
  unfold SetV
  dsimp only
  rw [hn0, hn1, hn2, hn3, hn4]
  have h4l := r4.lt
  clear r0 r1 r2 r3 r4 hn0 hn1 hn2 hn3 hn4 kb
  have HI : Hid (((w.alloc (.cells #[.slice (some ⟨g0, 0, none⟩) n0 n0, .slice (some ⟨g1, 0, none⟩) n1 n1, .slice (some ⟨g2, 0, none⟩) n2 n2, .slice (some ⟨g3, 0, none⟩) n3 n3, .slice (some ⟨g4, 0, none⟩) n4 n4] 35)).alloc (.cells #[.slice none 0 0, .slice none 0 0, .slice none 0 0, .slice none 0 0, .slice none 0 0] 35)).heap[w.heap.size]? = some (.cells #[.slice (some ⟨g0, 0, none⟩) n0 n0, .slice (some ⟨g1, 0, none⟩) n1 n1, .slice (some ⟨g2, 0, none⟩) n2 n2, .slice (some ⟨g3, 0, none⟩) n3 n3, .slice (some ⟨g4, 0, none⟩) n4 n4] 35)) := row_on (heap_new w _) ((Below.refl _ _).alloc (Nat.le_refl _) _)
  have HZ : Hid (((w.alloc (.cells #[.slice (some ⟨g0, 0, none⟩) n0 n0, .slice (some ⟨g1, 0, none⟩) n1 n1, .slice (some ⟨g2, 0, none⟩) n2 n2, .slice (some ⟨g3, 0, none⟩) n3 n3, .slice (some ⟨g4, 0, none⟩) n4 n4] 35)).alloc (.cells #[.slice none 0 0, .slice none 0 0, .slice none 0 0, .slice none 0 0, .slice none 0 0] 35)).heap[w.heap.size + 1]? = some (.cells #[.slice none 0 0, .slice none 0 0, .slice none 0 0, .slice none 0 0, .slice none 0 0] 35)) := by
    have h1 := heap_new (w.alloc (.cells #[.slice (some ⟨g0, 0, none⟩) n0 n0, .slice (some ⟨g1, 0, none⟩) n1 n1, .slice (some ⟨g2, 0, none⟩) n2 n2, .slice (some ⟨g3, 0, none⟩) n3 n3, .slice (some ⟨g4, 0, none⟩) n4 n4] 35)) (.cells #[.slice none 0 0, .slice none 0 0, .slice none 0 0, .slice none 0 0, .slice none 0 0] 35)
    rw [show (w.alloc (.cells #[.slice (some ⟨g0, 0, none⟩) n0 n0, .slice (some ⟨g1, 0, none⟩) n1 n1, .slice (some ⟨g2, 0, none⟩) n2 n2, .slice (some ⟨g3, 0, none⟩) n3 n3, .slice (some ⟨g4, 0, none⟩) n4 n4] 35)).heap.size = w.heap.size + 1 from by simp] at h1
    exact h1
  have HB : Hid (Below w.heap.size w ((w.alloc (.cells #[.slice (some ⟨g0, 0, none⟩) n0 n0, .slice (some ⟨g1, 0, none⟩) n1 n1, .slice (some ⟨g2, 0, none⟩) n2 n2, .slice (some ⟨g3, 0, none⟩) n3 n3, .slice (some ⟨g4, 0, none⟩) n4 n4] 35)).alloc (.cells #[.slice none 0 0, .slice none 0 0, .slice none 0 0, .slice none 0 0, .slice none 0 0] 35))) := ((Below.refl _ _).alloc (Nat.le_refl _) _).alloc (by simp) _
  have hS0 : ((w.alloc (.cells #[.slice (some ⟨g0, 0, none⟩) n0 n0, .slice (some ⟨g1, 0, none⟩) n1 n1, .slice (some ⟨g2, 0, none⟩) n2 n2, .slice (some ⟨g3, 0, none⟩) n3 n3, .slice (some ⟨g4, 0, none⟩) n4 n4] 35)).alloc (.cells #[.slice none 0 0, .slice none 0 0, .slice none 0 0, .slice none 0 0, .slice none 0 0] 35)).heap.size = w.heap.size + 1 + 1 := by simp
  have hmk := S.makeS n4 k4
  go_enter Tryz.func27, Tryz.ntmps27
  have ki := boxO_cells HI.out
  obtain ⟨W0, hW0⟩ : ∃ W, W = ((w.alloc (.cells #[.slice (some ⟨g0, 0, none⟩) n0 n0, .slice (some ⟨g1, 0, none⟩) n1 n1, .slice (some ⟨g2, 0, none⟩) n2 n2, .slice (some ⟨g3, 0, none⟩) n3 n3, .slice (some ⟨g4, 0, none⟩) n4 n4] 35)).alloc (.cells #[.slice none 0 0, .slice none 0 0, .slice none 0 0, .slice none 0 0, .slice none 0 0] 35)) := ⟨_, rfl⟩
  go_upto_region 1 with fail
  rw [← hW0] at HI HZ HB hS0 ki ⊢
  clear hW0
  have HI2 : Hid ((W0.alloc (.cells (S.strV (List.replicate n4 ⟨#[]⟩)).toArray 9)).heap[w.heap.size]? = some (.cells #[.slice (some ⟨g0, 0, none⟩) n0 n0, .slice (some ⟨g1, 0, none⟩) n1 n1, .slice (some ⟨g2, 0, none⟩) n2 n2, .slice (some ⟨g3, 0, none⟩) n3 n3, .slice (some ⟨g4, 0, none⟩) n4 n4] 35)) := row_on HI.out (al1_k _ _)
  have HZ2 : Hid ((W0.alloc (.cells (S.strV (List.replicate n4 ⟨#[]⟩)).toArray 9)).heap[w.heap.size + 1]? = some (.cells #[.slice none 0 0, .slice none 0 0, .slice none 0 0, .slice none 0 0, .slice none 0 0] 35)) := row_on HZ.out (al1_k _ _)
  have HB2 : Hid (Below w.heap.size w (W0.alloc (.cells (S.strV (List.replicate n4 ⟨#[]⟩)).toArray 9))) := bel_on (Nat.le_refl _) HB.out (al1_k _ _)
  have HR0w : Hid (S.RowS (W0.alloc (.cells (S.strV (List.replicate n4 ⟨#[]⟩)).toArray 9)) (w.heap.size + 1 + 1) (S.uptoS X.S n4 0)) := by rw [S.uptoS_zero]; have := heap_new W0 (.cells (S.strV (List.replicate n4 ⟨#[]⟩)).toArray 9); rw [hS0] at this; exact this
  clear HI HZ HB
  go_wp2
  go_loopg [13] n4 (fun gk i wr => ∃ j : Nat, j + gk = n4 ∧ i = .int .i64 j ∧ Hid (S.RowS wr (w.heap.size + 1 + 1) (S.uptoS X.S n4 j)) ∧ Hid (wr.heap[w.heap.size]? = some (.cells #[.slice (some ⟨g0, 0, none⟩) n0 n0, .slice (some ⟨g1, 0, none⟩) n1 n1, .slice (some ⟨g2, 0, none⟩) n2 n2, .slice (some ⟨g3, 0, none⟩) n3 n3, .slice (some ⟨g4, 0, none⟩) n4 n4] 35)) ∧ Hid (wr.heap[w.heap.size + 1]? = some (.cells #[.slice none 0 0, .slice none 0 0, .slice none 0 0, .slice none 0 0, .slice none 0 0] 35)) ∧ Hid (Below w.heap.size w wr))
  case atStart => exact ⟨0, by omega, rfl, HR0w, HI2, HZ2, HB2⟩
  case round =>
    clear HR0w HI2 HZ2 HB2 ki hmk
    obtain ⟨j, hj, rfl, HROW, HI, HZ, HB⟩ := hrel
    by_cases hlt : j < n4
    · have hjl : j < X.S.length := by have := HN.out.2.2.2.2; omega
      have c1 : wr.cell? ⟨g4, j, none⟩ = some (.string X.S[j]) := (HB.out.cell (p := ⟨g4, j, none⟩) h4l).trans (HR4.out.cell j hjl)
      have hsz := HY.out j hjl
      obtain ⟨x, hx⟩ : ∃ x, X.S[j] = x := ⟨_, rfl⟩
      rw [hx] at c1 hsz
      have HF : Hid (x = X.S[j]) := hx.symm
      clear hx
      go_wp2_with fail
      refine (cloneK x _ (by omega)).mono ?_
      rintro e w2 ⟨rfl, hb2⟩
      have HROW2 : Hid (S.RowS w2 (w.heap.size + 1 + 1) (S.uptoS X.S n4 j)) := HROW.out.on hb2
      have HI2 : Hid (w2.heap[w.heap.size]? = some (.cells #[.slice (some ⟨g0, 0, none⟩) n0 n0, .slice (some ⟨g1, 0, none⟩) n1 n1, .slice (some ⟨g2, 0, none⟩) n2 n2, .slice (some ⟨g3, 0, none⟩) n3 n3, .slice (some ⟨g4, 0, none⟩) n4 n4] 35)) := row_on HI.out hb2
      have HZ2 : Hid (w2.heap[w.heap.size + 1]? = some (.cells #[.slice none 0 0, .slice none 0 0, .slice none 0 0, .slice none 0 0, .slice none 0 0] 35)) := row_on HZ.out hb2
      have HB2 : Hid (Below w.heap.size w w2) := bel_on (Nat.le_refl _) HB.out hb2
      clear HROW HI HZ HB hb2 c1
      have hu : j < (S.uptoS X.S n4 j).length := by rw [S.uptoS_len HN.out.2.2.2.2 (by omega)]; exact hlt
      have d0 := HROW2.out.cell j hu
      have d1 := HROW2.out.free j
      have HR3 : Hid (S.RowS (w2.setCell ⟨w.heap.size + 1 + 1, j, none⟩ (.string x)) (w.heap.size + 1 + 1) (S.uptoS X.S n4 (j + 1))) := by
        have := HROW2.out.set j x
        rw [HF.out, S.uptoS_set HN.out.2.2.2.2 hlt hjl] at this
        rw [HF.out]
        exact this
      have HI3 : Hid ((w2.setCell ⟨w.heap.size + 1 + 1, j, none⟩ (.string x)).heap[w.heap.size]? = some (.cells #[.slice (some ⟨g0, 0, none⟩) n0 n0, .slice (some ⟨g1, 0, none⟩) n1 n1, .slice (some ⟨g2, 0, none⟩) n2 n2, .slice (some ⟨g3, 0, none⟩) n3 n3, .slice (some ⟨g4, 0, none⟩) n4 n4] 35)) := set_far HI2.out (by omega)
      have HZ3 : Hid ((w2.setCell ⟨w.heap.size + 1 + 1, j, none⟩ (.string x)).heap[w.heap.size + 1]? = some (.cells #[.slice none 0 0, .slice none 0 0, .slice none 0 0, .slice none 0 0, .slice none 0 0] 35)) := set_far HZ2.out (by omega)
      have HB3 : Hid (Below w.heap.size w (w2.setCell ⟨w.heap.size + 1 + 1, j, none⟩ (.string x))) := HB2.out.setCell (show w.heap.size ≤ w.heap.size + 1 + 1 by omega) _
      generalize (S.uptoS X.S n4 j)[j] = y at d0
      clear HROW2 HI2 HZ2 HB2 hu
      go_wp2
      go_roundg (gk - 1)
      case measure => omega
      case rel => exact ⟨j + 1, by omega, by go_num, HR3, HI3, HZ3, HB3⟩
    · obtain rfl : n4 = j := by omega
      have HC : Hid (S.RowS wr (w.heap.size + 1 + 1) X.S) := by have := HROW.out; rw [S.uptoS_all HN.out.2.2.2.2] at this; exact this
      clear HROW HY hj
      have ki := boxO_cells HI.out
      go_upto_region 7 with fail
      refine wp_region_held_drew (S := fun w' => w'.cell? ⟨w.heap.size, 0, none⟩ = some (.slice (some ⟨g0, 0, none⟩) n0 n0) ∧ w'.cell? ⟨w.heap.size, 1, none⟩ = some (.slice (some ⟨g1, 0, none⟩) n1 n1) ∧ w'.cell? ⟨w.heap.size, 2, none⟩ = some (.slice (some ⟨g2, 0, none⟩) n2 n2) ∧ w'.cell? ⟨w.heap.size, 3, none⟩ = some (.slice (some ⟨g3, 0, none⟩) n3 n3) ∧ Below w.heap.size w w') (by kernel_rfl) ⟨ki.1.1, ki.1.2.1, ki.1.2.2.1, ki.1.2.2.2.1, HB.out.drew⟩ (fun hHeld => ?_)
      refine wpAnyH_take (i := 0) (v := ?_) rfl (by kernel_rfl) (by kernel_rfl) (by kernel_rfl) (fun _ _ _ h => h) (Or.inl ⟨by rfl, ?_⟩) (by assumption) ?_
      rotate_left
      · intro w_ hSw; (try obtain ⟨z0_, z1_, z2_, z3_, z5_⟩ := hSw); go_simp <;> with_reducible rfl
      try simp only [Act.put, List.setIfInBounds_toArray, List.set_cons_zero, List.set_cons_succ, List.getElem_toArray, List.getElem_cons_zero, List.getElem_cons_succ]
      refine wpAnyH_take (i := 1) (v := ?_) rfl (by kernel_rfl) (by kernel_rfl) (by kernel_rfl) (fun _ _ _ h => h) (Or.inl ⟨by rfl, ?_⟩) (by assumption) ?_
      rotate_left
      · intro w_ hSw; (try obtain ⟨z0_, z1_, z2_, z3_, z5_⟩ := hSw); go_simp <;> with_reducible rfl
      try simp only [Act.put, List.setIfInBounds_toArray, List.set_cons_zero, List.set_cons_succ, List.getElem_toArray, List.getElem_cons_zero, List.getElem_cons_succ]
      refine wpAnyH_take (i := 3) (v := ?_) rfl (by kernel_rfl) (by kernel_rfl) (by kernel_rfl) (fun _ _ _ h => h) (Or.inl ⟨by rfl, ?_⟩) (by assumption) ?_
      rotate_left
      · intro w_ hSw; (try obtain ⟨z0_, z1_, z2_, z3_, z5_⟩ := hSw); go_simp <;> with_reducible rfl
      try simp only [Act.put, List.setIfInBounds_toArray, List.set_cons_zero, List.set_cons_succ, List.getElem_toArray, List.getElem_cons_zero, List.getElem_cons_succ]
      refine wpAnyH_take (i := 4) (v := ?_) rfl (by kernel_rfl) (by kernel_rfl) (by kernel_rfl) (fun _ _ _ h => h) (Or.inl ⟨by rfl, ?_⟩) (by assumption) ?_
      rotate_left
      · intro w_ hSw; (try obtain ⟨z0_, z1_, z2_, z3_, z5_⟩ := hSw); go_simp <;> with_reducible rfl
      try simp only [Act.put, List.setIfInBounds_toArray, List.set_cons_zero, List.set_cons_succ, List.getElem_toArray, List.getElem_cons_zero, List.getElem_cons_succ]
      refine wpAnyH_take (i := 6) (v := ?_) rfl (by kernel_rfl) (by kernel_rfl) (by kernel_rfl) (fun _ _ _ h => h) (Or.inl ⟨by rfl, ?_⟩) (by assumption) ?_
      rotate_left
      · intro w_ hSw; (try obtain ⟨z0_, z1_, z2_, z3_, z5_⟩ := hSw); go_simp <;> with_reducible rfl
      try simp only [Act.put, List.setIfInBounds_toArray, List.set_cons_zero, List.set_cons_succ, List.getElem_toArray, List.getElem_cons_zero, List.getElem_cons_succ]
      refine wpAnyH_take (i := 7) (v := ?_) rfl (by kernel_rfl) (by kernel_rfl) (by kernel_rfl) (fun _ _ _ h => h) (Or.inl ⟨by rfl, ?_⟩) (by assumption) ?_
      rotate_left
      · intro w_ hSw; (try obtain ⟨z0_, z1_, z2_, z3_, z5_⟩ := hSw); go_simp <;> with_reducible rfl
      try simp only [Act.put, List.setIfInBounds_toArray, List.set_cons_zero, List.set_cons_succ, List.getElem_toArray, List.getElem_cons_zero, List.getElem_cons_succ]
      refine wpAnyH_take (i := 9) (v := ?_) rfl (by kernel_rfl) (by kernel_rfl) (by kernel_rfl) (fun _ _ _ h => h) (Or.inl ⟨by rfl, ?_⟩) (by assumption) ?_
      rotate_left
      · intro w_ hSw; (try obtain ⟨z0_, z1_, z2_, z3_, z5_⟩ := hSw); go_simp <;> with_reducible rfl
      try simp only [Act.put, List.setIfInBounds_toArray, List.set_cons_zero, List.set_cons_succ, List.getElem_toArray, List.getElem_cons_zero, List.getElem_cons_succ]
      refine wpAnyH_take (i := 10) (v := ?_) rfl (by kernel_rfl) (by kernel_rfl) (by kernel_rfl) (fun _ _ _ h => h) (Or.inl ⟨by rfl, ?_⟩) (by assumption) ?_
      rotate_left
      · intro w_ hSw; (try obtain ⟨z0_, z1_, z2_, z3_, z5_⟩ := hSw); go_simp <;> with_reducible rfl
      try simp only [Act.put, List.setIfInBounds_toArray, List.set_cons_zero, List.set_cons_succ, List.getElem_toArray, List.getElem_cons_zero, List.getElem_cons_succ]
      refine wpAnyH_take (i := 12) (v := ?_) rfl (by kernel_rfl) (by kernel_rfl) (by kernel_rfl) (fun _ _ _ h => h) (Or.inl ⟨by rfl, ?_⟩) (by assumption) ?_
      rotate_left
      · intro w_ hSw; (try obtain ⟨z0_, z1_, z2_, z3_, z5_⟩ := hSw); go_simp <;> with_reducible rfl
      try simp only [Act.put, List.setIfInBounds_toArray, List.set_cons_zero, List.set_cons_succ, List.getElem_toArray, List.getElem_cons_zero, List.getElem_cons_succ]
      clear ki
      have hwr : Below wr.heap.size wr wr.drew := (Below.refl _ _).drew
      obtain ⟨u0, hu0⟩ : ∃ u, u = wr.drew := ⟨_, rfl⟩
      have HIu0 : Hid (u0.heap[w.heap.size]? = some (.cells #[.slice (some ⟨g0, 0, none⟩) n0 n0, .slice (some ⟨g1, 0, none⟩) n1 n1, .slice (some ⟨g2, 0, none⟩) n2 n2, .slice (some ⟨g3, 0, none⟩) n3 n3, .slice (some ⟨g4, 0, none⟩) n4 n4] 35)) := by rw [hu0]; exact row_on HI.out hwr
      have HZu0 : Hid (u0.heap[w.heap.size + 1]? = some (.cells #[.slice none 0 0, .slice none 0 0, .slice none 0 0, .slice none 0 0, .slice none 0 0] 35)) := by rw [hu0]; exact row_on HZ.out hwr
      have HBu0 : Hid (Below w.heap.size w u0) := by rw [hu0]; exact bel_on (Nat.le_refl _) HB.out hwr
      have HCu0 : Hid (S.RowS u0 (w.heap.size + 1 + 1) X.S) := by rw [hu0]; exact HC.out.on hwr
      rw [← hu0] at hHeld ⊢
      clear hu0 hwr HI HZ HB HC
      refine wpAnyH_ready (rs := [2]) (by kernel_rfl) (by simp) ?_
      refine AllReadyH.cons rfl (fun K hK => ?_) AllReadyH.nil
      go_simp
      go_at_call 68
      refine (cpR (some ⟨g0, 0, none⟩) X.R n0 n0 HN.out.1 k0 _ (HR0.out.rd.keep HBu0.out (Nat.le_refl _))).mono ?_
      rintro e u1 ⟨rfl, hrow, hb⟩
      go_wp2_with fail
      obtain ⟨b0, hb0⟩ : ∃ b, u0.heap.size = b := ⟨_, rfl⟩
      rw [hb0] at hrow ⊢
      have hlt0 : w.heap.size + 1 + 1 < b0 := by rw [← hb0]; exact HCu0.out.lt
      have HQ0 : Hid (R.RowR u1 b0 X.R) := hrow
      have HIu1 : Hid (u1.heap[w.heap.size]? = some (.cells #[.slice (some ⟨g0, 0, none⟩) n0 n0, .slice (some ⟨g1, 0, none⟩) n1 n1, .slice (some ⟨g2, 0, none⟩) n2 n2, .slice (some ⟨g3, 0, none⟩) n3 n3, .slice (some ⟨g4, 0, none⟩) n4 n4] 35)) := row_on HIu0.out hb
      have HZu1 : Hid (u1.heap[w.heap.size + 1]? = some (.cells #[.slice none 0 0, .slice none 0 0, .slice none 0 0, .slice none 0 0, .slice none 0 0] 35)) := row_on HZu0.out hb
      have HBu1 : Hid (Below w.heap.size w u1) := bel_on (Nat.le_refl _) HBu0.out hb
      have HCu1 : Hid (S.RowS u1 (w.heap.size + 1 + 1) X.S) := HCu0.out.on hb
      have kk := boxO_cells HIu1.out
      refine hK.out _ _ ⟨kk.1.1, kk.1.2.1, kk.1.2.2.1, kk.1.2.2.2.1, HBu1.out⟩ (fun hHeld2 => ?_)
      clear hK K hHeld hrow hb hb0 kk HIu0 HZu0 HBu0 HCu0
      have hHeld := hHeld2
      clear hHeld2
      try simp only [Act.put, List.setIfInBounds_toArray, List.set_cons_zero, List.set_cons_succ, List.getElem_toArray, List.getElem_cons_zero, List.getElem_cons_succ]
      refine wpAnyH_ready (rs := [5]) (by kernel_rfl) (by simp) ?_
      refine AllReadyH.cons rfl (fun K hK => ?_) AllReadyH.nil
      go_simp
      go_at_call 69
      refine (cpW (some ⟨g1, 0, none⟩) X.W n1 n1 HN.out.2.1 k1 _ (HR1.out.rd.keep HBu1.out (Nat.le_refl _))).mono ?_
      rintro e u2 ⟨rfl, hrow, hb⟩
      go_wp2_with fail
      obtain ⟨b1, hb1⟩ : ∃ b, u1.heap.size = b := ⟨_, rfl⟩
      rw [hb1] at hrow ⊢
      have hlt1 : w.heap.size + 1 + 1 < b1 := by rw [← hb1]; exact HCu1.out.lt
      have HQ1 : Hid (RowR u2 b1 X.W) := hrow
      have HIu2 : Hid (u2.heap[w.heap.size]? = some (.cells #[.slice (some ⟨g0, 0, none⟩) n0 n0, .slice (some ⟨g1, 0, none⟩) n1 n1, .slice (some ⟨g2, 0, none⟩) n2 n2, .slice (some ⟨g3, 0, none⟩) n3 n3, .slice (some ⟨g4, 0, none⟩) n4 n4] 35)) := row_on HIu1.out hb
      have HZu2 : Hid (u2.heap[w.heap.size + 1]? = some (.cells #[.slice none 0 0, .slice none 0 0, .slice none 0 0, .slice none 0 0, .slice none 0 0] 35)) := row_on HZu1.out hb
      have HBu2 : Hid (Below w.heap.size w u2) := bel_on (Nat.le_refl _) HBu1.out hb
      have HCu2 : Hid (S.RowS u2 (w.heap.size + 1 + 1) X.S) := HCu1.out.on hb
      have HQ0_1 : Hid (R.RowR u2 b0 X.R) := HQ0.out.on hb
      have kk := boxO_cells HIu2.out
      refine hK.out _ _ ⟨kk.1.1, kk.1.2.1, kk.1.2.2.1, kk.1.2.2.2.1, HBu2.out⟩ (fun hHeld2 => ?_)
      clear hK K hHeld hrow hb hb1 kk HIu1 HZu1 HBu1 HCu1
      have hHeld := hHeld2
      clear hHeld2
      try simp only [Act.put, List.setIfInBounds_toArray, List.set_cons_zero, List.set_cons_succ, List.getElem_toArray, List.getElem_cons_zero, List.getElem_cons_succ]
      refine wpAnyH_ready (rs := [8]) (by kernel_rfl) (by simp) ?_
      refine AllReadyH.cons rfl (fun K hK => ?_) AllReadyH.nil
      go_simp
      go_at_call 70
      refine (cpO (some ⟨g2, 0, none⟩) X.O n2 n2 HN.out.2.2.1 k2 _ (HR2.out.rd.keep HBu2.out (Nat.le_refl _))).mono ?_
      rintro e u3 ⟨rfl, hrow, hb⟩
      go_wp2_with fail
      obtain ⟨b2, hb2⟩ : ∃ b, u2.heap.size = b := ⟨_, rfl⟩
      rw [hb2] at hrow ⊢
      have hlt2 : w.heap.size + 1 + 1 < b2 := by rw [← hb2]; exact HCu2.out.lt
      have HQ2 : Hid (RowO u3 b2 X.O) := hrow
      have HIu3 : Hid (u3.heap[w.heap.size]? = some (.cells #[.slice (some ⟨g0, 0, none⟩) n0 n0, .slice (some ⟨g1, 0, none⟩) n1 n1, .slice (some ⟨g2, 0, none⟩) n2 n2, .slice (some ⟨g3, 0, none⟩) n3 n3, .slice (some ⟨g4, 0, none⟩) n4 n4] 35)) := row_on HIu2.out hb
      have HZu3 : Hid (u3.heap[w.heap.size + 1]? = some (.cells #[.slice none 0 0, .slice none 0 0, .slice none 0 0, .slice none 0 0, .slice none 0 0] 35)) := row_on HZu2.out hb
      have HBu3 : Hid (Below w.heap.size w u3) := bel_on (Nat.le_refl _) HBu2.out hb
      have HCu3 : Hid (S.RowS u3 (w.heap.size + 1 + 1) X.S) := HCu2.out.on hb
      have HQ0_2 : Hid (R.RowR u3 b0 X.R) := HQ0_1.out.on hb
      have HQ1_2 : Hid (RowR u3 b1 X.W) := HQ1.out.on hb
      have kk := boxO_cells HIu3.out
      refine hK.out _ _ ⟨kk.1.1, kk.1.2.1, kk.1.2.2.1, kk.1.2.2.2.1, HBu3.out⟩ (fun hHeld2 => ?_)
      clear hK K hHeld hrow hb hb2 kk HIu2 HZu2 HBu2 HCu2
      have hHeld := hHeld2
      clear hHeld2
      try simp only [Act.put, List.setIfInBounds_toArray, List.set_cons_zero, List.set_cons_succ, List.getElem_toArray, List.getElem_cons_zero, List.getElem_cons_succ]
      refine wpAnyH_ready (rs := [11]) (by kernel_rfl) (by simp) ?_
      refine AllReadyH.cons rfl (fun K hK => ?_) AllReadyH.nil
      go_simp
      go_at_call 71
      refine (cpU (some ⟨g3, 0, none⟩) X.U n3 n3 HN.out.2.2.2.1 k3 _ (HR3.out.rd.keep HBu3.out (Nat.le_refl _))).mono ?_
      rintro e u4 ⟨rfl, hrow, hb⟩
      go_wp2_with fail
      obtain ⟨b3, hb3⟩ : ∃ b, u3.heap.size = b := ⟨_, rfl⟩
      rw [hb3] at hrow ⊢
      have hlt3 : w.heap.size + 1 + 1 < b3 := by rw [← hb3]; exact HCu3.out.lt
      have HQ3 : Hid (RowU u4 b3 X.U) := hrow
      have HIu4 : Hid (u4.heap[w.heap.size]? = some (.cells #[.slice (some ⟨g0, 0, none⟩) n0 n0, .slice (some ⟨g1, 0, none⟩) n1 n1, .slice (some ⟨g2, 0, none⟩) n2 n2, .slice (some ⟨g3, 0, none⟩) n3 n3, .slice (some ⟨g4, 0, none⟩) n4 n4] 35)) := row_on HIu3.out hb
      have HZu4 : Hid (u4.heap[w.heap.size + 1]? = some (.cells #[.slice none 0 0, .slice none 0 0, .slice none 0 0, .slice none 0 0, .slice none 0 0] 35)) := row_on HZu3.out hb
      have HBu4 : Hid (Below w.heap.size w u4) := bel_on (Nat.le_refl _) HBu3.out hb
      have HCu4 : Hid (S.RowS u4 (w.heap.size + 1 + 1) X.S) := HCu3.out.on hb
      have HQ0_3 : Hid (R.RowR u4 b0 X.R) := HQ0_2.out.on hb
      have HQ1_3 : Hid (RowR u4 b1 X.W) := HQ1_2.out.on hb
      have HQ2_3 : Hid (RowO u4 b2 X.O) := HQ2.out.on hb
      have kk := boxO_cells HIu4.out
      refine hK.out _ _ ⟨kk.1.1, kk.1.2.1, kk.1.2.2.1, kk.1.2.2.2.1, HBu4.out⟩ (fun hHeld2 => ?_)
      clear hK K hHeld hrow hb hb3 kk HIu3 HZu3 HBu3 HCu3
      have hHeld := hHeld2
      clear hHeld2
      try simp only [Act.put, List.setIfInBounds_toArray, List.set_cons_zero, List.set_cons_succ, List.getElem_toArray, List.getElem_cons_zero, List.getElem_cons_succ]
      refine wpAnyH_ready (rs := [13]) (by kernel_rfl) (by simp) ?_
      refine AllReadyH.cons rfl (fun K hK => ?_) AllReadyH.nil
      go_simp
      refine hK.out _ _ hHeld (fun hHeld2 => ?_)
      clear hK K hHeld2
      refine wpAnyH_ready (rs := [14]) (by kernel_rfl) (by simp) ?_
      refine AllReadyH.cons rfl (fun K hK => ?_) AllReadyH.nil
      have kz := boxO_cells HZu4.out
      go_simp
      have HQF : Hid ((((((u4.setCell ⟨w.heap.size + 1, 0, none⟩ (.slice (some ⟨b0, 0, none⟩) n0 n0)).setCell ⟨w.heap.size + 1, 1, none⟩ (.slice (some ⟨b1, 0, none⟩) n1 n1)).setCell ⟨w.heap.size + 1, 2, none⟩ (.slice (some ⟨b2, 0, none⟩) n2 n2)).setCell ⟨w.heap.size + 1, 3, none⟩ (.slice (some ⟨b3, 0, none⟩) n3 n3)).setCell ⟨w.heap.size + 1, 4, none⟩ (.slice (some ⟨w.heap.size + 1 + 1, 0, none⟩) n4 n4)).heap[w.heap.size + 1]? = some (.cells #[.slice (some ⟨b0, 0, none⟩) n0 n0, .slice (some ⟨b1, 0, none⟩) n1 n1, .slice (some ⟨b2, 0, none⟩) n2 n2, .slice (some ⟨b3, 0, none⟩) n3 n3, .slice (some ⟨w.heap.size + 1 + 1, 0, none⟩) n4 n4] 35)) := set_row5 (set_row5 (set_row5 (set_row5 (set_row5 HZu4.out 0 _) 1 _) 2 _) 3 _) 4 _
      have HBF : Hid (Below w.heap.size w (((((u4.setCell ⟨w.heap.size + 1, 0, none⟩ (.slice (some ⟨b0, 0, none⟩) n0 n0)).setCell ⟨w.heap.size + 1, 1, none⟩ (.slice (some ⟨b1, 0, none⟩) n1 n1)).setCell ⟨w.heap.size + 1, 2, none⟩ (.slice (some ⟨b2, 0, none⟩) n2 n2)).setCell ⟨w.heap.size + 1, 3, none⟩ (.slice (some ⟨b3, 0, none⟩) n3 n3)).setCell ⟨w.heap.size + 1, 4, none⟩ (.slice (some ⟨w.heap.size + 1 + 1, 0, none⟩) n4 n4))) := ((((HBu4.out.setCell (by show _ ≤ w.heap.size + 1; omega) _).setCell (by show _ ≤ w.heap.size + 1; omega) _).setCell (by show _ ≤ w.heap.size + 1; omega) _).setCell (by show _ ≤ w.heap.size + 1; omega) _).setCell (by show _ ≤ w.heap.size + 1; omega) _
      have HX : Hid (RwX (((((u4.setCell ⟨w.heap.size + 1, 0, none⟩ (.slice (some ⟨b0, 0, none⟩) n0 n0)).setCell ⟨w.heap.size + 1, 1, none⟩ (.slice (some ⟨b1, 0, none⟩) n1 n1)).setCell ⟨w.heap.size + 1, 2, none⟩ (.slice (some ⟨b2, 0, none⟩) n2 n2)).setCell ⟨w.heap.size + 1, 3, none⟩ (.slice (some ⟨b3, 0, none⟩) n3 n3)).setCell ⟨w.heap.size + 1, 4, none⟩ (.slice (some ⟨w.heap.size + 1 + 1, 0, none⟩) n4 n4)) w.heap.size ⟨some ⟨b0, 0, none⟩, n0, n0, some ⟨b1, 0, none⟩, n1, n1, some ⟨b2, 0, none⟩, n2, n2, some ⟨b3, 0, none⟩, n3, n3, some ⟨w.heap.size + 1 + 1, 0, none⟩, n4, n4⟩ X) := ⟨b0, b1, b2, b3, w.heap.size + 1 + 1, by rw [HN.out.1, HN.out.2.1, HN.out.2.2.1, HN.out.2.2.2.1, HN.out.2.2.2.2], ⟨by omega, by omega, by omega, by omega, by omega⟩, set_far5 HQ0_3.out (by omega), set_far5 HQ1_3.out (by omega), set_far5 HQ2_3.out (by omega), set_far5 HQ3.out (by omega), set_far5 HCu4.out (by omega)⟩
      have hS0 := put5_cell hHeld.1 (show w.heap.size ≠ w.heap.size + 1 by omega) (.slice (some ⟨b0, 0, none⟩) n0 n0) (.slice (some ⟨b1, 0, none⟩) n1 n1) (.slice (some ⟨b2, 0, none⟩) n2 n2) (.slice (some ⟨b3, 0, none⟩) n3 n3) (.slice (some ⟨w.heap.size + 1 + 1, 0, none⟩) n4 n4)
      have hS1 := put5_cell hHeld.2.1 (show w.heap.size ≠ w.heap.size + 1 by omega) (.slice (some ⟨b0, 0, none⟩) n0 n0) (.slice (some ⟨b1, 0, none⟩) n1 n1) (.slice (some ⟨b2, 0, none⟩) n2 n2) (.slice (some ⟨b3, 0, none⟩) n3 n3) (.slice (some ⟨w.heap.size + 1 + 1, 0, none⟩) n4 n4)
      have hS2 := put5_cell hHeld.2.2.1 (show w.heap.size ≠ w.heap.size + 1 by omega) (.slice (some ⟨b0, 0, none⟩) n0 n0) (.slice (some ⟨b1, 0, none⟩) n1 n1) (.slice (some ⟨b2, 0, none⟩) n2 n2) (.slice (some ⟨b3, 0, none⟩) n3 n3) (.slice (some ⟨w.heap.size + 1 + 1, 0, none⟩) n4 n4)
      have hS3 := put5_cell hHeld.2.2.2.1 (show w.heap.size ≠ w.heap.size + 1 by omega) (.slice (some ⟨b0, 0, none⟩) n0 n0) (.slice (some ⟨b1, 0, none⟩) n1 n1) (.slice (some ⟨b2, 0, none⟩) n2 n2) (.slice (some ⟨b3, 0, none⟩) n3 n3) (.slice (some ⟨w.heap.size + 1 + 1, 0, none⟩) n4 n4)
      refine hK.out _ _ ⟨hS0, hS1, hS2, hS3, HBF.out⟩ (fun hHeld2 => ?_)
      clear hK K hHeld2 hS0 hS1 hS2 hS3 kz hHeld
      refine wpAnyH_done (by kernel_rfl) ?_ _
      obtain ⟨WF, hWF⟩ : ∃ W, W = (((((u4.setCell ⟨w.heap.size + 1, 0, none⟩ (.slice (some ⟨b0, 0, none⟩) n0 n0)).setCell ⟨w.heap.size + 1, 1, none⟩ (.slice (some ⟨b1, 0, none⟩) n1 n1)).setCell ⟨w.heap.size + 1, 2, none⟩ (.slice (some ⟨b2, 0, none⟩) n2 n2)).setCell ⟨w.heap.size + 1, 3, none⟩ (.slice (some ⟨b3, 0, none⟩) n3 n3)).setCell ⟨w.heap.size + 1, 4, none⟩ (.slice (some ⟨w.heap.size + 1 + 1, 0, none⟩) n4 n4)) := ⟨_, rfl⟩
      rw [← hWF] at HQF HBF HX ⊢
      clear hWF
      have kf := boxO_cells HQF.out
      go_wp2
      exact bodyPost_ret (v := .agg #[.slice (some ⟨b0, 0, none⟩) n0 n0, .slice (some ⟨b1, 0, none⟩) n1 n1, .slice (some ⟨b2, 0, none⟩) n2 n2, .slice (some ⟨b3, 0, none⟩) n3 n3, .slice (some ⟨w.heap.size + 1 + 1, 0, none⟩) n4 n4]) (by simp [results, Tryz.results27, go_sem, kf]) rfl ⟨_, rfl, HX.out, HBF.out⟩

end Go.Proofs.YtphijlknefgkiaaGreatDoor
