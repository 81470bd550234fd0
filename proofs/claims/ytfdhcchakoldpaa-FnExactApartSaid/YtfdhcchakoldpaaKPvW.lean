/-
  The state of the walk of FnExactPartView.
-/
import Derived.Test.YtfdhcchakoldpaaKPvX
import Derived.Test.YtfdhcchakoldpaaKLW
namespace Go.Proofs.Ytfdhcchakoldpaa
open Go.ChangeShapes Go.WideShapes Go.ChangeAt Go.RowKit Go.PlainAid
set_option linter.unusedVariables false

structure VS (w2 W : World) (gW gG : Nat) (oW oG : Obj) (lo : Nat) (q1 q2 q3 : Option Addr) (l1 l2 l3 : List Int) : Prop where
  b : Below w2.heap.size w2 W
  rw : W.heap[gW]? = some oW
  rg : W.heap[gG]? = some oG
  o1 : OwV W lo q1 l1
  o2 : OwV W lo q2 l2
  o3 : OwV W lo q3 l3
/-- what does not change: where the blocks lie -/
structure VD (w2 : World) (gW gG lo : Nat) (q1 q2 q3 : Option Addr) : Prop where
  n1 : ∀ a, q1 = some a → w2.heap.size < a.block ∧ a.block ≠ gW ∧ a.block ≠ gG
  n2 : ∀ a, q2 = some a → w2.heap.size < a.block ∧ a.block ≠ gW ∧ a.block ≠ gG
  n3 : ∀ a, q3 = some a → w2.heap.size < a.block ∧ a.block ≠ gW ∧ a.block ≠ gG
  d12 : DisV q1 q2
  d13 : DisV q1 q3
  d23 : DisV q2 q3
theorem VS.on {w2 W W' : World} {gW gG : Nat} {oW oG : Obj} {lo : Nat} {q1 q2 q3 : Option Addr} {l1 l2 l3 : List Int} (h : VS w2 W gW gG oW oG lo q1 q2 q3 l1 l2 l3) (hb : Below W.heap.size W W') : VS w2 W' gW gG oW oG lo q1 q2 q3 l1 l2 l3 :=
  ⟨bel_on (Nat.le_refl _) h.b hb, row_on h.rw hb, row_on h.rg hb, h.o1.on hb, h.o2.on hb, h.o3.on hb⟩
theorem chg_row {q : Option Addr} {W W' : World} {g : Nat} {o : Obj} (hc : Chg q W W') (h : W.heap[g]? = some o) (hn : ∀ a, q = some a → a.block ≠ g) : W'.heap[g]? = some o := (hc.far g (row_lt h) hn).trans h
theorem chg_bel {q : Option Addr} {w2 W W' : World} (hc : Chg q W W') (h : Below w2.heap.size w2 W) (hn : ∀ a, q = some a → w2.heap.size < a.block) : Below w2.heap.size w2 W' :=
  ⟨hc.os.trans h.os, hc.tape.trans h.tape, hc.output.trans h.output, Nat.le_trans h.size hc.size, fun g hg => (hc.far g (Nat.lt_of_lt_of_le hg h.size) (fun a ha => by have := hn a ha; omega)).trans (h.block g hg)⟩
theorem dis_sym {q r : Option Addr} (h : DisV q r) : DisV r q := fun a b ha hb e => h b a hb ha e.symm
theorem own_chg {q r : Option Addr} {W W' : World} {lo : Nat} {l : List Int} (hc : Chg q W W') (h : OwV W lo r l) (hd : DisV q r) : OwV W' lo r l := h.keep (fun a ha hl => hc.far _ hl (fun x hx => hd x a hx ha))
theorem VS.m1 {w2 W W' : World} {gW gG : Nat} {oW oG : Obj} {lo : Nat} {q1 q2 q3 : Option Addr} {l1 l2 l3 l : List Int} (h : VS w2 W gW gG oW oG lo q1 q2 q3 l1 l2 l3) (d : VD w2 gW gG lo q1 q2 q3) (hc : Chg q1 W W') (ho : OwV W' lo q1 l) : VS w2 W' gW gG oW oG lo q1 q2 q3 l l2 l3 :=
  ⟨chg_bel hc h.b (fun a ha => (d.n1 a ha).1), chg_row hc h.rw (fun a ha => (d.n1 a ha).2.1), chg_row hc h.rg (fun a ha => (d.n1 a ha).2.2), ho, own_chg hc h.o2 d.d12, own_chg hc h.o3 d.d13⟩
theorem VS.m2 {w2 W W' : World} {gW gG : Nat} {oW oG : Obj} {lo : Nat} {q1 q2 q3 : Option Addr} {l1 l2 l3 l : List Int} (h : VS w2 W gW gG oW oG lo q1 q2 q3 l1 l2 l3) (d : VD w2 gW gG lo q1 q2 q3) (hc : Chg q2 W W') (ho : OwV W' lo q2 l) : VS w2 W' gW gG oW oG lo q1 q2 q3 l1 l l3 :=
  ⟨chg_bel hc h.b (fun a ha => (d.n2 a ha).1), chg_row hc h.rw (fun a ha => (d.n2 a ha).2.1), chg_row hc h.rg (fun a ha => (d.n2 a ha).2.2), own_chg hc h.o1 (dis_sym d.d12), ho, own_chg hc h.o3 d.d23⟩
theorem VS.m3 {w2 W W' : World} {gW gG : Nat} {oW oG : Obj} {lo : Nat} {q1 q2 q3 : Option Addr} {l1 l2 l3 l : List Int} (h : VS w2 W gW gG oW oG lo q1 q2 q3 l1 l2 l3) (d : VD w2 gW gG lo q1 q2 q3) (hc : Chg q3 W W') (ho : OwV W' lo q3 l) : VS w2 W' gW gG oW oG lo q1 q2 q3 l1 l2 l :=
  ⟨chg_bel hc h.b (fun a ha => (d.n3 a ha).1), chg_row hc h.rw (fun a ha => (d.n3 a ha).2.1), chg_row hc h.rg (fun a ha => (d.n3 a ha).2.2), own_chg hc h.o1 (dis_sym d.d13), own_chg hc h.o2 (dis_sym d.d23), ho⟩
theorem VS.mk' {w2 W W' : World} {gG hi : Nat} {oW oG : Obj} {lo : Nat} {q1 q2 q3 : Option Addr} {l1 l2 l3 : List Int} (h : VS w2 W w2.heap.size gG oW oG lo q1 q2 q3 l1 l2 l3) (hm : Mkd (w2.heap.size + 1) hi W W') (hG : hi ≤ gG) (hl : hi ≤ lo) : VS w2 W' w2.heap.size gG oW oG lo q1 q2 q3 l1 l2 l3 :=
  ⟨⟨hm.os.trans h.b.os, hm.tape.trans h.b.tape, hm.output.trans h.b.output, Nat.le_trans h.b.size hm.size, fun g hg => (hm.far g (Nat.lt_of_lt_of_le hg h.b.size) (.inl (by omega))).trans (h.b.block g hg)⟩, hm.row h.rw (.inl (by omega)), hm.row h.rg (.inr hG),
    h.o1.keep (fun a ha hh => hm.far _ hh (.inr (Nat.le_trans hl (h.o1.ge a ha)))), h.o2.keep (fun a ha hh => hm.far _ hh (.inr (Nat.le_trans hl (h.o2.ge a ha)))), h.o3.keep (fun a ha hh => hm.far _ hh (.inr (Nat.le_trans hl (h.o3.ge a ha))))⟩
end Go.Proofs.Ytfdhcchakoldpaa
