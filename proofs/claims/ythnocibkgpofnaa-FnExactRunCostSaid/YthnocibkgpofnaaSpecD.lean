/-
  The specification's step: what lies in memory while one instruction is done.
-/
import Derived.Test.YthnocibkgpofnaaSpecO
import Derived.Test.YthnocibkgpofnaaStage1
namespace Go.Proofs.Ythnocibkgpofnaa
open Go.RowKit Go.PlainAid
set_option linter.unusedVariables false
theorem VB.grown {W w w' : World} {x : Bool} {v : Value} {cs : Array Value} {t : TypeId} {B g n c : Nat} {l : List Int} (h : VB W x v w (.cells cs t)) (hown : OwnN w B g n c l) (ht : t ≠ 3) (hg : w.grownBy w' (some g)) : VB W x v w' (.cells cs t) := fun hx => by
  obtain ⟨p, h1, h2, h3⟩ := h hx
  exact ⟨p, h1, grown_row hg h2 (fun e => own_ne hown h2 ht (Option.some.inj e)), h3⟩
/-- a list's cells that are left, and the box that holds them -/
def MidB (W wc : World) (kd g3 c3 r : Nat) (pc1 : Int) (u : List Int) : Prop :=
  wc.heap[kd]? = some (.cells #[.int .i64 pc1, .slice (some ⟨g3, 0, none⟩) r c3] 55) ∧ OwnN wc W.heap.size g3 r c3 u ∧ W.heap.size ≤ kd ∧ g3 ≠ kd ∧ Below W.heap.size W wc
theorem mid_stores {W w : World} {kd g3 c3 r : Nat} {pc1 : Int} {u : List Int} (h : w.heap[kd]? = some zCpu) (ho : OwnN w W.heap.size g3 r c3 u) (hk : W.heap.size ≤ kd) (hB : Below W.heap.size W w) :
    MidB W ((w.setCell ⟨kd, 0, none⟩ (.int .i64 pc1)).setCell ⟨kd, 1, none⟩ (.slice (some ⟨g3, 0, none⟩) r c3)) kd g3 c3 r pc1 u :=
  have hn := own_ne ho h (by decide)
  ⟨two_sets h, (ho.set hn).set hn, hk, hn, (hB.setCell hk _).setCell hk _⟩
theorem rd_take {w : World} {a : Option Addr} {l : List Int} (h : Rd w a l) (r : Nat) : Rd w a (l.take r) := by
  intro hp
  have hl : 0 < l.length := by rw [List.length_take] at hp; omega
  obtain ⟨g, off, h1, h2⟩ := h hl
  refine ⟨g, off, h1, fun j hj => ?_⟩
  rw [List.length_take] at hj
  have h3 := h2 j (by omega)
  rw [List.getElem_take]
  exact h3
/-- the three boxes that a step hands out -/
def F7 (W : World) (kd ka ke : Nat) (v0 v1 v2 v3 v4 v5 v6 : Value) : Prop := W.cell? ⟨kd, 0, none⟩ = some v0 ∧ W.cell? ⟨kd, 1, none⟩ = some v1 ∧ W.cell? ⟨ka, 0, none⟩ = some v2 ∧ W.cell? ⟨ke, 0, none⟩ = some v3 ∧ W.cell? ⟨ke, 1, none⟩ = some v4 ∧ W.cell? ⟨ke, 2, none⟩ = some v5 ∧ W.cell? ⟨ke, 3, none⟩ = some v6
theorem f7_set {W : World} {kd ka ke k i : Nat} {u : Value} {v0 v1 v2 v3 v4 v5 v6 : Value} (hn : kd ≠ k ∧ ka ≠ k ∧ ke ≠ k) (h : W.cell? ⟨kd, 0, none⟩ = some v0 ∧ W.cell? ⟨kd, 1, none⟩ = some v1 ∧ W.cell? ⟨ka, 0, none⟩ = some v2 ∧ W.cell? ⟨ke, 0, none⟩ = some v3 ∧ W.cell? ⟨ke, 1, none⟩ = some v4 ∧ W.cell? ⟨ke, 2, none⟩ = some v5 ∧ W.cell? ⟨ke, 3, none⟩ = some v6) :
    (W.setCell ⟨k, i, none⟩ u).cell? ⟨kd, 0, none⟩ = some v0 ∧ (W.setCell ⟨k, i, none⟩ u).cell? ⟨kd, 1, none⟩ = some v1 ∧ (W.setCell ⟨k, i, none⟩ u).cell? ⟨ka, 0, none⟩ = some v2 ∧ (W.setCell ⟨k, i, none⟩ u).cell? ⟨ke, 0, none⟩ = some v3 ∧ (W.setCell ⟨k, i, none⟩ u).cell? ⟨ke, 1, none⟩ = some v4 ∧ (W.setCell ⟨k, i, none⟩ u).cell? ⟨ke, 2, none⟩ = some v5 ∧ (W.setCell ⟨k, i, none⟩ u).cell? ⟨ke, 3, none⟩ = some v6 :=
  ⟨cell_set h.1 hn.1, cell_set h.2.1 hn.1, cell_set h.2.2.1 hn.2.1, cell_set h.2.2.2.1 hn.2.2, cell_set h.2.2.2.2.1 hn.2.2, cell_set h.2.2.2.2.2.1 hn.2.2, cell_set h.2.2.2.2.2.2 hn.2.2⟩
theorem f7_drew {W : World} {kd ka ke : Nat} {v0 v1 v2 v3 v4 v5 v6 : Value} (h : W.cell? ⟨kd, 0, none⟩ = some v0 ∧ W.cell? ⟨kd, 1, none⟩ = some v1 ∧ W.cell? ⟨ka, 0, none⟩ = some v2 ∧ W.cell? ⟨ke, 0, none⟩ = some v3 ∧ W.cell? ⟨ke, 1, none⟩ = some v4 ∧ W.cell? ⟨ke, 2, none⟩ = some v5 ∧ W.cell? ⟨ke, 3, none⟩ = some v6) : W.drew.cell? ⟨kd, 0, none⟩ = some v0 ∧ W.drew.cell? ⟨kd, 1, none⟩ = some v1 ∧ W.drew.cell? ⟨ka, 0, none⟩ = some v2 ∧ W.drew.cell? ⟨ke, 0, none⟩ = some v3 ∧ W.drew.cell? ⟨ke, 1, none⟩ = some v4 ∧ W.drew.cell? ⟨ke, 2, none⟩ = some v5 ∧ W.drew.cell? ⟨ke, 3, none⟩ = some v6 := h
theorem MidB.bel {W wc : World} {kd g3 c3 r : Nat} {pc1 : Int} {u : List Int} (h : MidB W wc kd g3 c3 r pc1 u) : Below W.heap.size W wc := h.2.2.2.2

theorem rows_ne {W : World} {k k' : Nat} {cs cs' : Array Value} {t t' : TypeId} (h : W.heap[k]? = some (.cells cs t)) (h' : W.heap[k']? = some (.cells cs' t')) (ht : t ≠ t') : k ≠ k' := by
  intro e
  subst e
  rw [h] at h'
  have := Option.some.inj h'
  cases this
  exact ht rfl
theorem row_set {W : World} {k p i : Nat} {o : Obj} {v : Value} (h : W.heap[k]? = some o) (hne : k ≠ p) : (W.setCell ⟨p, i, none⟩ v).heap[k]? = some o := (Below.heap_setCell _ _ _ _ hne).trans h
theorem Six.put {w W : World} {pc : Int} {sv av : Value} {f s : Int} {p i : Nat} {v : Value} (h : Six w W pc sv av f s) (hp : w.heap.size + 6 ≤ p) : Six w (W.setCell ⟨p, i, none⟩ v) pc sv av f s :=
  ⟨row_set h.1 (by omega), row_set h.2.1 (by omega), row_set h.2.2.1 (by omega), row_set h.2.2.2.1 (by omega), row_set h.2.2.2.2.1 (by omega), row_set h.2.2.2.2.2.1 (by omega), h.bel.setCell (by show w.heap.size ≤ p; omega) _⟩
theorem bel_cell {w W : World} {B p o : Nat} {v : Value} (h : w.cell? ⟨p, o, none⟩ = some v) (hb : Below B w W) (hB : w.heap.size ≤ B) : W.cell? ⟨p, o, none⟩ = some v :=
  (hb.cell (p := ⟨p, o, none⟩) (Nat.lt_of_lt_of_le (World.block_lt_of_cell? w ⟨p, o, none⟩ h) hB)).trans h

/-- the boxes of a step beside the one that holds what is left of the stack -/
structure Bk (w W : World) (pc : Int) (sv av : Value) (f s : Int) (k13 g1 n c1 : Nat) (st : List Int) (k14 : Nat) (op arg : Int) (kA g4 m c4 : Nat) (ce : List Int) (kE : Nat) (k po nu : Int) : Prop where
  six : Six w W pc sv av f s
  same : W.heap[k13]? = some (.cells #[.int .i64 pc, .slice (some ⟨g1, 0, none⟩) n c1] 55)
  own1 : OwnN W w.heap.size g1 n c1 st
  ins : W.heap[k14]? = some (.cells #[.int .i64 op, .int .i64 arg] 51)
  ar : W.heap[kA]? = some (.cells #[.slice (some ⟨g4, 0, none⟩) m c4] 34)
  own4 : OwnN W w.heap.size g4 m c4 ce
  eff : W.heap[kE]? = some (.cells #[.int .i64 k, .int .i64 po, .int .i64 nu, .int .i64 0] 58)
  num : w.heap.size + 6 ≤ k13 ∧ w.heap.size + 6 ≤ k14 ∧ w.heap.size + 6 ≤ kA ∧ w.heap.size + 6 ≤ kE ∧ w.heap.size + 6 ≤ g1 ∧ w.heap.size + 6 ≤ g4 ∧ g1 ≠ g4
/-- the box that holds what is left of the stack, and its list -/
structure Dk (w W : World) (kd : Nat) (pcN : Int) (g3 N c3 : Nat) (u : List Int) (k13 g1 g4 : Nat) : Prop where
  box : W.heap[kd]? = some (.cells #[.int .i64 pcN, .slice (some ⟨g3, 0, none⟩) N c3] 55)
  own : OwnN W w.heap.size g3 N c3 u
  num : w.heap.size + 6 ≤ kd ∧ w.heap.size + 6 ≤ g3 ∧ g3 ≠ g1 ∧ g3 ≠ g4 ∧ kd ≠ k13
section
variable {w W W' : World} {pc : Int} {sv av : Value} {f s : Int} {k13 g1 n c1 : Nat} {st : List Int} {k14 : Nat} {op arg : Int} {kA g4 m c4 : Nat} {ce : List Int} {kE : Nat} {k po nu : Int} {kd : Nat} {pcN : Int} {g3 N c3 : Nat} {u : List Int}
theorem Bk.on (h : Bk w W pc sv av f s k13 g1 n c1 st k14 op arg kA g4 m c4 ce kE k po nu) (hb : Below W.heap.size W W') : Bk w W' pc sv av f s k13 g1 n c1 st k14 op arg kA g4 m c4 ce kE k po nu :=
  ⟨h.six.on hb, row_on h.same hb, h.own1.on hb, row_on h.ins hb, row_on h.ar hb, h.own4.on hb, row_on h.eff hb, h.num⟩
theorem Dk.on (h : Dk w W kd pcN g3 N c3 u k13 g1 g4) (hb : Below W.heap.size W W') : Dk w W' kd pcN g3 N c3 u k13 g1 g4 := ⟨row_on h.box hb, h.own.on hb, h.num⟩
theorem Bk.drew (h : Bk w W pc sv av f s k13 g1 n c1 st k14 op arg kA g4 m c4 ce kE k po nu) : Bk w W.drew pc sv av f s k13 g1 n c1 st k14 op arg kA g4 m c4 ce kE k po nu := h.on (Below.refl _ _).drew
theorem Dk.drew (h : Dk w W kd pcN g3 N c3 u k13 g1 g4) : Dk w W.drew kd pcN g3 N c3 u k13 g1 g4 := h.on (Below.refl _ _).drew
theorem Bk.grown (h : Bk w W pc sv av f s k13 g1 n c1 st k14 op arg kA g4 m c4 ce kE k po nu) (d : Dk w W kd pcN g3 N c3 u k13 g1 g4) (hg : W.grownBy W' (some g3)) : Bk w W' pc sv av f s k13 g1 n c1 st k14 op arg kA g4 m c4 ce kE k po nu := by
  have n1 := d.num
  refine ⟨h.six.grown hg n1.2.1, grown_row hg h.same (fun e => own_ne d.own h.same (by decide) (Option.some.inj e)), h.own1.grown hg n1.2.2.1, grown_row hg h.ins (fun e => own_ne d.own h.ins (by decide) (Option.some.inj e)), grown_row hg h.ar (fun e => own_ne d.own h.ar (by decide) (Option.some.inj e)), h.own4.grown hg n1.2.2.2.1, grown_row hg h.eff (fun e => own_ne d.own h.eff (by decide) (Option.some.inj e)), h.num⟩
theorem Bk.setD {i : Nat} {v : Value} (h : Bk w W pc sv av f s k13 g1 n c1 st k14 op arg kA g4 m c4 ce kE k po nu) (d : Dk w W kd pcN g3 N c3 u k13 g1 g4) : Bk w (W.setCell ⟨kd, i, none⟩ v) pc sv av f s k13 g1 n c1 st k14 op arg kA g4 m c4 ce kE k po nu := by
  have n1 := d.num
  refine ⟨h.six.put n1.1, row_set h.same n1.2.2.2.2.symm, h.own1.set (own_ne h.own1 d.box (by decide)), row_set h.ins (rows_ne h.ins d.box (by decide)), row_set h.ar (rows_ne h.ar d.box (by decide)), h.own4.set (own_ne h.own4 d.box (by decide)), row_set h.eff (rows_ne h.eff d.box (by decide)), h.num⟩
theorem Dk.toPc {p2 : Int} (d : Dk w W kd pcN g3 N c3 u k13 g1 g4) : Dk w (W.setCell ⟨kd, 0, none⟩ (.int .i64 p2)) kd p2 g3 N c3 u k13 g1 g4 := ⟨set1_row (i := 0) d.box, d.own.set (own_ne d.own d.box (by decide)), d.num⟩
theorem Dk.put {g5 N5 c5 : Nat} {u5 : List Int} (h : Bk w W pc sv av f s k13 g1 n c1 st k14 op arg kA g4 m c4 ce kE k po nu) (d : Dk w W kd pcN g3 N c3 u k13 g1 g4) (hown : OwnN W' w.heap.size g5 N5 c5 u5) (hg : W.grownBy W' (some g3)) (hat : g5 = g3 ∨ g5 = W.heap.size) :
    W'.heap[kd]? = some (.cells #[.int .i64 pcN, .slice (some ⟨g3, 0, none⟩) N c3] 55) ∧ Bk w (W'.setCell ⟨kd, 1, none⟩ (.slice (some ⟨g5, 0, none⟩) N5 c5)) pc sv av f s k13 g1 n c1 st k14 op arg kA g4 m c4 ce kE k po nu ∧ Dk w (W'.setCell ⟨kd, 1, none⟩ (.slice (some ⟨g5, 0, none⟩) N5 c5)) kd pcN g5 N5 c5 u5 k13 g1 g4 := by
  have n1 := d.num
  have n2 := h.num
  have l1 := h.own1.lt
  have l4 := h.own4.lt
  have l6 := h.six.lt
  have hbox : W'.heap[kd]? = some (.cells #[.int .i64 pcN, .slice (some ⟨g3, 0, none⟩) N c3] 55) := grown_row hg d.box (fun e => own_ne d.own d.box (by decide) (Option.some.inj e))
  have hB := h.grown d hg
  refine ⟨hbox, ?_, ?_⟩
  · refine ⟨hB.six.put n1.1, row_set hB.same n1.2.2.2.2.symm, hB.own1.set (own_ne hB.own1 hbox (by decide)), row_set hB.ins (rows_ne hB.ins hbox (by decide)), row_set hB.ar (rows_ne hB.ar hbox (by decide)), hB.own4.set (own_ne hB.own4 hbox (by decide)), row_set hB.eff (rows_ne hB.eff hbox (by decide)), hB.num⟩
  · exact ⟨set1_row (i := 1) hbox, hown.set (own_ne hown hbox (by decide)), n1.1, by omega, by omega, by omega, n1.2.2.2.2⟩
theorem Bk.effs {k' po' nu' : Int} (h : Bk w W pc sv av f s k13 g1 n c1 st k14 op arg kA g4 m c4 ce kE k po nu) : Bk w ((((W.setCell ⟨kE, 0, none⟩ (.int .i64 k')).setCell ⟨kE, 1, none⟩ (.int .i64 po')).setCell ⟨kE, 2, none⟩ (.int .i64 nu')).setCell ⟨kE, 3, none⟩ (.int .i64 0)) pc sv av f s k13 g1 n c1 st k14 op arg kA g4 m c4 ce kE k' po' nu' := by
  have n1 := h.num
  have e1 := rows_ne h.same h.eff (by decide)
  have e2 := rows_ne h.ins h.eff (by decide)
  have e3 := rows_ne h.ar h.eff (by decide)
  have e4 := own_ne h.own1 h.eff (by decide)
  have e5 := own_ne h.own4 h.eff (by decide)
  exact ⟨(((h.six.put n1.2.2.2.1).put n1.2.2.2.1).put n1.2.2.2.1).put n1.2.2.2.1, row_set (row_set (row_set (row_set h.same e1) e1) e1) e1, (((h.own1.set e4).set e4).set e4).set e4, row_set (row_set (row_set (row_set h.ins e2) e2) e2) e2, row_set (row_set (row_set (row_set h.ar e3) e3) e3) e3, (((h.own4.set e5).set e5).set e5).set e5, set4_row h.eff, h.num⟩
theorem Dk.effs {v0 v1 v2 v3 : Value} (h : Bk w W pc sv av f s k13 g1 n c1 st k14 op arg kA g4 m c4 ce kE k po nu) (d : Dk w W kd pcN g3 N c3 u k13 g1 g4) : Dk w ((((W.setCell ⟨kE, 0, none⟩ v0).setCell ⟨kE, 1, none⟩ v1).setCell ⟨kE, 2, none⟩ v2).setCell ⟨kE, 3, none⟩ v3) kd pcN g3 N c3 u k13 g1 g4 := by
  have e1 := rows_ne d.box h.eff (by decide)
  have e2 := own_ne d.own h.eff (by decide)
  exact ⟨row_set (row_set (row_set (row_set d.box e1) e1) e1) e1, (((d.own.set e2).set e2).set e2).set e2, d.num⟩
end
/-- six cells while a region draws its order -/
theorem q6_on {W0 W W' : World} {p1 p2 p3 p4 p5 p6 : Addr} {v1 v2 v3 v4 v5 v6 : Value} (hb : Below W.heap.size W W') (h : W.cell? p1 = some v1 ∧ W.cell? p2 = some v2 ∧ W.cell? p3 = some v3 ∧ W.cell? p4 = some v4 ∧ W.cell? p5 = some v5 ∧ W.cell? p6 = some v6 ∧ Below W0.heap.size W0 W) :
    W'.cell? p1 = some v1 ∧ W'.cell? p2 = some v2 ∧ W'.cell? p3 = some v3 ∧ W'.cell? p4 = some v4 ∧ W'.cell? p5 = some v5 ∧ W'.cell? p6 = some v6 ∧ Below W0.heap.size W0 W' :=
  ⟨cell_on h.1 hb, cell_on h.2.1 hb, cell_on h.2.2.1 hb, cell_on h.2.2.2.1 hb, cell_on h.2.2.2.2.1 hb, cell_on h.2.2.2.2.2.1 hb, bel_on (Nat.le_refl _) h.2.2.2.2.2.2 hb⟩
theorem loadS' (a : Option Addr) (l : List Int) (n cap : Nat) (f s p V : Int) (B : Bool) (hl : l.length = n) (hn : n ≤ 1048576) (hV : ldX l f s p = V) (hB : ldB n f s p = B) (w : World) (hr : Rd w a l) :
    Calls Try.prog 56 #[.agg #[.slice a n cap], .agg #[.int .i64 f, .int .i64 s], .int .i64 p] w fun e w' => e = .returned (.tuple #[.int .i64 V, .bool B]) ∧ Below w.heap.size w w' := by
  subst hV hB; exact loadS a l n cap f s p hl hn w hr
theorem sumS' (op a b V : Int) (B : Bool) (ho : 4 ≤ op ∧ op ≤ 8) (ha : isW a) (hb : isW b) (hV : sumV op a b = V) (hB : sumB op b = B) (w : World) : Calls Try.prog 59 #[.int .i64 op, .int .i64 a, .int .i64 b] w fun e w' => e = .returned (.tuple #[.int .i64 V, .bool B]) ∧ Below w.heap.size w w' := by
  subst hV hB
  refine (sumS op a b ho ha hb w).mono ?_
  rintro e w1 ⟨rfl, rfl⟩
  exact ⟨rfl, Below.refl _ _⟩
theorem storeS' (ad : Addr) (l : List Int) (n cap : Nat) (f s p x : Int) (E : List Int) (B : Bool) (hl : l.length = n) (hn : n ≤ 1048576) (hE : stL l f s p x = E) (hB : ldB n f s p = B) (w : World) (hr : Rd w (some ad) l) :
    Calls Try.prog 58 #[.agg #[.slice (some ad) n cap], .agg #[.int .i64 f, .int .i64 s], .int .i64 p, .int .i64 x] w fun e w' => ∃ v, e = .returned (.tuple #[.agg #[v], .bool B]) ∧ w'.ownsRow w.heap.size 3 1 v n (intsV E) ∧ Below w.heap.size w w' := by
  subst hE hB; exact storeS ad l n cap f s p x hl hn w hr
theorem rd_top {w : World} {g o r : Nat} {l : List Int} {x : Int} (h : ∀ j (hj : j < l.length), w.cell? ⟨g, o + j, none⟩ = some (.int .i64 l[j])) (hx : l[r]? = some x) : w.cell? ⟨g, o + r, none⟩ = some (.int .i64 x) := by
  obtain ⟨hlt, hxe⟩ := List.getElem?_eq_some_iff.1 hx
  have := h r hlt
  rw [hxe] at this
  exact this
theorem q6_bel {W0 W : World} {p1 p2 p3 p4 p5 p6 : Addr} {v1 v2 v3 v4 v5 v6 : Value} (h : W.cell? p1 = some v1 ∧ W.cell? p2 = some v2 ∧ W.cell? p3 = some v3 ∧ W.cell? p4 = some v4 ∧ W.cell? p5 = some v5 ∧ W.cell? p6 = some v6 ∧ Below W0.heap.size W0 W) : Below W0.heap.size W0 W := h.2.2.2.2.2.2
theorem rd_onek (w : World) (y : Int) (k : Nat) (hk : k = w.heap.size) : Rd (w.alloc (.cells #[.int .i64 y] 3)) (some ⟨k, 0, none⟩) [y] := by subst hk; exact rd_one w y
theorem rd_two (w : World) (x y : Int) : Rd (w.alloc (.cells #[.int .i64 x, .int .i64 y] 3)) (some ⟨w.heap.size, 0, none⟩) [x, y] := by
  intro _
  refine ⟨w.heap.size, 0, rfl, fun j hj => ?_⟩
  have k := row2_cells (heap_new w (.cells #[.int .i64 x, .int .i64 y] 3))
  have hj2 : j = 0 ∨ j = 1 := by simp at hj; omega
  rcases hj2 with rfl | rfl
  · exact k.1
  · exact k.2.1
section
variable {w W W' : World} {pc : Int} {sv av : Value} {f s : Int} {k13 g1 n c1 : Nat} {st : List Int} {k14 : Nat} {op arg : Int} {kA g4 m c4 : Nat} {ce : List Int} {kE : Nat} {k po nu : Int} {kd : Nat} {pcN : Int} {g3 N c3 : Nat} {u : List Int}
/-- other cells in the box of the cells -/
theorem Bk.cells {g6 c6 : Nat} {E : List Int} (h : Bk w W pc sv av f s k13 g1 n c1 st k14 op arg kA g4 m c4 ce kE k po nu) (hb : Below W.heap.size W W') (hown : OwnN W' W.heap.size g6 m c6 E) :
    Bk w (W'.setCell ⟨kA, 0, none⟩ (.slice (some ⟨g6, 0, none⟩) m c6)) pc sv av f s k13 g1 n c1 st k14 op arg kA g6 m c6 E kE k po nu := by
  have h2 := h.on hb
  have n1 := h.num
  have l1 := h.own1.lt
  have l6 := h.six.lt
  have hge := hown.ge
  exact ⟨h2.six.put n1.2.2.1, row_set h2.same (rows_ne h2.same h2.ar (by decide)), h2.own1.set (own_ne h2.own1 h2.ar (by decide)), row_set h2.ins (rows_ne h2.ins h2.ar (by decide)), set1_row (i := 0) h2.ar, (hown.mono (by omega)).set (own_ne hown h2.ar (by decide)), row_set h2.eff (rows_ne h2.eff h2.ar (by decide)), n1.1, n1.2.1, n1.2.2.1, n1.2.2.2.1, n1.2.2.2.2.1, by omega, by omega⟩
theorem Dk.cells {g6 c6 : Nat} {E : List Int} {v : Value} (h : Bk w W pc sv av f s k13 g1 n c1 st k14 op arg kA g4 m c4 ce kE k po nu) (d : Dk w W kd pcN g3 N c3 u k13 g1 g4) (hb : Below W.heap.size W W') (hown : OwnN W' W.heap.size g6 m c6 E) :
    Dk w (W'.setCell ⟨kA, 0, none⟩ v) kd pcN g3 N c3 u k13 g1 g6 := by
  have h2 := h.on hb
  have d2 := d.on hb
  have n1 := d.num
  have l3 := d.own.lt
  have hge := hown.ge
  exact ⟨row_set d2.box (rows_ne d2.box h2.ar (by decide)), d2.own.set (own_ne d2.own h2.ar (by decide)), n1.1, n1.2.1, n1.2.2.1, by omega, n1.2.2.2.2⟩
end
/-- four cells while a region writes into one box -/
theorem q4_set {W : World} {k i b1 b2 b3 b4 i1 i2 i3 i4 : Nat} {u v1 v2 v3 v4 : Value} (hn : b1 ≠ k ∧ b2 ≠ k ∧ b3 ≠ k ∧ b4 ≠ k) (h : W.cell? ⟨b1, i1, none⟩ = some v1 ∧ W.cell? ⟨b2, i2, none⟩ = some v2 ∧ W.cell? ⟨b3, i3, none⟩ = some v3 ∧ W.cell? ⟨b4, i4, none⟩ = some v4) :
    (W.setCell ⟨k, i, none⟩ u).cell? ⟨b1, i1, none⟩ = some v1 ∧ (W.setCell ⟨k, i, none⟩ u).cell? ⟨b2, i2, none⟩ = some v2 ∧ (W.setCell ⟨k, i, none⟩ u).cell? ⟨b3, i3, none⟩ = some v3 ∧ (W.setCell ⟨k, i, none⟩ u).cell? ⟨b4, i4, none⟩ = some v4 :=
  ⟨cell_set h.1 hn.1, cell_set h.2.1 hn.2.1, cell_set h.2.2.1 hn.2.2.1, cell_set h.2.2.2 hn.2.2.2⟩
theorem q4_drew {W : World} {p1 p2 p3 p4 : Addr} {v1 v2 v3 v4 : Value} (h : W.cell? p1 = some v1 ∧ W.cell? p2 = some v2 ∧ W.cell? p3 = some v3 ∧ W.cell? p4 = some v4) : W.drew.cell? p1 = some v1 ∧ W.drew.cell? p2 = some v2 ∧ W.drew.cell? p3 = some v3 ∧ W.drew.cell? p4 = some v4 := h
end Go.Proofs.Ythnocibkgpofnaa
