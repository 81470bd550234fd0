/-
  A drawn set-up: regions, a plan, ports, rules, codes.
-/
import Derived.Test.YtadbekhekggpkaaDoorDrawUY
import Derived.Test.YtadbekhekggpkaaDoorDrawRY
import Derived.Test.YtadbekhekggpkaaDoorDrawCX
import Derived.Test.YtadbekhekggpkaaDoorCTextX
import Derived.Test.YtadbekhekggpkaaDoorFaultM
import Derived.Test.YtadbekhekggpkaaDoorOwnX11
namespace Go.Proofs.YtadbekhekggpkaaDoor
open Go.RowKit Go.PlainAid
set_option linter.unusedVariables false

theorem infoP5 : (Tryd.prog.info? 35).map (fun i => (i.zero, i.size, i.bytes)) = some (some (.agg #[.int .i64 0, .int .i64 0, .int .i64 0, .int .i64 0, .int .i64 0]), 5, 40) := by kernel_rfl
theorem infoStr : (Tryd.prog.info? 9).map (fun i => (i.zero, i.size, i.bytes)) = some (some (.string ⟨#[]⟩), 1, 16) := by kernel_rfl

/-- two rows of unlike types share no block -/
theorem own_apart {W : World} {B B' t t' z z' n n' : Nat} {v v' : Value} {xs xs' : List Value} (h : W.ownsRow B t z v n xs) (h' : W.ownsRow B' t' z' v' n' xs') (ht : t ≠ t') : ∀ g, v.ownBlock = some g → v'.ownBlock ≠ some g := by
  intro g hg hg'
  rcases h.2 with ⟨rfl, _⟩ | ⟨a, c, cur, rfl, _, hh, _⟩
  · cases hg
  · cases hg
    rcases h'.2 with ⟨rfl, _⟩ | ⟨a', c', cur', rfl, _, hh', _⟩
    · cases hg'
    · cases hg'
      rw [hh] at hh'
      cases hh'
      exact ht rfl
theorem own_far {W : World} {B t z n k : Nat} {v : Value} {xs : List Value} {cs : Array Value} {t' : TypeId} (h : W.ownsRow B t z v n xs) (hk : W.heap[k]? = some (.cells cs t')) (ht : t ≠ t') : v.ownBlock ≠ some k := by
  intro hg
  rcases h.2 with ⟨rfl, _⟩ | ⟨a, c, cur, rfl, _, hh, _⟩
  · cases hg
  · cases hg
    rw [hh] at hk
    cases hk
    exact ht rfl
theorem own_set {w : World} {B t z n k i : Nat} {v x : Value} {xs : List Value} (h : w.ownsRow B t z v n xs) (hk : v.ownBlock ≠ some k) : (w.setCell ⟨k, i, none⟩ x).ownsRow B t z v n xs := by
  refine ⟨h.1, ?_⟩
  rcases h.2 with h2 | ⟨g, cap, cur, rfl, hg, hh, h3⟩
  · exact .inl h2
  · exact .inr ⟨g, cap, cur, rfl, hg, P.set_other hh (fun e => hk (by subst e; rfl)), h3⟩
theorem own_other {W W' : World} {B t z n : Nat} {v : Value} {xs : List Value} {e : Option Nat} (h : W.ownsRow B t z v n xs) (hg : W.grownBy W' e) (hne : ∀ g, v.ownBlock = some g → e ≠ some g) : W'.ownsRow B t z v n xs :=
  h.kept hg (by
    cases hv : v.ownBlock with
    | none => exact .inl rfl
    | some g => exact .inr (fun e' => hne g hv e'.symm))

abbrev nilV : Value := .slice none 0 0
/-- a set-up that is being drawn -/
structure SU (w W : World) (C B : Nat) (a : Option Addr) (len cap kS : Nat) (v0 v1 v2 v3 v4 : Value) (n0 n1 n2 n3 n4 : Nat) (x0 x1 x2 x3 x4 : List Value) : Prop where
  d : Drawn w W C B a len cap
  z : W.heap[w.heap.size]? = some (.cells #[nilV, nilV, nilV, nilV, nilV] 30)
  s : W.heap[kS]? = some (.cells #[v0, v1, v2, v3, v4] 30)
  o0 : W.ownsRow w.heap.size 85 2 v0 n0 x0
  o1 : W.ownsRow w.heap.size 37 2 v1 n1 x1
  o2 : W.ownsRow w.heap.size 35 5 v2 n2 x2
  o3 : W.ownsRow w.heap.size 33 3 v3 n3 x3
  o4 : W.ownsRow w.heap.size 9 1 v4 n4 x4
  hC : C < w.heap.size
  hB : B ≤ C
  hk : w.heap.size < kS
section
variable {w W W' : World} {C B : Nat} {a : Option Addr} {len cap kS : Nat} {v0 v1 v2 v3 v4 v' : Value} {n0 n1 n2 n3 n4 n' : Nat} {x0 x1 x2 x3 x4 x' : List Value}
theorem SU.on (h : SU w W C B a len cap kS v0 v1 v2 v3 v4 n0 n1 n2 n3 n4 x0 x1 x2 x3 x4) (hD : Drawn W W' C B a len cap) : SU w W' C B a len cap kS v0 v1 v2 v3 v4 n0 n1 n2 n3 n4 x0 x1 x2 x3 x4 :=
  have hC := h.hC
  have hk := h.hk
  ⟨drawn_trans h.d hD, P.row_drawn h.z hD.2.2 (by omega), P.row_drawn h.s hD.2.2 (by omega), own_gr h.o0 hD.2.2 hC, own_gr h.o1 hD.2.2 hC, own_gr h.o2 hD.2.2 hC, own_gr h.o3 hD.2.2 hC, own_gr h.o4 hD.2.2 hC, h.hC, h.hB, h.hk⟩
theorem SU.al (h : SU w W C B a len cap kS v0 v1 v2 v3 v4 n0 n1 n2 n3 n4 x0 x1 x2 x3 x4) (o : Obj) : SU w (W.alloc o) C B a len cap kS v0 v1 v2 v3 v4 n0 n1 n2 n3 n4 x0 x1 x2 x3 x4 :=
  ⟨drawn_alloc h.d (by have := h.d.2.2.size; have := h.hC; have := h.hB; omega) o, row_on h.z ((Below.refl _ _).alloc (Nat.le_refl _) _), row_on h.s ((Below.refl _ _).alloc (Nat.le_refl _) _), h.o0.alloc o, h.o1.alloc o, h.o2.alloc o, h.o3.alloc o, h.o4.alloc o, h.hC, h.hB, h.hk⟩
theorem SU.bel (h : SU w W C B a len cap kS v0 v1 v2 v3 v4 n0 n1 n2 n3 n4 x0 x1 x2 x3 x4) (hb : Below W.heap.size W W') : SU w W' C B a len cap kS v0 v1 v2 v3 v4 n0 n1 n2 n3 n4 x0 x1 x2 x3 x4 :=
  have hC := h.hC
  have hB := h.hB
  ⟨drawn_bel h.d hb (by omega), row_on h.z hb, row_on h.s hb, own_keep h.o0 hb (own_lt h.o0), own_keep h.o1 hb (own_lt h.o1), own_keep h.o2 hb (own_lt h.o2), own_keep h.o3 hb (own_lt h.o3), own_keep h.o4 hb (own_lt h.o4), h.hC, h.hB, h.hk⟩
theorem SU.cells (h : SU w W C B a len cap kS v0 v1 v2 v3 v4 n0 n1 n2 n3 n4 x0 x1 x2 x3 x4) : (W.cell? ⟨kS, 0, none⟩ = some v0 ∧ W.cell? ⟨kS, 1, none⟩ = some v1 ∧ W.cell? ⟨kS, 2, none⟩ = some v2 ∧ W.cell? ⟨kS, 3, none⟩ = some v3 ∧ W.cell? ⟨kS, 4, none⟩ = some v4) ∧ (W.frozen? ⟨kS, 0, none⟩ = false ∧ W.frozen? ⟨kS, 1, none⟩ = false ∧ W.frozen? ⟨kS, 2, none⟩ = false ∧ W.frozen? ⟨kS, 3, none⟩ = false ∧ W.frozen? ⟨kS, 4, none⟩ = false) := P.box5_cells h.s
theorem SU.far (h : SU w W C B a len cap kS v0 v1 v2 v3 v4 n0 n1 n2 n3 n4 x0 x1 x2 x3 x4) : v0.ownBlock ≠ some kS ∧ v1.ownBlock ≠ some kS ∧ v2.ownBlock ≠ some kS ∧ v3.ownBlock ≠ some kS ∧ v4.ownBlock ≠ some kS :=
  ⟨own_far h.o0 h.s (by decide), own_far h.o1 h.s (by decide), own_far h.o2 h.s (by decide), own_far h.o3 h.s (by decide), own_far h.o4 h.s (by decide)⟩
/-- behind a store into the set-up's block -/
theorem SU.st {i : Nat} {x : Value} (h : SU w W C B a len cap kS v0 v1 v2 v3 v4 n0 n1 n2 n3 n4 x0 x1 x2 x3 x4) {u0 u1 u2 u3 u4 : Value} (hs : (W.setCell ⟨kS, i, none⟩ x).heap[kS]? = some (.cells #[u0, u1, u2, u3, u4] 30)) {m0 m1 m2 m3 m4 : Nat} {y0 y1 y2 y3 y4 : List Value}
    (h0 : W.ownsRow w.heap.size 85 2 u0 m0 y0) (h1 : W.ownsRow w.heap.size 37 2 u1 m1 y1) (h2 : W.ownsRow w.heap.size 35 5 u2 m2 y2) (h3 : W.ownsRow w.heap.size 33 3 u3 m3 y3) (h4 : W.ownsRow w.heap.size 9 1 u4 m4 y4) :
    SU w (W.setCell ⟨kS, i, none⟩ x) C B a len cap kS u0 u1 u2 u3 u4 m0 m1 m2 m3 m4 y0 y1 y2 y3 y4 :=
  ⟨P.drawn_put h.d _ _ (Nat.le_of_lt h.hk) h.hC h.hB, P.set_other h.z (by have := h.hk; omega), hs, own_set h0 (own_far h0 h.s (by decide)), own_set h1 (own_far h1 h.s (by decide)), own_set h2 (own_far h2 h.s (by decide)), own_set h3 (own_far h3 h.s (by decide)), own_set h4 (own_far h4 h.s (by decide)), h.hC, h.hB, h.hk⟩
/-- behind an append to new memory of one type: the blocks of the others stand -/
theorem SU.gr {t : TypeId} {e : Option Nat} (h : SU w W C B a len cap kS v0 v1 v2 v3 v4 n0 n1 n2 n3 n4 x0 x1 x2 x3 x4) (hg : W.grownBy W' e) (he : ∀ b, e = some b → w.heap.size ≤ b ∧ b ≠ w.heap.size ∧ b ≠ kS) : Drawn w W' C B a len cap ∧ W'.heap[w.heap.size]? = some (.cells #[nilV, nilV, nilV, nilV, nilV] 30) ∧ W'.heap[kS]? = some (.cells #[v0, v1, v2, v3, v4] 30) := by
  have hC := h.hC
  have hB := h.hB
  refine ⟨⟨?_, ?_, ?_⟩, ?_, ?_⟩
  · obtain ⟨j, u, hj, hc⟩ := h.d.1
    refine ⟨j, u, hj, ?_⟩
    unfold CurAt at hc ⊢
    exact (hg.block C (row_lt hc) (fun e' => by have := (he C e'.symm).1; omega)).trans hc
  · refine code_below h.d.2.1 ((Below.refl _ _).grown hg ?_ (fun b hb => by have := (he b hb).1; omega))
    have := h.d.2.2.size; omega
  · have hd := h.d.2.2
    exact ⟨hg.os.trans hd.os, hg.tape.trans hd.tape, hg.output.trans hd.output, Nat.le_trans hd.size hg.size, fun i hi hne => (hg.block i (Nat.lt_of_lt_of_le hi hd.size) (fun e' => by have := (he i e'.symm).1; omega)).trans (hd.block i hi hne)⟩
  · exact (hg.block _ (row_lt h.z) (fun e' => (he _ e'.symm).2.1 rfl)).trans h.z
  · exact (hg.block _ (row_lt h.s) (fun e' => (he _ e'.symm).2.2 rfl)).trans h.s
theorem SU.app2 {m : Nat} {y : List Value} (h : SU w W C B a len cap kS v0 v1 v2 v3 v4 n0 n1 n2 n3 n4 x0 x1 x2 x3 x4) (hg : W.grownBy W' v2.ownBlock) (hn : W'.ownsRow w.heap.size 35 5 v' m y) :
    SU w (W'.setCell ⟨kS, 2, none⟩ v') C B a len cap kS v0 v1 v' v3 v4 n0 n1 m n3 n4 x0 x1 y x3 x4 := by
  obtain ⟨g1, g2, g3⟩ := h.gr (t := 0) hg (fun b hb => ⟨own_ge h.o2 b hb, fun e => own_far h.o2 h.z (by decide) (by rw [← e]; exact hb), fun e => h.far.2.2.1 (by rw [← e]; exact hb)⟩)
  have h0 := own_other h.o0 hg (fun g e e' => own_apart h.o0 h.o2 (by decide) g e e')
  have h1 := own_other h.o1 hg (fun g e e' => own_apart h.o1 h.o2 (by decide) g e e')
  have h3 := own_other h.o3 hg (fun g e e' => own_apart h.o3 h.o2 (by decide) g e e')
  have h4 := own_other h.o4 hg (fun g e e' => own_apart h.o4 h.o2 (by decide) g e e')
  exact ⟨P.drawn_put g1 _ _ (Nat.le_of_lt h.hk) h.hC h.hB, P.set_other g2 (by have := h.hk; omega), P.set1_row g3, own_set h0 (own_far h0 g3 (by decide)), own_set h1 (own_far h1 g3 (by decide)), own_set hn (own_far hn g3 (by decide)), own_set h3 (own_far h3 g3 (by decide)), own_set h4 (own_far h4 g3 (by decide)), h.hC, h.hB, h.hk⟩
theorem SU.app4 {m : Nat} {y : List Value} (h : SU w W C B a len cap kS v0 v1 v2 v3 v4 n0 n1 n2 n3 n4 x0 x1 x2 x3 x4) (hg : W.grownBy W' v4.ownBlock) (hn : W'.ownsRow w.heap.size 9 1 v' m y) :
    SU w (W'.setCell ⟨kS, 4, none⟩ v') C B a len cap kS v0 v1 v2 v3 v' n0 n1 n2 n3 m x0 x1 x2 x3 y := by
  obtain ⟨g1, g2, g3⟩ := h.gr (t := 0) hg (fun b hb => ⟨own_ge h.o4 b hb, fun e => own_far h.o4 h.z (by decide) (by rw [← e]; exact hb), fun e => h.far.2.2.2.2 (by rw [← e]; exact hb)⟩)
  have h0 := own_other h.o0 hg (fun g e e' => own_apart h.o0 h.o4 (by decide) g e e')
  have h1 := own_other h.o1 hg (fun g e e' => own_apart h.o1 h.o4 (by decide) g e e')
  have h2 := own_other h.o2 hg (fun g e e' => own_apart h.o2 h.o4 (by decide) g e e')
  have h3 := own_other h.o3 hg (fun g e e' => own_apart h.o3 h.o4 (by decide) g e e')
  exact ⟨P.drawn_put g1 _ _ (Nat.le_of_lt h.hk) h.hC h.hB, P.set_other g2 (by have := h.hk; omega), P.set1_row g3, own_set h0 (own_far h0 g3 (by decide)), own_set h1 (own_far h1 g3 (by decide)), own_set h2 (own_far h2 g3 (by decide)), own_set h3 (own_far h3 g3 (by decide)), own_set hn (own_far hn g3 (by decide)), h.hC, h.hB, h.hk⟩
end
end Go.Proofs.YtadbekhekggpkaaDoor
