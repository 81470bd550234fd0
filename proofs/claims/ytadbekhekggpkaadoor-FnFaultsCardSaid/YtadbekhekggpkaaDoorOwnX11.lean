/-
  Five lists of a set-up that a call owns.
-/
import Derived.Test.YtadbekhekggpkaaDoorSet11
namespace Go.Proofs.YtadbekhekggpkaaDoor
open Go.RowKit Go.PlainAid
set_option linter.unusedVariables false

theorem own_apart11 {W : World} {B B' t t' z z' n n' : Nat} {v v' : Value} {xs xs' : List Value} (h : W.ownsRow B t z v n xs) (h' : W.ownsRow B' t' z' v' n' xs') (ht : t ≠ t') : ∀ g, v.ownBlock = some g → v'.ownBlock ≠ some g := by
  intro g hg hg'
  rcases h.2 with ⟨rfl, _⟩ | ⟨a, c, cur, rfl, _, hh, _⟩
  · cases hg
  · cases hg
    rcases h'.2 with ⟨rfl, _⟩ | ⟨a', c', cur', rfl, _, hh', _⟩
    · cases hg'
    · cases hg'
      rw [hh] at hh'
      cases hh'
      exact ht rfl
theorem own_far11 {W : World} {B t z n k : Nat} {v : Value} {xs : List Value} {cs : Array Value} {t' : TypeId} (h : W.ownsRow B t z v n xs) (hk : W.heap[k]? = some (.cells cs t')) (ht : t ≠ t') : v.ownBlock ≠ some k := by
  intro hg
  rcases h.2 with ⟨rfl, _⟩ | ⟨a, c, cur, rfl, _, hh, _⟩
  · cases hg
  · cases hg
    rw [hh] at hk
    cases hk
    exact ht rfl
theorem own_set11 {w : World} {B t z n k i : Nat} {v x : Value} {xs : List Value} (h : w.ownsRow B t z v n xs) (hk : v.ownBlock ≠ some k) : (w.setCell ⟨k, i, none⟩ x).ownsRow B t z v n xs := by
  refine ⟨h.1, ?_⟩
  rcases h.2 with h2 | ⟨g, cap, cur, rfl, hg, hh, h3⟩
  · exact .inl h2
  · exact .inr ⟨g, cap, cur, rfl, hg, set_far hh (fun e => hk (by subst e; rfl)), h3⟩
theorem own_other11 {W W' : World} {B t z n : Nat} {v : Value} {xs : List Value} {e : Option Nat} (h : W.ownsRow B t z v n xs) (hg : W.grownBy W' e) (hne : ∀ g, v.ownBlock = some g → e ≠ some g) : W'.ownsRow B t z v n xs :=
  h.kept hg (by
    cases hv : v.ownBlock with
    | none => exact .inl rfl
    | some g => exact .inr (fun e' => hne g hv e'.symm))
/-- five lists that a call owns -/
structure OwnX (W : World) (B : Nat) (s : SH) (X : SX) : Prop where
  o0 : W.ownsRow B 85 2 (.slice s.q0 s.n0 s.c0) s.n0 (R.regsV X.R)
  o1 : W.ownsRow B 37 2 (.slice s.q1 s.n1 s.c1) s.n1 (regsV X.W)
  o2 : W.ownsRow B 35 5 (.slice s.q2 s.n2 s.c2) s.n2 (prtV X.O)
  o3 : W.ownsRow B 33 3 (.slice s.q3 s.n3 s.c3) s.n3 (rulV X.U)
  o4 : W.ownsRow B 9 1 (.slice s.q4 s.n4 s.c4) s.n4 (S.strV X.S)
theorem OwnX.bel {W W' : World} {B : Nat} {s : SH} {X : SX} (h : OwnX W B s X) (hb : Below W.heap.size W W') : OwnX W' B s X :=
  ⟨own_keep h.o0 hb (own_lt h.o0), own_keep h.o1 hb (own_lt h.o1), own_keep h.o2 hb (own_lt h.o2), own_keep h.o3 hb (own_lt h.o3), own_keep h.o4 hb (own_lt h.o4)⟩
theorem OwnX.al {W : World} {B : Nat} {s : SH} {X : SX} (h : OwnX W B s X) (o : Obj) : OwnX (W.alloc o) B s X := h.bel ((Below.refl _ _).alloc (Nat.le_refl _) _)
theorem OwnX.set {W : World} {B k i : Nat} {s : SH} {X : SX} {x : Value} (h : OwnX W B s X) {cs : Array Value} {T : TypeId} (hk : W.heap[k]? = some (.cells cs T)) (hT : 85 ≠ T ∧ 37 ≠ T ∧ 35 ≠ T ∧ 33 ≠ T ∧ 9 ≠ T) : OwnX (W.setCell ⟨k, i, none⟩ x) B s X :=
  ⟨own_set11 h.o0 (own_far11 h.o0 hk hT.1), own_set11 h.o1 (own_far11 h.o1 hk hT.2.1), own_set11 h.o2 (own_far11 h.o2 hk hT.2.2.1), own_set11 h.o3 (own_far11 h.o3 hk hT.2.2.2.1), own_set11 h.o4 (own_far11 h.o4 hk hT.2.2.2.2)⟩
theorem OwnX.gr {W W' : World} {B k : Nat} {s : SH} {X : SX} (h : OwnX W B s X) {cs : Array Value} {T : TypeId} (hk : W.heap[k]? = some (.cells cs T)) (hT : 85 ≠ T ∧ 37 ≠ T ∧ 35 ≠ T ∧ 33 ≠ T ∧ 9 ≠ T) (hg : W.grownBy W' (some k)) : OwnX W' B s X :=
  ⟨own_other11 h.o0 hg (fun g e e2 => own_far11 h.o0 hk hT.1 (by cases e2; exact e)), own_other11 h.o1 hg (fun g e e2 => own_far11 h.o1 hk hT.2.1 (by cases e2; exact e)), own_other11 h.o2 hg (fun g e e2 => own_far11 h.o2 hk hT.2.2.1 (by cases e2; exact e)), own_other11 h.o3 hg (fun g e e2 => own_far11 h.o3 hk hT.2.2.2.1 (by cases e2; exact e)), own_other11 h.o4 hg (fun g e e2 => own_far11 h.o4 hk hT.2.2.2.2 (by cases e2; exact e))⟩
theorem OwnX.rd {W : World} {B : Nat} {s : SH} {X : SX} (h : OwnX W B s X) : RdX W s X := by
  obtain ⟨h0, h1, h2, h3, h4⟩ := h
  refine ⟨?_, ?_, ?_, ?_, OwnO.len h2, OwnO.rd h2, OwnU.len h3, OwnU.rd h3, by have := h4.1; rw [S.strV_len] at this; omega, S.rdS_own h4⟩
  · obtain ⟨_, _, _, _, hl, _⟩ := R.own_rdR h0; exact hl
  · obtain ⟨a, cap, hv, _, _, hr⟩ := R.own_rdR h0; cases hv; exact hr
  · obtain ⟨_, _, _, _, hl, _⟩ := own_rdR h1; exact hl
  · obtain ⟨a, cap, hv, _, _, hr⟩ := own_rdR h1; cases hv; exact hr
end Go.Proofs.YtadbekhekggpkaaDoor
