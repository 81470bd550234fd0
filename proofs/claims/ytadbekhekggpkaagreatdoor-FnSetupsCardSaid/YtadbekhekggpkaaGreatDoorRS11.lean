/-
  The memory of a reading of a set-up: the result's block, the cursor, the set-up's block, its five lists.
-/
import Derived.Test.YtadbekhekggpkaaGreatDoorReadM
namespace Go.Proofs.YtadbekhekggpkaaGreatDoor
open Go.RowKit Go.PlainAid
set_option linter.unusedVariables false

theorem own_apart11 {W : World} {B B' t t' z z' n n' : Nat} {v v' : Value} {xs xs' : List Value} (h : W.ownsRow B t z v n xs) (h' : W.ownsRow B' t' z' v' n' xs') (ht : t ≠ t') : ∀ g, v.ownBlock = some g → v'.ownBlock ≠ some g := by
  intro g hg hg'
  rcases h.2 with ⟨rfl, _⟩ | ⟨a, c, cur, rfl, _, hh, _⟩
  · cases hg
  · cases hg
    rcases h'.2 with ⟨rfl, _⟩ | ⟨a', c', cur', rfl, _, hh', _⟩
    · cases hg'
    · cases hg'
      rw [hh] at hh'
      cases hh'
      exact ht rfl
theorem own_far11 {W : World} {B t z n k : Nat} {v : Value} {xs : List Value} {cs : Array Value} {t' : TypeId} (h : W.ownsRow B t z v n xs) (hk : W.heap[k]? = some (.cells cs t')) (ht : t ≠ t') : v.ownBlock ≠ some k := by
  intro hg
  rcases h.2 with ⟨rfl, _⟩ | ⟨a, c, cur, rfl, _, hh, _⟩
  · cases hg
  · cases hg
    rw [hh] at hk
    cases hk
    exact ht rfl
theorem own_set11 {w : World} {B t z n k i : Nat} {v x : Value} {xs : List Value} (h : w.ownsRow B t z v n xs) (hk : v.ownBlock ≠ some k) : (w.setCell ⟨k, i, none⟩ x).ownsRow B t z v n xs := by
  refine ⟨h.1, ?_⟩
  rcases h.2 with h2 | ⟨g, cap, cur, rfl, hg, hh, h3⟩
  · exact .inl h2
  · exact .inr ⟨g, cap, cur, rfl, hg, set_far hh (fun e => hk (by subst e; rfl)), h3⟩
theorem own_other11 {W W' : World} {B t z n : Nat} {v : Value} {xs : List Value} {e : Option Nat} (h : W.ownsRow B t z v n xs) (hg : W.grownBy W' e) (hne : ∀ g, v.ownBlock = some g → e ≠ some g) : W'.ownsRow B t z v n xs :=
  h.kept hg (by
    cases hv : v.ownBlock with
    | none => exact .inl rfl
    | some g => exact .inr (fun e' => hne g hv e'.symm))
/-- five lists that a call owns -/
structure OwnX (W : World) (B : Nat) (s : SH) (X : SX) : Prop where
  o0 : W.ownsRow B 48 2 (.slice s.q0 s.n0 s.c0) s.n0 (R.regsV X.R)
  o1 : W.ownsRow B 50 2 (.slice s.q1 s.n1 s.c1) s.n1 (regsV X.W)
  o2 : W.ownsRow B 52 5 (.slice s.q2 s.n2 s.c2) s.n2 (prtV X.O)
  o3 : W.ownsRow B 54 3 (.slice s.q3 s.n3 s.c3) s.n3 (rulV X.U)
  o4 : W.ownsRow B 9 1 (.slice s.q4 s.n4 s.c4) s.n4 (S.strV X.S)
theorem OwnX.bel {W W' : World} {B : Nat} {s : SH} {X : SX} (h : OwnX W B s X) (hb : Below W.heap.size W W') : OwnX W' B s X :=
  ⟨own_keep h.o0 hb (own_lt h.o0), own_keep h.o1 hb (own_lt h.o1), own_keep h.o2 hb (own_lt h.o2), own_keep h.o3 hb (own_lt h.o3), own_keep h.o4 hb (own_lt h.o4)⟩
theorem OwnX.al {W : World} {B : Nat} {s : SH} {X : SX} (h : OwnX W B s X) (o : Obj) : OwnX (W.alloc o) B s X := h.bel ((Below.refl _ _).alloc (Nat.le_refl _) _)
theorem OwnX.set {W : World} {B k i : Nat} {s : SH} {X : SX} {x : Value} (h : OwnX W B s X) {cs : Array Value} {T : TypeId} (hk : W.heap[k]? = some (.cells cs T)) (hT : 48 ≠ T ∧ 50 ≠ T ∧ 52 ≠ T ∧ 54 ≠ T ∧ 9 ≠ T) : OwnX (W.setCell ⟨k, i, none⟩ x) B s X :=
  ⟨own_set11 h.o0 (own_far11 h.o0 hk hT.1), own_set11 h.o1 (own_far11 h.o1 hk hT.2.1), own_set11 h.o2 (own_far11 h.o2 hk hT.2.2.1), own_set11 h.o3 (own_far11 h.o3 hk hT.2.2.2.1), own_set11 h.o4 (own_far11 h.o4 hk hT.2.2.2.2)⟩
theorem OwnX.gr {W W' : World} {B k : Nat} {s : SH} {X : SX} (h : OwnX W B s X) {cs : Array Value} {T : TypeId} (hk : W.heap[k]? = some (.cells cs T)) (hT : 48 ≠ T ∧ 50 ≠ T ∧ 52 ≠ T ∧ 54 ≠ T ∧ 9 ≠ T) (hg : W.grownBy W' (some k)) : OwnX W' B s X :=
  ⟨own_other11 h.o0 hg (fun g e e2 => own_far11 h.o0 hk hT.1 (by cases e2; exact e)), own_other11 h.o1 hg (fun g e e2 => own_far11 h.o1 hk hT.2.1 (by cases e2; exact e)), own_other11 h.o2 hg (fun g e e2 => own_far11 h.o2 hk hT.2.2.1 (by cases e2; exact e)), own_other11 h.o3 hg (fun g e e2 => own_far11 h.o3 hk hT.2.2.2.1 (by cases e2; exact e)), own_other11 h.o4 hg (fun g e e2 => own_far11 h.o4 hk hT.2.2.2.2 (by cases e2; exact e))⟩
theorem OwnX.rd {W : World} {B : Nat} {s : SH} {X : SX} (h : OwnX W B s X) : RdX W s X := by
  obtain ⟨h0, h1, h2, h3, h4⟩ := h
  refine ⟨?_, ?_, ?_, ?_, OwnO.len h2, OwnO.rd h2, OwnU.len h3, OwnU.rd h3, by have := h4.1; rw [S.strV_len] at this; omega, S.rdS_own h4⟩
  · obtain ⟨_, _, _, _, hl, _⟩ := R.own_rdR h0; exact hl
  · obtain ⟨a, cap, hv, _, _, hr⟩ := R.own_rdR h0; cases hv; exact hr
  · obtain ⟨_, _, _, _, hl, _⟩ := own_rdR h1; exact hl
  · obtain ⟨a, cap, hv, _, _, hr⟩ := own_rdR h1; cases hv; exact hr
/-- the memory of a reading -/
structure RS (w W : World) (t : ByteArray) (a : Nat) (b : Bool) (s : SH) (X : SX) : Prop where
  bl : Below w.heap.size w W
  z : W.heap[w.heap.size]? = some (.cells #[.slice none 0 0, .slice none 0 0, .slice none 0 0, .slice none 0 0, .slice none 0 0] 30)
  c : CurX W (w.heap.size + 1) t a b
  sb : W.heap[w.heap.size + 1 + 1]? = some (.cells #[.slice s.q0 s.n0 s.c0, .slice s.q1 s.n1 s.c1, .slice s.q2 s.n2 s.c2, .slice s.q3 s.n3 s.c3, .slice s.q4 s.n4 s.c4] 30)
  o : OwnX W w.heap.size s X
theorem RS.bel {w W W' : World} {t : ByteArray} {a : Nat} {b : Bool} {s : SH} {X : SX} (h : RS w W t a b s X) (hb : Below W.heap.size W W') : RS w W' t a b s X :=
  ⟨bel_on (Nat.le_refl _) h.bl hb, row_on h.z hb, row_on h.c hb, row_on h.sb hb, h.o.bel hb⟩
theorem RS.al {w W : World} {t : ByteArray} {a : Nat} {b : Bool} {s : SH} {X : SX} (h : RS w W t a b s X) (o : Obj) : RS w (W.alloc o) t a b s X := h.bel ((Below.refl _ _).alloc (Nat.le_refl _) _)
theorem RS.read {w W W' : World} {t : ByteArray} {a a' : Nat} {b b' : Bool} {s : SH} {X : SX} (h : RS w W t a b s X) (hc : CurX W' (w.heap.size + 1) t a' b') (hg : W.grownBy W' (some (w.heap.size + 1))) : RS w W' t a' b' s X :=
  ⟨h.bl.grown hg h.bl.size (fun k hk => by cases hk; omega), (hg.block _ (row_lt h.z) (fun e => by simp at e)).trans h.z, hc, (hg.block _ (row_lt h.sb) (fun e => by simp at e)).trans h.sb, h.o.gr h.c (by decide) hg⟩
theorem RS.far {w W : World} {t : ByteArray} {a : Nat} {b : Bool} {s : SH} {X : SX} {B T z n : Nat} {v : Value} {xs : List Value} (h : RS w W t a b s X) (ho : W.ownsRow B T z v n xs) (h1 : T ≠ 30) (h2 : T ≠ 74) : v.ownBlock ≠ some w.heap.size ∧ v.ownBlock ≠ some (w.heap.size + 1) ∧ v.ownBlock ≠ some (w.heap.size + 1 + 1) :=
  ⟨own_far11 ho h.z h1, own_far11 ho h.c h2, own_far11 ho h.sb h1⟩
theorem RS.app0 {w W W' : World} {t : ByteArray} {a : Nat} {b : Bool} {s : SH} {X : SX} {q' : Option Addr} {m' c' : Nat} {y : List (Int × Int)} (h : RS w W t a b s X) (hg : W.grownBy W' (Value.slice s.q0 s.n0 s.c0).ownBlock) (hn : W'.ownsRow w.heap.size 48 2 (.slice q' m' c') m' (R.regsV y)) :
    RS w (W'.setCell ⟨w.heap.size + 1 + 1, 0, none⟩ (.slice q' m' c')) t a b ⟨q', m', c', s.q1, s.n1, s.c1, s.q2, s.n2, s.c2, s.q3, s.n3, s.c3, s.q4, s.n4, s.c4⟩ ⟨y, X.W, X.O, X.U, X.S⟩ := by
  have hf := h.far h.o.o0 (by decide) (by decide)
  have hge := own_ge h.o.o0
  have hz := (hg.block _ (row_lt h.z) (fun e => hf.1 e.symm)).trans h.z
  have hc := (hg.block _ (row_lt h.c) (fun e => hf.2.1 e.symm)).trans h.c
  have hs := (hg.block _ (row_lt h.sb) (fun e => hf.2.2 e.symm)).trans h.sb
  have hb : Below w.heap.size w W' := h.bl.grown hg h.bl.size (fun k hk => hge k hk)
  have h1 := own_other11 h.o.o1 hg (fun g e e' => own_apart11 h.o.o1 h.o.o0 (by decide) g e e')
  have h2 := own_other11 h.o.o2 hg (fun g e e' => own_apart11 h.o.o2 h.o.o0 (by decide) g e e')
  have h3 := own_other11 h.o.o3 hg (fun g e e' => own_apart11 h.o.o3 h.o.o0 (by decide) g e e')
  have h4 := own_other11 h.o.o4 hg (fun g e e' => own_apart11 h.o.o4 h.o.o0 (by decide) g e e')
  have hnf := own_far11 hn hs (by decide)
  have f1 := own_far11 h1 hs (by decide)
  have f2 := own_far11 h2 hs (by decide)
  have f3 := own_far11 h3 hs (by decide)
  have f4 := own_far11 h4 hs (by decide)
  exact ⟨hb.setCell (by show _ ≤ w.heap.size + 1 + 1; omega) _, set_far hz (by omega), set_far hc (by omega), set_row5 hs 0 _, ⟨own_set11 hn hnf, own_set11 h1 f1, own_set11 h2 f2, own_set11 h3 f3, own_set11 h4 f4⟩⟩
theorem RS.app1 {w W W' : World} {t : ByteArray} {a : Nat} {b : Bool} {s : SH} {X : SX} {q' : Option Addr} {m' c' : Nat} {y : List (Int × Int)} (h : RS w W t a b s X) (hg : W.grownBy W' (Value.slice s.q1 s.n1 s.c1).ownBlock) (hn : W'.ownsRow w.heap.size 50 2 (.slice q' m' c') m' (regsV y)) :
    RS w (W'.setCell ⟨w.heap.size + 1 + 1, 1, none⟩ (.slice q' m' c')) t a b ⟨s.q0, s.n0, s.c0, q', m', c', s.q2, s.n2, s.c2, s.q3, s.n3, s.c3, s.q4, s.n4, s.c4⟩ ⟨X.R, y, X.O, X.U, X.S⟩ := by
  have hf := h.far h.o.o1 (by decide) (by decide)
  have hge := own_ge h.o.o1
  have hz := (hg.block _ (row_lt h.z) (fun e => hf.1 e.symm)).trans h.z
  have hc := (hg.block _ (row_lt h.c) (fun e => hf.2.1 e.symm)).trans h.c
  have hs := (hg.block _ (row_lt h.sb) (fun e => hf.2.2 e.symm)).trans h.sb
  have hb : Below w.heap.size w W' := h.bl.grown hg h.bl.size (fun k hk => hge k hk)
  have h0 := own_other11 h.o.o0 hg (fun g e e' => own_apart11 h.o.o0 h.o.o1 (by decide) g e e')
  have h2 := own_other11 h.o.o2 hg (fun g e e' => own_apart11 h.o.o2 h.o.o1 (by decide) g e e')
  have h3 := own_other11 h.o.o3 hg (fun g e e' => own_apart11 h.o.o3 h.o.o1 (by decide) g e e')
  have h4 := own_other11 h.o.o4 hg (fun g e e' => own_apart11 h.o.o4 h.o.o1 (by decide) g e e')
  have hnf := own_far11 hn hs (by decide)
  have f0 := own_far11 h0 hs (by decide)
  have f2 := own_far11 h2 hs (by decide)
  have f3 := own_far11 h3 hs (by decide)
  have f4 := own_far11 h4 hs (by decide)
  exact ⟨hb.setCell (by show _ ≤ w.heap.size + 1 + 1; omega) _, set_far hz (by omega), set_far hc (by omega), set_row5 hs 1 _, ⟨own_set11 h0 f0, own_set11 hn hnf, own_set11 h2 f2, own_set11 h3 f3, own_set11 h4 f4⟩⟩
theorem RS.app2 {w W W' : World} {t : ByteArray} {a : Nat} {b : Bool} {s : SH} {X : SX} {q' : Option Addr} {m' c' : Nat} {y : List Prt} (h : RS w W t a b s X) (hg : W.grownBy W' (Value.slice s.q2 s.n2 s.c2).ownBlock) (hn : W'.ownsRow w.heap.size 52 5 (.slice q' m' c') m' (prtV y)) :
    RS w (W'.setCell ⟨w.heap.size + 1 + 1, 2, none⟩ (.slice q' m' c')) t a b ⟨s.q0, s.n0, s.c0, s.q1, s.n1, s.c1, q', m', c', s.q3, s.n3, s.c3, s.q4, s.n4, s.c4⟩ ⟨X.R, X.W, y, X.U, X.S⟩ := by
  have hf := h.far h.o.o2 (by decide) (by decide)
  have hge := own_ge h.o.o2
  have hz := (hg.block _ (row_lt h.z) (fun e => hf.1 e.symm)).trans h.z
  have hc := (hg.block _ (row_lt h.c) (fun e => hf.2.1 e.symm)).trans h.c
  have hs := (hg.block _ (row_lt h.sb) (fun e => hf.2.2 e.symm)).trans h.sb
  have hb : Below w.heap.size w W' := h.bl.grown hg h.bl.size (fun k hk => hge k hk)
  have h0 := own_other11 h.o.o0 hg (fun g e e' => own_apart11 h.o.o0 h.o.o2 (by decide) g e e')
  have h1 := own_other11 h.o.o1 hg (fun g e e' => own_apart11 h.o.o1 h.o.o2 (by decide) g e e')
  have h3 := own_other11 h.o.o3 hg (fun g e e' => own_apart11 h.o.o3 h.o.o2 (by decide) g e e')
  have h4 := own_other11 h.o.o4 hg (fun g e e' => own_apart11 h.o.o4 h.o.o2 (by decide) g e e')
  have hnf := own_far11 hn hs (by decide)
  have f0 := own_far11 h0 hs (by decide)
  have f1 := own_far11 h1 hs (by decide)
  have f3 := own_far11 h3 hs (by decide)
  have f4 := own_far11 h4 hs (by decide)
  exact ⟨hb.setCell (by show _ ≤ w.heap.size + 1 + 1; omega) _, set_far hz (by omega), set_far hc (by omega), set_row5 hs 2 _, ⟨own_set11 h0 f0, own_set11 h1 f1, own_set11 hn hnf, own_set11 h3 f3, own_set11 h4 f4⟩⟩
theorem RS.app3 {w W W' : World} {t : ByteArray} {a : Nat} {b : Bool} {s : SH} {X : SX} {q' : Option Addr} {m' c' : Nat} {y : List Rule} (h : RS w W t a b s X) (hg : W.grownBy W' (Value.slice s.q3 s.n3 s.c3).ownBlock) (hn : W'.ownsRow w.heap.size 54 3 (.slice q' m' c') m' (rulV y)) :
    RS w (W'.setCell ⟨w.heap.size + 1 + 1, 3, none⟩ (.slice q' m' c')) t a b ⟨s.q0, s.n0, s.c0, s.q1, s.n1, s.c1, s.q2, s.n2, s.c2, q', m', c', s.q4, s.n4, s.c4⟩ ⟨X.R, X.W, X.O, y, X.S⟩ := by
  have hf := h.far h.o.o3 (by decide) (by decide)
  have hge := own_ge h.o.o3
  have hz := (hg.block _ (row_lt h.z) (fun e => hf.1 e.symm)).trans h.z
  have hc := (hg.block _ (row_lt h.c) (fun e => hf.2.1 e.symm)).trans h.c
  have hs := (hg.block _ (row_lt h.sb) (fun e => hf.2.2 e.symm)).trans h.sb
  have hb : Below w.heap.size w W' := h.bl.grown hg h.bl.size (fun k hk => hge k hk)
  have h0 := own_other11 h.o.o0 hg (fun g e e' => own_apart11 h.o.o0 h.o.o3 (by decide) g e e')
  have h1 := own_other11 h.o.o1 hg (fun g e e' => own_apart11 h.o.o1 h.o.o3 (by decide) g e e')
  have h2 := own_other11 h.o.o2 hg (fun g e e' => own_apart11 h.o.o2 h.o.o3 (by decide) g e e')
  have h4 := own_other11 h.o.o4 hg (fun g e e' => own_apart11 h.o.o4 h.o.o3 (by decide) g e e')
  have hnf := own_far11 hn hs (by decide)
  have f0 := own_far11 h0 hs (by decide)
  have f1 := own_far11 h1 hs (by decide)
  have f2 := own_far11 h2 hs (by decide)
  have f4 := own_far11 h4 hs (by decide)
  exact ⟨hb.setCell (by show _ ≤ w.heap.size + 1 + 1; omega) _, set_far hz (by omega), set_far hc (by omega), set_row5 hs 3 _, ⟨own_set11 h0 f0, own_set11 h1 f1, own_set11 h2 f2, own_set11 hn hnf, own_set11 h4 f4⟩⟩
theorem RS.app4 {w W W' : World} {t : ByteArray} {a : Nat} {b : Bool} {s : SH} {X : SX} {q' : Option Addr} {m' c' : Nat} {y : List ByteArray} (h : RS w W t a b s X) (hg : W.grownBy W' (Value.slice s.q4 s.n4 s.c4).ownBlock) (hn : W'.ownsRow w.heap.size 9 1 (.slice q' m' c') m' (S.strV y)) :
    RS w (W'.setCell ⟨w.heap.size + 1 + 1, 4, none⟩ (.slice q' m' c')) t a b ⟨s.q0, s.n0, s.c0, s.q1, s.n1, s.c1, s.q2, s.n2, s.c2, s.q3, s.n3, s.c3, q', m', c'⟩ ⟨X.R, X.W, X.O, X.U, y⟩ := by
  have hf := h.far h.o.o4 (by decide) (by decide)
  have hge := own_ge h.o.o4
  have hz := (hg.block _ (row_lt h.z) (fun e => hf.1 e.symm)).trans h.z
  have hc := (hg.block _ (row_lt h.c) (fun e => hf.2.1 e.symm)).trans h.c
  have hs := (hg.block _ (row_lt h.sb) (fun e => hf.2.2 e.symm)).trans h.sb
  have hb : Below w.heap.size w W' := h.bl.grown hg h.bl.size (fun k hk => hge k hk)
  have h0 := own_other11 h.o.o0 hg (fun g e e' => own_apart11 h.o.o0 h.o.o4 (by decide) g e e')
  have h1 := own_other11 h.o.o1 hg (fun g e e' => own_apart11 h.o.o1 h.o.o4 (by decide) g e e')
  have h2 := own_other11 h.o.o2 hg (fun g e e' => own_apart11 h.o.o2 h.o.o4 (by decide) g e e')
  have h3 := own_other11 h.o.o3 hg (fun g e e' => own_apart11 h.o.o3 h.o.o4 (by decide) g e e')
  have hnf := own_far11 hn hs (by decide)
  have f0 := own_far11 h0 hs (by decide)
  have f1 := own_far11 h1 hs (by decide)
  have f2 := own_far11 h2 hs (by decide)
  have f3 := own_far11 h3 hs (by decide)
  exact ⟨hb.setCell (by show _ ≤ w.heap.size + 1 + 1; omega) _, set_far hz (by omega), set_far hc (by omega), set_row5 hs 4 _, ⟨own_set11 h0 f0, own_set11 h1 f1, own_set11 h2 f2, own_set11 h3 f3, own_set11 hn hnf⟩⟩
end Go.Proofs.YtadbekhekggpkaaGreatDoor
