/-
  What stands while a device ticks; what a tick leaves.
-/
import Derived.Test.YtfhhnelffldggaaGreatDoorRqAM
import Derived.Test.YtfhhnelffldggaaGreatDoorRqAO
import Derived.Test.YtfhhnelffldggaaGreatDoorRqBJ
import Derived.Test.YtfhhnelffldggaaGreatDoorRqAK
import Derived.Test.YtfhhnelffldggaaGreatDoorRqAN
import Derived.Test.YtfhhnelffldggaaGreatDoorRqAV
import Derived.Test.YtfhhnelffldggaaGreatDoorRqAE
import Derived.Deep.DeepCutAuto
namespace Go.Proofs.YtfhhnelffldggaaGreatDoor
open Go.RowKit Go.PlainAid
set_option linter.unusedVariables false
set_option linter.unusedSimpArgs false
theorem tickD_eq {D : Dv} {i : Ic} {M : Mn} {l2 : List Od4} {P P3 : Pm} {R al2 nn : Int} {sb : Bool} {Y : List Int} (h1 : allM D.m i.ks = (M, l2)) (h2 : takeL ⟨D.p, D.rf + i.lr, false⟩ (l2 ++ i.lo) = ⟨P, R, sb⟩) (h3 : G.feelA true D.al i.b sb = al2) (h4 : (if true = true ∧ al2 = 0 then G.letG D.l P.wants else 0) = nn) (h5 : (if al2 = 0 then P.give nn else P) = P3) (h6 : G.passL true D.l nn = Y) :
    tickD D i = ⟨P3, Y, al2, M, D.t ++ [(nn, al2, P3.s)], R⟩ := by
  have e1 : ordsD D i = ⟨P, R, sb⟩ := by unfold ordsD; rw [h1]; exact h2
  have e2 : alD D i = al2 := by unfold alD; rw [e1]; exact h3
  have e3 : numD D i = nn := by
    unfold numD
    rw [e1, e2, ← h4]
    by_cases h : al2 = 0
    · rw [if_pos h, if_pos ⟨rfl, h⟩]
    · rw [if_neg h, if_neg (fun k => h k.2)]
  have e4 : pmpD D i = P3 := by unfold pmpD; rw [e1, e2, e3]; exact h5
  unfold tickD
  rw [e4, e3, e2, e1, h1, h6]
structure PT (w w' : World) (D I Z : Obj) : Prop where
  d : w'.heap[w.heap.size]? = some D
  i : w'.heap[w.heap.size + 1]? = some I
  z : w'.heap[w.heap.size + 2]? = some Z
  b : Below w.heap.size w w'
theorem PT.on {w w' w2 : World} {D I Z : Obj} (h : PT w w' D I Z) (hb : Below w'.heap.size w' w2) : PT w w2 D I Z := ⟨row_on h.d hb, row_on h.i hb, row_on h.z hb, bel_on (Nat.le_refl _) h.b hb⟩
theorem PT.drew {w w' : World} {D I Z : Obj} (h : PT w w' D I Z) : PT w w'.drew D I Z := ⟨h.d, h.i, h.z, h.b.drew⟩
theorem PT.put {w w' w2 : World} {D I Z o : Obj} {k : Nat} (h : PT w w' D I Z) (hp : PutM w' w2 k o) (hk : w.heap.size + 2 < k) : PT w w2 D I Z := ⟨hp.far h.d (by omega), hp.far h.i (by omega), hp.far h.z (by omega), hp.2.2.2 _ _ (by omega) h.b⟩
theorem PT.grown {w w' w2 : World} {D I Z : Obj} {r : Option Nat} (h : PT w w' D I Z) (hg : w'.grownBy w2 r) (hr : ∀ m, r = some m → w.heap.size + 2 < m) : PT w w2 D I Z :=
  ⟨row_grown h.d hg (fun e => by have := hr _ e; omega), row_grown h.i hg (fun e => by have := hr _ e; omega), row_grown h.z hg (fun e => by have := hr _ e; omega), h.b.grown hg h.b.size (fun m hm => by have := hr m hm; omega)⟩
theorem PT.lt {w w' : World} {D I Z : Obj} (h : PT w w' D I Z) : w.heap.size + 2 < w'.heap.size := row_lt h.z
theorem box3_cells' {w : World} {k : Nat} {t : TypeId} {x y z : Value} (h : w.heap[k]? = some (.cells #[x, y, z] t)) :
    (w.cell? ⟨k, 0, none⟩ = some x ∧ w.cell? ⟨k, 1, none⟩ = some y ∧ w.cell? ⟨k, 2, none⟩ = some z) := by
  refine ⟨?_, ?_, ?_⟩ <;> simp [World.cell?, h]
theorem storeP_any' {ops : Array Oper} {o : Oper} {a : Act} {K : Act → World → Prop} {Q : Exit → Act → World → Prop} {E : Prop} {w : World} (hw : Region.wanted o (yielded ops a.tmps) = true) (hd : o.dst = none) (x y : Operand) (ty : TypeId) (ho : o.op = .store ty x y) (hty : ty = 29)
    (g : Nat) (vs : Array Value) (hx : a.eval x = .pointer (some ⟨g, 0, none⟩)) (hy : a.eval y = .agg vs) (hv : vs.size = 8) (h1 : vs.all (·.oneCell') = true)
    {u0 u1 u2 u3 u4 u5 u6 u7 : Value} (hg : w.heap[g]? = some (.cells #[u0, u1, u2, u3, u4, u5, u6, u7] 29))
    (h : ∀ w' : World, PutM w w' g (.cells vs 29) → K a w') : if Region.wanted o (yielded ops a.tmps) = true then Oper.wp Tryz.prog o a w K Q else E := by
  subst hty
  rw [if_pos hw]
  refine wp_store_row _ x y ho g _ hx hy _ _ hg (by rw [hv]; kernel_rfl) (by rw [hv]; rfl) h1 ?_
  rw [hd]
  exact h _ (putM_row hg)
theorem al3_row (w : World) (o p q : Obj) : PT w (((w.alloc o).alloc p).alloc q) o p q := by
  obtain ⟨h1, h2, h3, h4, _⟩ := box3m w o p q
  exact ⟨h1, h2, h3, h4⟩
theorem ownu_ne {w : World} {B g n c k : Nat} {t : List Tk3} {x0 x1 x2 x3 x4 x5 x6 x7 : Value} (h : OwnU w B g n c t) (e : g = k) (hr : w.heap[k]? = some (.cells #[x0, x1, x2, x3, x4, x5, x6, x7] 29)) : False := by
  subst e
  rcases h.2 with ⟨hv, _⟩ | ⟨g', cap, cur, hv, _, hh, _⟩
  · cases hv
  · cases hv
    rw [hr] at hh
    cases hh
theorem gown_rd {w : World} {B g n c : Nat} {l : List Int} (h : G.OwnN w B g n c l) : G.Rd w (some ⟨g, 0, none⟩) l := by
  obtain ⟨a, cap, e, _, _, hr⟩ := G.own_rd h
  cases e
  exact hr
theorem ouG_ne {w : World} {B C g n c g2 n2 c2 : Nat} {t : List Tk3} {l : List Int} (h : OwnU w B g n c t) (h2 : G.OwnN w C g2 n2 c2 l) (e : g2 = g) : False := by
  subst e
  rcases h.2 with ⟨hv, _⟩ | ⟨g', cap, cur, hv, _, hh, _⟩
  · cases hv
  · cases hv
    rcases h2.2 with ⟨hv, _⟩ | ⟨g', cap', cur', hv, _, hh2, _⟩
    · cases hv
    · cases hv
      rw [hh] at hh2
      cases hh2
theorem ou_ne {w : World} {B C n c q c2 g : Nat} {t : List Tk3} {A : Option Addr} {l : List Od4} (h : OwnU w B g n c t) (ho : OwnA w C A q c2 l) : ∀ k, (Value.slice (some ⟨g, 0, none⟩) n c).ownBlock = some k → (Value.slice A q c2).ownBlock ≠ some k := fun k e e2 => by
  obtain rfl : g = k := Option.some.inj e
  rcases h.2 with ⟨hv, _⟩ | ⟨g', cap, cur, hv, _, hh, _⟩
  · cases hv
  · cases hv
    exact ho.ne hh (fun cur e3 => by cases e3) e2.symm
theorem link_empty (L : ByteArray) : (L.toList = []) ↔ L.size = 0 := by
  rw [ByteArray.toList_eq]
  constructor
  · intro h
    show L.data.size = 0
    rw [← Array.length_toList, h]
    rfl
  · intro h
    have h2 : L.data.size = 0 := h
    exact List.length_eq_zero_iff.1 (by rw [Array.length_toList]; exact h2)
end Go.Proofs.YtfhhnelffldggaaGreatDoor
