/-
  Rows of a device: stores into parts of it; ticks that the call owns.
-/
import Derived.Test.YtdifmjcghaoilaaGreatDoorGaBT
import Derived.Test.YtdifmjcghaoilaaGreatDoorGaBY
import Derived.Deep.MidRow
import Derived.Test.YtdifmjcghaoilaaGreatDoorGaBP
namespace Go.Proofs.YtdifmjcghaoilaaGreatDoor
open Go.RowKit Go.PlainAid
set_option linter.unusedVariables false
set_option linter.unusedSimpArgs false

def OwnU (w : World) (B g n c : Nat) (l : List Tk3) : Prop := w.ownsRow B 41 3 (.slice (some ⟨g, 0, none⟩) n c) n (tkV l)
theorem OwnU.own {w : World} {B g n c : Nat} {l : List Tk3} (h : OwnU w B g n c l) : OwnY w B (.slice (some ⟨g, 0, none⟩) n c) n l := h
theorem OwnU.len {w : World} {B g n c : Nat} {l : List Tk3} (h : OwnU w B g n c l) : l.length = n := h.own.len
theorem OwnU.ge {w : World} {B g n c : Nat} {l : List Tk3} (h : OwnU w B g n c l) : B ≤ g := own_ge h g rfl
theorem OwnU.lt {w : World} {B g n c : Nat} {l : List Tk3} (h : OwnU w B g n c l) : g < w.heap.size := own_lt h g rfl
theorem OwnU.on {w w' : World} {B g n c : Nat} {l : List Tk3} (h : OwnU w B g n c l) (hb : Below w.heap.size w w') : OwnU w' B g n c l := own_keep h hb (own_lt h)
theorem OwnU.mono {w : World} {B C g n c : Nat} {l : List Tk3} (h : OwnU w B g n c l) (hC : C ≤ B) : OwnU w C g n c l := own_mono h hC
theorem OwnU.rd {w : World} {B g n c : Nat} {l : List Tk3} (h : OwnU w B g n c l) : RdY w (some ⟨g, 0, none⟩) l := h.own.rd
theorem OwnU.drew {w : World} {B g n c : Nat} {l : List Tk3} (h : OwnU w B g n c l) : OwnU w.drew B g n c l := h
theorem OwnU.same {w w' : World} {B g n c : Nat} {l : List Tk3} (h : OwnU w B g n c l) (hg : w'.heap[g]? = w.heap[g]?) : OwnU w' B g n c l := by
  refine ⟨h.1, ?_⟩
  rcases h.2 with h2 | ⟨g', cap, cur, e, h3, h4, h5⟩
  · exact .inl h2
  · cases e
    exact .inr ⟨_, _, _, rfl, h3, hg.trans h4, h5⟩
theorem OwnU.put {w w' : World} {B g n c k : Nat} {l : List Tk3} {o : Obj} (h : OwnU w B g n c l) (hp : PutM w w' k o) (hne : g ≠ k) : OwnU w' B g n c l := h.same (hp.2.1 g hne)
theorem ownU_empty (w : World) (B : Nat) (hB : B ≤ w.heap.size) : OwnU (w.alloc (.cells #[] 41)) B w.heap.size 0 0 [] :=
  ⟨rfl, Or.inr ⟨_, 0, #[], rfl, hB, by show (w.heap.push _)[w.heap.size]? = _; simp, Nat.le_refl _, by decide, rfl, rfl⟩⟩
theorem RdY.cells {w : World} {ad : Addr} {l : List Tk3} (h : RdY w (some ad) l) : ∀ j u, (tkV l)[j]? = some u → w.cell? (ad.add j) = some u := by
  intro j v hv
  have hj : j < l.length * 3 := by
    rcases Nat.lt_or_ge j (l.length * 3) with h' | h'
    · exact h'
    · rw [List.getElem?_eq_none (by rw [tkV_len]; exact h')] at hv; cases hv
  obtain ⟨g, off, ha, hc⟩ := h (by omega)
  cases ha
  obtain ⟨a0, a1, a2⟩ := tkV_at l (j / 3) (by omega)
  obtain ⟨b0, b1, b2⟩ := hc (j / 3) (by omega)
  rw [add_at]
  have e4 : j % 3 = 0 ∨ j % 3 = 1 ∨ j % 3 = 2 := by omega
  rcases e4 with e | e | e
  · rw [show j / 3 * 3 = j by omega, hv] at a0
    rw [show off + j / 3 * 3 = off + j by omega] at b0
    rw [b0]; exact a0.symm
  · rw [show j / 3 * 3 + 1 = j by omega, hv] at a1
    rw [show off + j / 3 * 3 + 1 = off + j by omega] at b1
    rw [b1]; exact a1.symm
  · rw [show j / 3 * 3 + 2 = j by omega, hv] at a2
    rw [show off + j / 3 * 3 + 2 = off + j by omega] at b2
    rw [b2]; exact a2.symm
/-- append onto a list of ticks that the call owns -/
theorem run_appY (W : World) (ty : TypeId) (B g n c : Nat) (l : List Tk3) (q : Option Addr) (m cx : Nat) (l' : List Tk3) (hown : OwnU W B g n c l) (hl : l'.length = m) (hq : q = none → m = 0 ∧ cx = 0) (hr : RdY W q l') (hn : n + m ≤ 3000000) (hB : B ≤ W.heap.size) :
    ∃ g' c' w', (Builtin.append_ #[33, 33] ty #[.slice (some ⟨g, 0, none⟩) n c, .slice q m cx]).run Tryz.prog W = .ok (.slice (some ⟨g', 0, none⟩) (n + m) c') w' ∧ OwnU w' B g' (n + m) c' (l ++ l') ∧ W.grownBy w' (some g) := by
  obtain ⟨i0, hi, hz0, hz1, hz2⟩ := info_parts infoY
  cases q with
  | none =>
    obtain ⟨rfl, rfl⟩ := hq rfl
    refine ⟨g, c, W, ?_, ?_, World.grownBy.refl _ _⟩
    · exact run_append_owned_none (P := Tryz.prog) (w := W) B 33 ty 41 i0 3 Tryz.underlying33 hi _ n _ hown
    · rw [List.length_eq_zero_iff.1 hl, List.append_nil]; exact hown
  | some ad =>
    obtain ⟨v', w', hrun, h2, h3, h4, h5⟩ := run_append_own_at (P := Tryz.prog) W B 33 ty 41 i0 (.agg #[.int .i64 0, .int .i64 0, .int .i64 0]) 3 24 Tryz.underlying33 hi hz0 hz1 hz2 rfl (by decide) _ n _ hown ad m cx (tkV l') (by rw [tkV_len, hl]) hr.cells (tkV_one l') (by unfold maxLen; omega) (by omega) hB
    rcases h2.2 with ⟨hv, _⟩ | ⟨g', cap, cur, rfl, _⟩
    · have := h4.1 hv; simp at this
    · refine ⟨g', cap, w', hrun, ?_, h3⟩
      unfold OwnU
      rw [tkV_append]
      exact h2
theorem wpY {o : Oper} {a : Act} {K : Act → World → Prop} {Q : Exit → Act → World → Prop} (W : World) (s x : Operand)
    (ho : o.op = .call { callee := .builtin .append, args := #[s, x], argTypes := #[33, 33] }) (B g n c : Nat) (l : List Tk3) (q : Option Addr) (m cx : Nat) (l' : List Tk3)
    (hs : a.eval s = .slice (some ⟨g, 0, none⟩) n c) (hx : a.eval x = .slice q m cx) (hown : OwnU W B g n c l) (hl : l'.length = m) (hq : q = none → m = 0 ∧ cx = 0) (hr : RdY W q l') (hn : n + m ≤ 3000000) (hB : B ≤ W.heap.size)
    (h : ∀ g' c' w', OwnU w' B g' (n + m) c' (l ++ l') → W.grownBy w' (some g) → K (a.put o.dst (.slice (some ⟨g', 0, none⟩) (n + m) c')) w') : o.wp Tryz.prog a W K Q := by
  obtain ⟨g', c', w', hrun, h2, h3⟩ := run_appY W o.type B g n c l q m cx l' hown hl hq hr hn hB
  unfold Oper.wp execOp
  simp only [ho, resolve, invoke, builtin, Sem.run_bind, Sem.run_pure, Result.andThen_ok, List.map_toArray, List.map_cons, List.map_nil, hs, hx, hrun]
  exact h g' c' w' h2 h3
/-- .. in a plain region -/
theorem listY {ops : Array Oper} {rest : List Oper} {o : Oper} {a : Act} {Q : Exit → Act → World → Prop} {W : World} (hgd : o.guard = none) (s x : Operand)
    (ho : o.op = .call { callee := .builtin .append, args := #[s, x], argTypes := #[33, 33] }) (B g n c : Nat) (l : List Tk3) (q : Option Addr) (m cx : Nat) (l' : List Tk3)
    (hs : a.eval s = .slice (some ⟨g, 0, none⟩) n c) (hx : a.eval x = .slice q m cx) (hown : OwnU W B g n c l) (hl : l'.length = m) (hq : q = none → m = 0 ∧ cx = 0) (hr : RdY W q l') (hn : n + m ≤ 3000000) (hB : B ≤ W.heap.size)
    (h : ∀ g' c' w', OwnU w' B g' (n + m) c' (l ++ l') → W.grownBy w' (some g) → wpList Tryz.prog ops Q rest (a.put o.dst (.slice (some ⟨g', 0, none⟩) (n + m) c')) w') : wpList Tryz.prog ops Q (o :: rest) a W :=
  wpList_plain hgd fun _ hK => wpY W s x ho B g n c l q m cx l' hs hx hown hl hq hr hn hB fun g' c' w' h2 h3 => hK _ _ (h g' c' w' h2 h3)
theorem one_rowY (w : World) (x y z : Int) : RowY (w.alloc (.cells #[.int .i64 x, .int .i64 y, .int .i64 z] 41)) w.heap.size [(x, y, z)] := heap_new w _
end Go.Proofs.YtdifmjcghaoilaaGreatDoor

namespace Go.Proofs.YtdifmjcghaoilaaGreatDoor
open Go.RowKit Go.PlainAid
set_option linter.unusedVariables false
set_option linter.unusedSimpArgs false

def OwnI3 (w : World) (B g n c : Nat) (l : List In3) : Prop := w.ownsRow B 45 3 (.slice (some ⟨g, 0, none⟩) n c) n (inV l)
theorem OwnI3.own {w : World} {B g n c : Nat} {l : List In3} (h : OwnI3 w B g n c l) : OwnZ w B (.slice (some ⟨g, 0, none⟩) n c) n l := h
theorem OwnI3.len {w : World} {B g n c : Nat} {l : List In3} (h : OwnI3 w B g n c l) : l.length = n := h.own.len
theorem OwnI3.ge {w : World} {B g n c : Nat} {l : List In3} (h : OwnI3 w B g n c l) : B ≤ g := own_ge h g rfl
theorem OwnI3.lt {w : World} {B g n c : Nat} {l : List In3} (h : OwnI3 w B g n c l) : g < w.heap.size := own_lt h g rfl
theorem OwnI3.on {w w' : World} {B g n c : Nat} {l : List In3} (h : OwnI3 w B g n c l) (hb : Below w.heap.size w w') : OwnI3 w' B g n c l := own_keep h hb (own_lt h)
theorem OwnI3.mono {w : World} {B C g n c : Nat} {l : List In3} (h : OwnI3 w B g n c l) (hC : C ≤ B) : OwnI3 w C g n c l := own_mono h hC
theorem OwnI3.rd {w : World} {B g n c : Nat} {l : List In3} (h : OwnI3 w B g n c l) : RdZ w (some ⟨g, 0, none⟩) l := h.own.rd
theorem OwnI3.drew {w : World} {B g n c : Nat} {l : List In3} (h : OwnI3 w B g n c l) : OwnI3 w.drew B g n c l := h
theorem OwnI3.same {w w' : World} {B g n c : Nat} {l : List In3} (h : OwnI3 w B g n c l) (hg : w'.heap[g]? = w.heap[g]?) : OwnI3 w' B g n c l := by
  refine ⟨h.1, ?_⟩
  rcases h.2 with h2 | ⟨g', cap, cur, e, h3, h4, h5⟩
  · exact .inl h2
  · cases e
    exact .inr ⟨_, _, _, rfl, h3, hg.trans h4, h5⟩
theorem OwnI3.put {w w' : World} {B g n c k : Nat} {l : List In3} {o : Obj} (h : OwnI3 w B g n c l) (hp : PutM w w' k o) (hne : g ≠ k) : OwnI3 w' B g n c l := h.same (hp.2.1 g hne)
theorem ownI3_empty (w : World) (B : Nat) (hB : B ≤ w.heap.size) : OwnI3 (w.alloc (.cells #[] 45)) B w.heap.size 0 0 [] :=
  ⟨rfl, Or.inr ⟨_, 0, #[], rfl, hB, by show (w.heap.push _)[w.heap.size]? = _; simp, Nat.le_refl _, by decide, rfl, rfl⟩⟩
theorem RdZ.cells {w : World} {ad : Addr} {l : List In3} (h : RdZ w (some ad) l) : ∀ j u, (inV l)[j]? = some u → w.cell? (ad.add j) = some u := by
  intro j v hv
  have hj : j < l.length * 3 := by
    rcases Nat.lt_or_ge j (l.length * 3) with h' | h'
    · exact h'
    · rw [List.getElem?_eq_none (by rw [inV_len]; exact h')] at hv; cases hv
  obtain ⟨g, off, ha, hc⟩ := h (by omega)
  cases ha
  obtain ⟨a0, a1, a2⟩ := inV_at l (j / 3) (by omega)
  obtain ⟨b0, b1, b2⟩ := hc (j / 3) (by omega)
  rw [add_at]
  have e4 : j % 3 = 0 ∨ j % 3 = 1 ∨ j % 3 = 2 := by omega
  rcases e4 with e | e | e
  · rw [show j / 3 * 3 = j by omega, hv] at a0
    rw [show off + j / 3 * 3 = off + j by omega] at b0
    rw [b0]; exact a0.symm
  · rw [show j / 3 * 3 + 1 = j by omega, hv] at a1
    rw [show off + j / 3 * 3 + 1 = off + j by omega] at b1
    rw [b1]; exact a1.symm
  · rw [show j / 3 * 3 + 2 = j by omega, hv] at a2
    rw [show off + j / 3 * 3 + 2 = off + j by omega] at b2
    rw [b2]; exact a2.symm
/-- append onto a list of ticks that the call owns -/
theorem run_appZ (W : World) (ty : TypeId) (B g n c : Nat) (l : List In3) (q : Option Addr) (m cx : Nat) (l' : List In3) (hown : OwnI3 W B g n c l) (hl : l'.length = m) (hq : q = none → m = 0 ∧ cx = 0) (hr : RdZ W q l') (hn : n + m ≤ 3000000) (hB : B ≤ W.heap.size) :
    ∃ g' c' w', (Builtin.append_ #[38, 38] ty #[.slice (some ⟨g, 0, none⟩) n c, .slice q m cx]).run Tryz.prog W = .ok (.slice (some ⟨g', 0, none⟩) (n + m) c') w' ∧ OwnI3 w' B g' (n + m) c' (l ++ l') ∧ W.grownBy w' (some g) := by
  obtain ⟨i0, hi, hz0, hz1, hz2⟩ := info_parts infoZ
  cases q with
  | none =>
    obtain ⟨rfl, rfl⟩ := hq rfl
    refine ⟨g, c, W, ?_, ?_, World.grownBy.refl _ _⟩
    · exact run_append_owned_none (P := Tryz.prog) (w := W) B 38 ty 45 i0 3 Tryz.underlying38 hi _ n _ hown
    · rw [List.length_eq_zero_iff.1 hl, List.append_nil]; exact hown
  | some ad =>
    obtain ⟨v', w', hrun, h2, h3, h4, h5⟩ := run_append_own_at (P := Tryz.prog) W B 38 ty 45 i0 (.agg #[.int .i64 0, .string ⟨#[]⟩, .string ⟨#[]⟩]) 3 40 Tryz.underlying38 hi hz0 hz1 hz2 rfl (by decide) _ n _ hown ad m cx (inV l') (by rw [inV_len, hl]) hr.cells (inV_one l') (by unfold maxLen; omega) (by omega) hB
    rcases h2.2 with ⟨hv, _⟩ | ⟨g', cap, cur, rfl, _⟩
    · have := h4.1 hv; simp at this
    · refine ⟨g', cap, w', hrun, ?_, h3⟩
      unfold OwnI3
      rw [inV_append]
      exact h2
theorem wpZ {o : Oper} {a : Act} {K : Act → World → Prop} {Q : Exit → Act → World → Prop} (W : World) (s x : Operand)
    (ho : o.op = .call { callee := .builtin .append, args := #[s, x], argTypes := #[38, 38] }) (B g n c : Nat) (l : List In3) (q : Option Addr) (m cx : Nat) (l' : List In3)
    (hs : a.eval s = .slice (some ⟨g, 0, none⟩) n c) (hx : a.eval x = .slice q m cx) (hown : OwnI3 W B g n c l) (hl : l'.length = m) (hq : q = none → m = 0 ∧ cx = 0) (hr : RdZ W q l') (hn : n + m ≤ 3000000) (hB : B ≤ W.heap.size)
    (h : ∀ g' c' w', OwnI3 w' B g' (n + m) c' (l ++ l') → W.grownBy w' (some g) → K (a.put o.dst (.slice (some ⟨g', 0, none⟩) (n + m) c')) w') : o.wp Tryz.prog a W K Q := by
  obtain ⟨g', c', w', hrun, h2, h3⟩ := run_appZ W o.type B g n c l q m cx l' hown hl hq hr hn hB
  unfold Oper.wp execOp
  simp only [ho, resolve, invoke, builtin, Sem.run_bind, Sem.run_pure, Result.andThen_ok, List.map_toArray, List.map_cons, List.map_nil, hs, hx, hrun]
  exact h g' c' w' h2 h3
/-- .. in a plain region -/
theorem listZ {ops : Array Oper} {rest : List Oper} {o : Oper} {a : Act} {Q : Exit → Act → World → Prop} {W : World} (hgd : o.guard = none) (s x : Operand)
    (ho : o.op = .call { callee := .builtin .append, args := #[s, x], argTypes := #[38, 38] }) (B g n c : Nat) (l : List In3) (q : Option Addr) (m cx : Nat) (l' : List In3)
    (hs : a.eval s = .slice (some ⟨g, 0, none⟩) n c) (hx : a.eval x = .slice q m cx) (hown : OwnI3 W B g n c l) (hl : l'.length = m) (hq : q = none → m = 0 ∧ cx = 0) (hr : RdZ W q l') (hn : n + m ≤ 3000000) (hB : B ≤ W.heap.size)
    (h : ∀ g' c' w', OwnI3 w' B g' (n + m) c' (l ++ l') → W.grownBy w' (some g) → wpList Tryz.prog ops Q rest (a.put o.dst (.slice (some ⟨g', 0, none⟩) (n + m) c')) w') : wpList Tryz.prog ops Q (o :: rest) a W :=
  wpList_plain hgd fun _ hK => wpZ W s x ho B g n c l q m cx l' hs hx hown hl hq hr hn hB fun g' c' w' h2 h3 => hK _ _ (h g' c' w' h2 h3)
theorem RowZ.ownI3 {w : World} {g B : Nat} {l : List In3} (h : RowZ w g l) (hB : B ≤ g) (hl : l.length ≤ maxLen) : OwnI3 w B g l.length l.length l :=
  ⟨inV_len l, Or.inr ⟨g, l.length, (inV l).toArray, rfl, hB, h, Nat.le_refl _, hl, by simp [inV_len], by simp; exact List.take_of_length_le (by rw [inV_len]; exact Nat.le_refl _)⟩⟩
theorem one_rowZ (w : World) (x : Int) (y z : ByteArray) : RowZ (w.alloc (.cells #[.int .i64 x, .string y, .string z] 45)) w.heap.size [(x, y, z)] := heap_new w _
end Go.Proofs.YtdifmjcghaoilaaGreatDoor
