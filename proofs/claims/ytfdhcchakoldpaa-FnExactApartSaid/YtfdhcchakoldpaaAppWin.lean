/-
  Appending to lists of windows.
-/
import Derived.Test.YtfdhcchakoldpaaLineW
import Derived.Maps.AppendAt
import Derived.ArgAppend
namespace Go.Proofs.Ytfdhcchakoldpaa
open Go.RowKit Go.PlainAid
set_option linter.unusedVariables false

theorem hid {p : Prop} (h : p) : Hid p := h
/-- an owned list of windows that begins its block -/
def OwnG (w : World) (B g n c : Nat) (l : List (Int × Int)) : Prop := w.ownsRow B 43 2 (.slice (some ⟨g, 0, none⟩) n c) n (regsV l)
theorem OwnG.len {w : World} {B g n c : Nat} {l : List (Int × Int)} (h : OwnG w B g n c l) : l.length = n := by
  have := h.1; rw [regsV_len] at this; omega
theorem OwnG.ge {w : World} {B g n c : Nat} {l : List (Int × Int)} (h : OwnG w B g n c l) : B ≤ g := own_ge h g rfl
theorem OwnG.lt {w : World} {B g n c : Nat} {l : List (Int × Int)} (h : OwnG w B g n c l) : g < w.heap.size := own_lt h g rfl
theorem OwnG.on {w w' : World} {B g n c : Nat} {l : List (Int × Int)} (h : OwnG w B g n c l) (hb : Below w.heap.size w w') : OwnG w' B g n c l := own_keep h hb (own_lt h)
theorem OwnG.mono {w : World} {B C g n c : Nat} {l : List (Int × Int)} (h : OwnG w B g n c l) (hC : C ≤ B) : OwnG w C g n c l := own_mono h hC
theorem OwnG.own {w : World} {B g n c : Nat} {l : List (Int × Int)} (h : OwnG w B g n c l) : OwnM w B (some ⟨g, 0, none⟩) l := by
  have hl := h.len
  have h' : OwnW w B (.slice (some ⟨g, 0, none⟩) n c) l := by unfold OwnW; rw [hl]; exact h
  obtain ⟨a, cap, hv, ho⟩ := h'.own
  cases hv
  exact ho
theorem OwnG.rd {w : World} {B g n c : Nat} {l : List (Int × Int)} (h : OwnG w B g n c l) : RdR w (some ⟨g, 0, none⟩) l := h.own.rd
theorem OwnG.block {w : World} {B g n c : Nat} {l : List (Int × Int)} (h : OwnG w B g n c l) : ∃ cur, w.heap[g]? = some (.cells cur 43 (0, 0)) := by
  rcases h.2 with ⟨hv, _⟩ | ⟨g', cap, cur, hv, h1, h2, _⟩
  · cases hv
  · cases hv; exact ⟨cur, h2⟩
theorem OwnG.put {w : World} {B g n c k i : Nat} {l : List (Int × Int)} {cs : Array Value} {t : TypeId} {x : Value} (h : OwnG w B g n c l) (hk : w.heap[k]? = some (.cells cs t)) (ht : t ≠ 43) : OwnG (w.setCell ⟨k, i, none⟩ x) B g n c l := by
  obtain ⟨cur, hc⟩ := h.block
  have hne : g ≠ k := row_ne hc hk (fun e => by cases e; exact ht rfl)
  refine ⟨h.1, ?_⟩
  rcases h.2 with h2 | ⟨g', cap, cur', hv, hg, hh, h3⟩
  · exact .inl h2
  · cases hv
    exact .inr ⟨g, _, cur', rfl, hg, set_other hh hne, h3⟩
theorem RowR.ownG {w : World} {g B n : Nat} {l : List (Int × Int)} (h : RowR w g l) (hB : B ≤ g) (hl : l.length = n) (hn : n ≤ 1048576) : OwnG w B g n n l :=
  ⟨by rw [regsV_len, hl], .inr ⟨g, n, _, rfl, hB, h, Nat.le_refl _, by unfold maxLen; omega, by simp [regsV_len, hl], by simp; exact List.take_of_length_le (by rw [regsV_len, hl]; omega)⟩⟩
theorem ownG_empty (w : World) (B : Nat) (hB : B ≤ w.heap.size) : OwnG (w.alloc (.cells #[] 43)) B w.heap.size 0 0 [] := own_emptyR w B hB

theorem RdR.cells {w : World} {ad : Addr} {l : List (Int × Int)} (h : RdR w (some ad) l) : ∀ j u, (regsV l)[j]? = some u → w.cell? (ad.add j) = some u := by
  intro j v hv
  have hj : j < l.length * 2 := by
    rcases Nat.lt_or_ge j (l.length * 2) with h' | h'
    · exact h'
    · rw [List.getElem?_eq_none (by rw [regsV_len]; exact h')] at hv; cases hv
  obtain ⟨g, off, ha, hc⟩ := h (by omega)
  cases ha
  have ha := regsV_at l (j / 2) (by omega)
  have hb := hc (j / 2) (by omega)
  rw [add_at]
  rcases Nat.mod_two_eq_zero_or_one j with e | e
  · rw [show j / 2 * 2 = j by omega] at ha hb
    rw [hv] at ha
    rw [hb.1]; exact ha.1.symm
  · have e2 : j / 2 * 2 + 1 = j := by omega
    rw [e2, hv] at ha
    have := hb.2
    rw [show off + j / 2 * 2 + 1 = off + j by omega] at this
    rw [this]; exact ha.2.symm

/-- append onto a list of windows that the call owns -/
theorem run_appM (W : World) (ty : TypeId) (B g n c : Nat) (l : List (Int × Int)) (q : Option Addr) (m cx : Nat) (l' : List (Int × Int)) (hown : OwnG W B g n c l) (hl : l'.length = m) (hq : q = none → m = 0 ∧ cx = 0) (hr : RdR W q l') (hn : n + m ≤ 3000000) (hB : B ≤ W.heap.size) :
    ∃ g' c' w', (Builtin.append_ #[25, 25] ty #[.slice (some ⟨g, 0, none⟩) n c, .slice q m cx]).run Try.prog W = .ok (.slice (some ⟨g', 0, none⟩) (n + m) c') w' ∧ OwnG w' B g' (n + m) c' (l ++ l') ∧ W.grownBy w' (some g) := by
  obtain ⟨i0, hi, hz0, hz1, hz2⟩ := info_parts infoR
  cases q with
  | none =>
    obtain ⟨rfl, rfl⟩ := hq rfl
    refine ⟨g, c, W, ?_, ?_, World.grownBy.refl _ _⟩
    · exact run_append_owned_none (P := Try.prog) (w := W) B 25 ty 43 i0 2 Try.underlying25 hi _ n _ hown
    · rw [List.length_eq_zero_iff.1 hl, List.append_nil]; exact hown
  | some ad =>
    obtain ⟨v', w', hrun, h2, h3, h4, h5⟩ := run_append_own_at (P := Try.prog) W B 25 ty 43 i0 (.agg #[.int .i64 0, .int .i64 0]) 2 16 Try.underlying25 hi hz0 hz1 hz2 rfl (by decide) _ n _ hown ad m cx (regsV l') (by rw [regsV_len, hl]) hr.cells (regsV_one l') (by unfold maxLen; omega) (by omega) hB
    rcases h2.2 with ⟨hv, _⟩ | ⟨g', cap, cur, rfl, _⟩
    · have := h4.1 hv; simp at this
    · refine ⟨g', cap, w', hrun, ?_, h3⟩
      unfold OwnG
      rw [regsV_append]
      exact h2
/-- append onto a list that has no room: the old one stays -/
theorem run_appG (W : World) (ty : TypeId) (n c : Nat) (l : List (Int × Int)) (b ad : Addr) (m cx : Nat) (l' : List (Int × Int)) (hl0 : l.length = n) (hr0 : RdR W (some b) l) (hl : l'.length = m) (hr : RdR W (some ad) l') (hc : c < n + m) (hn : n + m ≤ 3000000) :
    ∃ g' c' w', (Builtin.append_ #[25, 25] ty #[.slice (some b) n c, .slice (some ad) m cx]).run Try.prog W = .ok (.slice (some ⟨g', 0, none⟩) (n + m) c') w' ∧ OwnG w' W.heap.size g' (n + m) c' (l ++ l') ∧ Below W.heap.size W w' := by
  obtain ⟨i0, hi, hz0, hz1, hz2⟩ := info_parts infoR
  obtain ⟨v', w', hrun, h2, h3⟩ := run_append_arg_grows (P := Try.prog) W 25 ty 43 i0 (.agg #[.int .i64 0, .int .i64 0]) 2 16 Try.underlying25 hi hz0 hz1 hz2 rfl (by decide) b n c (regsV l) (by rw [regsV_len, hl0]) hr0.cells ad m cx (regsV l') (by rw [regsV_len, hl]) hr.cells hc (by unfold maxLen; omega) (by omega)
  rcases h2.2 with ⟨hv, hn0⟩ | ⟨g', cap, cur, rfl, _⟩
  · omega
  · refine ⟨g', cap, w', hrun, ?_, ?_⟩
    · unfold OwnG
      rw [regsV_append]
      exact h2
    · exact (Below.refl _ _).grown h3 (Nat.le_refl _) (fun k h => by cases h)

theorem wpM {o : Oper} {a : Act} {K : Act → World → Prop} {Q : Exit → Act → World → Prop} (W : World) (s x : Operand)
    (ho : o.op = .call { callee := .builtin .append, args := #[s, x], argTypes := #[25, 25] }) (B g n c : Nat) (l : List (Int × Int)) (q : Option Addr) (m cx : Nat) (l' : List (Int × Int))
    (hs : a.eval s = .slice (some ⟨g, 0, none⟩) n c) (hx : a.eval x = .slice q m cx) (hown : OwnG W B g n c l) (hl : l'.length = m) (hq : q = none → m = 0 ∧ cx = 0) (hr : RdR W q l') (hn : n + m ≤ 3000000) (hB : B ≤ W.heap.size)
    (h : ∀ g' c' w', OwnG w' B g' (n + m) c' (l ++ l') → W.grownBy w' (some g) → K (a.put o.dst (.slice (some ⟨g', 0, none⟩) (n + m) c')) w') : o.wp Try.prog a W K Q := by
  obtain ⟨g', c', w', hrun, h2, h3⟩ := run_appM W o.type B g n c l q m cx l' hown hl hq hr hn hB
  unfold Oper.wp execOp
  simp only [ho, resolve, invoke, builtin, Sem.run_bind, Sem.run_pure, Result.andThen_ok, List.map_toArray, List.map_cons, List.map_nil, hs, hx, hrun]
  exact h g' c' w' h2 h3
/-- .. in a plain region -/
theorem listM {ops : Array Oper} {rest : List Oper} {o : Oper} {a : Act} {Q : Exit → Act → World → Prop} {W : World} (hgd : o.guard = none) (s x : Operand)
    (ho : o.op = .call { callee := .builtin .append, args := #[s, x], argTypes := #[25, 25] }) (B g n c : Nat) (l : List (Int × Int)) (q : Option Addr) (m cx : Nat) (l' : List (Int × Int))
    (hs : a.eval s = .slice (some ⟨g, 0, none⟩) n c) (hx : a.eval x = .slice q m cx) (hown : OwnG W B g n c l) (hl : l'.length = m) (hq : q = none → m = 0 ∧ cx = 0) (hr : RdR W q l') (hn : n + m ≤ 3000000) (hB : B ≤ W.heap.size)
    (h : ∀ g' c' w', OwnG w' B g' (n + m) c' (l ++ l') → W.grownBy w' (some g) → wpList Try.prog ops Q rest (a.put o.dst (.slice (some ⟨g', 0, none⟩) (n + m) c')) w') : wpList Try.prog ops Q (o :: rest) a W :=
  wpList_plain hgd fun _ hK => wpM W s x ho B g n c l q m cx l' hs hx hown hl hq hr hn hB fun g' c' w' h2 h3 => hK _ _ (h g' c' w' h2 h3)
theorem wpG {o : Oper} {a : Act} {K : Act → World → Prop} {Q : Exit → Act → World → Prop} (W : World) (s x : Operand)
    (ho : o.op = .call { callee := .builtin .append, args := #[s, x], argTypes := #[25, 25] }) (n c : Nat) (l : List (Int × Int)) (b ad : Addr) (m cx : Nat) (l' : List (Int × Int))
    (hs : a.eval s = .slice (some b) n c) (hx : a.eval x = .slice (some ad) m cx) (hl0 : l.length = n) (hr0 : RdR W (some b) l) (hl : l'.length = m) (hr : RdR W (some ad) l') (hc : c < n + m) (hn : n + m ≤ 3000000)
    (h : ∀ g' c' w', OwnG w' W.heap.size g' (n + m) c' (l ++ l') → Below W.heap.size W w' → K (a.put o.dst (.slice (some ⟨g', 0, none⟩) (n + m) c')) w') : o.wp Try.prog a W K Q := by
  obtain ⟨g', c', w', hrun, h2, h3⟩ := run_appG W o.type n c l b ad m cx l' hl0 hr0 hl hr hc hn
  unfold Oper.wp execOp
  simp only [ho, resolve, invoke, builtin, Sem.run_bind, Sem.run_pure, Result.andThen_ok, List.map_toArray, List.map_cons, List.map_nil, hs, hx, hrun]
  exact h g' c' w' h2 h3
theorem listG {ops : Array Oper} {rest : List Oper} {o : Oper} {a : Act} {Q : Exit → Act → World → Prop} {W : World} (hgd : o.guard = none) (s x : Operand)
    (ho : o.op = .call { callee := .builtin .append, args := #[s, x], argTypes := #[25, 25] }) (n c : Nat) (l : List (Int × Int)) (b ad : Addr) (m cx : Nat) (l' : List (Int × Int))
    (hs : a.eval s = .slice (some b) n c) (hx : a.eval x = .slice (some ad) m cx) (hl0 : l.length = n) (hr0 : RdR W (some b) l) (hl : l'.length = m) (hr : RdR W (some ad) l') (hc : c < n + m) (hn : n + m ≤ 3000000)
    (h : ∀ g' c' w', OwnG w' W.heap.size g' (n + m) c' (l ++ l') → Below W.heap.size W w' → wpList Try.prog ops Q rest (a.put o.dst (.slice (some ⟨g', 0, none⟩) (n + m) c')) w') : wpList Try.prog ops Q (o :: rest) a W :=
  wpList_plain hgd fun _ hK => wpG W s x ho n c l b ad m cx l' hs hx hl0 hr0 hl hr hc hn fun g' c' w' h2 h3 => hK _ _ (h g' c' w' h2 h3)
/-- one message in a block of its own -/
theorem one_row (w : World) (x y : Int) : RowR (w.alloc (.cells #[.int .i64 x, .int .i64 y] 43)) w.heap.size [(x, y)] := heap_new w _
end Go.Proofs.Ytfdhcchakoldpaa
