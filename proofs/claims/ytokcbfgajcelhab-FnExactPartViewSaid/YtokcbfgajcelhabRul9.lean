/-
  Rules: lists of them in memory, which are right; RulesOk of the specification.
-/
import Derived.Test.YtokcbfgajcelhabDrawW9
namespace Go.Proofs.Ytokcbfgajcelhab
open Go.RowKit Go.PlainAid
set_option linter.unusedVariables false

abbrev Rule := Int × Int × Int
def rulV : List Rule → List Value
  | [] => []
  | r :: t => .int .i64 r.1 :: .int .i64 r.2.1 :: .int .i64 r.2.2 :: rulV t
theorem rulV_len : ∀ l : List Rule, (rulV l).length = l.length * 3
  | [] => rfl
  | r :: t => by simp [rulV, rulV_len t]; omega
theorem rulV_append : ∀ x y : List Rule, rulV (x ++ y) = rulV x ++ rulV y
  | [], y => rfl
  | r :: t, y => by simp [rulV, rulV_append t y]
theorem rulV_at : ∀ (l : List Rule) (j : Nat) (h : j < l.length), (rulV l)[j * 3]? = some (.int .i64 l[j].1) ∧ (rulV l)[j * 3 + 1]? = some (.int .i64 l[j].2.1) ∧ (rulV l)[j * 3 + 2]? = some (.int .i64 l[j].2.2)
  | [], j, h => by simp at h
  | r :: t, 0, h => by simp [rulV]
  | r :: t, j + 1, h => by
    have := rulV_at t j (by simpa using h)
    rw [show (j + 1) * 3 = j * 3 + 1 + 1 + 1 by omega, show j * 3 + 1 + 1 + 1 + 1 = j * 3 + 1 + 1 + 1 + 1 from rfl, show j * 3 + 1 + 1 + 1 + 2 = j * 3 + 2 + 1 + 1 + 1 by omega]
    simpa [rulV] using this
theorem rulV_one : ∀ l : List Rule, ∀ v ∈ rulV l, v.oneCell' = true
  | [], v, h => by cases h
  | r :: t, v, h => by
    rcases List.mem_cons.1 h with rfl | h
    · rfl
    · rcases List.mem_cons.1 h with rfl | h
      · rfl
      · rcases List.mem_cons.1 h with rfl | h
        · rfl
        · exact rulV_one t v h
theorem infoU : (Try.prog.info? 152).map (fun i => (i.zero, i.size, i.bytes)) = some (some (.agg #[.int .i64 0, .int .i64 0, .int .i64 0]), 3, 24) := by kernel_rfl
theorem row3_cells {w : World} {k : Nat} {t : TypeId} {x y z : Value} (h : w.heap[k]? = some (.cells #[x, y, z] t)) :
    (w.cell? ⟨k, 0, none⟩ = some x ∧ w.cell? ⟨k, 1, none⟩ = some y ∧ w.cell? ⟨k, 2, none⟩ = some z) ∧ w.frozen? ⟨k, 0, none⟩ = false ∧ w.frozen? ⟨k, 1, none⟩ = false ∧ w.frozen? ⟨k, 2, none⟩ = false := by
  refine ⟨⟨?_, ?_, ?_⟩, ?_, ?_, ?_⟩ <;> simp [World.cell?, World.frozen?, h]
/-- a list of rules that is read, wherever it lies -/
def RdU (w : World) (a : Option Addr) (l : List Rule) : Prop := 0 < l.length → ∃ g off, a = some ⟨g, off, none⟩ ∧ ∀ j (h : j < l.length), w.cell? ⟨g, off + j * 3, none⟩ = some (.int .i64 l[j].1) ∧ w.cell? ⟨g, off + j * 3 + 1, none⟩ = some (.int .i64 l[j].2.1) ∧ w.cell? ⟨g, off + j * 3 + 2, none⟩ = some (.int .i64 l[j].2.2)
theorem RdU.keep {w w' : World} {a : Option Addr} {l : List Rule} {B : Nat} (h : RdU w a l) (hb : Below B w w') (hB : w.heap.size ≤ B) : RdU w' a l := fun h0 => by
  obtain ⟨g, off, ha, hc⟩ := h h0
  refine ⟨g, off, ha, fun j hj => ?_⟩
  obtain ⟨h1, h2, h3⟩ := hc j hj
  have hlt := Nat.lt_of_lt_of_le (World.block_lt_of_cell? w ⟨g, off + j * 3, none⟩ h1) hB
  exact ⟨(hb.cell (p := ⟨g, off + j * 3, none⟩) hlt).trans h1, (hb.cell (p := ⟨g, off + j * 3 + 1, none⟩) hlt).trans h2, (hb.cell (p := ⟨g, off + j * 3 + 2, none⟩) hlt).trans h3⟩
theorem RdU.on {w w' : World} {a : Option Addr} {l : List Rule} (h : RdU w a l) (hb : Below w.heap.size w w') : RdU w' a l := h.keep hb (Nat.le_refl _)
/-- an owned list of rules -/
def OwnU (w : World) (B : Nat) (v : Value) (n : Nat) (l : List Rule) : Prop := w.ownsRow B 152 3 v n (rulV l)
theorem OwnU.len {w : World} {B n : Nat} {v : Value} {l : List Rule} (h : OwnU w B v n l) : l.length = n := by
  have := h.1; rw [rulV_len] at this; omega
theorem OwnU.rd {w : World} {B n c : Nat} {a : Option Addr} {l : List Rule} (h : OwnU w B (.slice a n c) n l) : RdU w a l := fun h0 => by
  have hl := h.len
  rcases h.2 with ⟨hv, e⟩ | ⟨g, cap, cur, hv, _⟩
  · omega
  · cases hv
    refine ⟨g, 0, rfl, fun j hj => ?_⟩
    obtain ⟨h1, h2, h3⟩ := rulV_at l j hj
    refine ⟨?_, ?_, ?_⟩
    · rw [Nat.zero_add, h.cellAt (j * 3) (by omega)]; exact h1
    · rw [Nat.zero_add, h.cellAt (j * 3 + 1) (by omega)]; exact h2
    · rw [Nat.zero_add, h.cellAt (j * 3 + 2) (by omega)]; exact h3
theorem OwnU.news {w : World} {B n c g : Nat} {l : List Rule} (h : OwnU w B (.slice (some ⟨g, 0, none⟩) n c) n l) : ∀ j u, (rulV l)[j]? = some u → w.cell? ((⟨g, 0, none⟩ : Addr).add j) = some u := by
  intro j u hj
  have hl := h.len
  have hlt : j < (rulV l).length := by
    rcases Nat.lt_or_ge j (rulV l).length with h' | h'
    · exact h'
    · rw [List.getElem?_eq_none h'] at hj; cases hj
  rw [rulV_len] at hlt
  rw [add_at, Nat.zero_add, h.cellAt j (by omega)]
  exact hj
theorem ownU_empty (w : World) (B e : Nat) (he : e = w.heap.size) (hB : B ≤ w.heap.size) : OwnU (w.alloc (.cells #[] 152)) B (.slice (some ⟨e, 0, none⟩) 0 0) 0 [] := by
  subst he
  exact ⟨rfl, Or.inr ⟨_, 0, #[], rfl, hB, by show (w.heap.push _)[w.heap.size]? = _; simp, Nat.le_refl _, by decide, rfl, rfl⟩⟩

/-- a rule that is right -/
def ruleR (r : Rule) : Prop := (1 ≤ r.1 ∧ r.1 ≤ 4) ∧ (1 ≤ r.2.1 ∧ r.2.1 ≤ 2) ∧ (0 ≤ r.2.2 ∧ r.2.2 ≤ 4) ∧ ¬ (r.2.1 = 1 ∧ r.2.2 = 0)
/-- the first j rules are right, none is told twice -/
def UptoU (l : List Rule) (j : Nat) : Prop := ∀ i (h : i < l.length), i < j → ruleR l[i] ∧ ∀ k (hk : k < i), ¬ ((l[k]'(by omega)).1 = l[i].1 ∧ (l[k]'(by omega)).2.1 = l[i].2.1)
/-- right rules -/
def RulesR (l : List Rule) : Prop := UptoU l l.length ∧ l.length ≤ 8
theorem rules_bool (l : List Rule) : ∃ b : Bool, b = true ↔ RulesR l := by
  by_cases h : RulesR l
  · exact ⟨true, ⟨fun _ => h, fun _ => rfl⟩⟩
  · exact ⟨false, ⟨fun h => (by cases h), fun h' => absurd h' h⟩⟩
theorem uptoU_zero (l : List Rule) : UptoU l 0 := fun i _ h => by omega
theorem uptoU_succ {l : List Rule} {j : Nat} (h : UptoU l j) (hj : j < l.length) (hr : ruleR l[j]) (hd : ∀ k (hk : k < j), ¬ ((l[k]'(by omega)).1 = l[j].1 ∧ (l[k]'(by omega)).2.1 = l[j].2.1)) : UptoU l (j + 1) := fun i hi hlt => by
  rcases Nat.lt_or_ge i j with h' | h'
  · exact h i hi h'
  · obtain rfl : i = j := by omega
    exact ⟨hr, hd⟩
theorem rules_no {l : List Rule} {b : Bool} (hb : b = true ↔ RulesR l) (h : ¬ RulesR l) : b = false := by
  cases b
  · rfl
  · exact absurd (hb.1 rfl) h
theorem rules_not {l : List Rule} {b : Bool} (hb : b = true ↔ RulesR l) (j : Nat) (hj : j < l.length) (h : ¬ ruleR l[j]) : b = false := rules_no hb (fun hp => h (hp.1 j hj hj).1)
theorem rules_dup {l : List Rule} {b : Bool} (hb : b = true ↔ RulesR l) (j k : Nat) (hj : j < l.length) (hk : k < j) (h : (l[k]'(by omega)).1 = l[j].1 ∧ (l[k]'(by omega)).2.1 = l[j].2.1) : b = false := rules_no hb (fun hp => (hp.1 j hj hj).2 k hk h)

theorem bel_drewN {w W : World} {B : Nat} (h : Below B w W) (n : Nat) : Below B w (W.drewN n) := ⟨h.os, h.tape, h.output, h.size, h.block⟩

end Go.Proofs.Ytokcbfgajcelhab
