/-
  Drawn orders, right or not, and texts of orders, spoilt or not: the contracts of the specification's draws.
-/
import Derived.Test.YtdifmjcghaoilaaGreatDoorGaCN
import Derived.Test.YtdifmjcghaoilaaGreatDoorGaCO
import Derived.Test.YtdifmjcghaoilaaGreatDoorGaBS
namespace Go.Proofs.YtdifmjcghaoilaaGreatDoor.I
open Go.RowKit Go.PlainAid
set_option linter.unusedVariables false
set_option linter.unusedSimpArgs false

theorem DOr.al {w W : World} {C B : Nat} {a : Option Addr} {len cap k : Nat} {x y z u : Int} (h : DOr w W C B a len cap k x y z u) (o : Obj) : DOr w (W.alloc o) C B a len cap k x y z u := by
  obtain ⟨h1, h2, h3, h4, h5, h6⟩ := h
  have hs := h1.2.2.size
  exact ⟨drawn_alloc h1 (by omega) _, (Below.heap_alloc _ _ _ (row_lt h2)).trans h2, (Below.heap_alloc _ _ _ (row_lt h3)).trans h3, h4, h5, h6⟩
theorem drawn_bel {w W W' : World} {C B : Nat} {a : Option Addr} {len cap : Nat} (h : Drawn w W C B a len cap) (hB : B ≤ W.heap.size) (hb : Below W.heap.size W W') : Drawn w W' C B a len cap := by
  obtain ⟨⟨i, x, hi, hc⟩, h2, h3⟩ := h
  refine ⟨⟨i, x, hi, row_on hc hb⟩, code_below h2 (hb.mono hB), ?_⟩
  exact ⟨hb.os.trans h3.os, hb.tape.trans h3.tape, hb.output.trans h3.output, Nat.le_trans h3.size hb.size, fun k hk hne => (hb.block k (Nat.lt_of_lt_of_le hk h3.size)).trans (h3.block k hk hne)⟩
theorem laid_ints (w : World) (l : List Int) (j : Nat) (hj : j < l.length) : (w.alloc (.cells (l.map (Value.int .i64)).toArray 3)).cell? ⟨w.heap.size, j, none⟩ = some (.int .i64 l[j]) := by
  unfold World.cell? World.alloc
  simp [hj]
theorem text_any (k n d v : Int) (w : World) : Calls Tryz.prog 58 #[ordV k n d v] w fun e w' => ∃ (t : ByteArray) (b : Bool), e = .returned (.tuple #[.string t, .bool b]) ∧ t.size ≤ 20 ∧ Below w.heap.size w w' := by
  by_cases hR : OrdR k n d v
  · refine (textS k n d v hR w).mono ?_
    rintro e w' ⟨rfl, hb⟩
    have h := ordB_small hR
    exact ⟨_, _, rfl, by unfold ordT; rw [ByteArray.size_append, Q.sigil_size]; omega, hb⟩
  · refine (textNo k n d v hR w).mono ?_
    rintro e w' ⟨rfl, hb⟩
    exact ⟨_, _, rfl, by decide, hb⟩
theorem uns_any (t : ByteArray) (ht : t.size ≤ 100) (w : World) : Calls Tryz.prog 56 #[.string t] w fun e w' => ∃ (s : ByteArray) (b : Bool), e = .returned (.tuple #[.string s, .bool b]) ∧ s.size ≤ 100 ∧ Below w.heap.size w w' := by
  refine (Q.sun4 t (by omega) w).mono ?_
  rintro e w' ⟨rfl, hb⟩
  rcases h : Q.unsealed t with _ | s
  · exact ⟨_, _, rfl, by decide, hb⟩
  · refine ⟨_, _, rfl, ?_, hb⟩
    have e := (uns_some h).1
    rw [e, ByteArray.size_append] at ht
    omega
end Go.Proofs.YtdifmjcghaoilaaGreatDoor.I
