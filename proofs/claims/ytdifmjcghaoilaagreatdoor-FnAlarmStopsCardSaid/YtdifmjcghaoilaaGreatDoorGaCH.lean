/-
  A list of ticks copied by the program.
-/
import Derived.Test.YtdifmjcghaoilaaGreatDoorGaBZ
import Derived.Laws.CopyRow
import Derived.Laws.IdiomCopy
import Derived.Test.YtdifmjcghaoilaaGreatDoorGaBN
namespace Go.Proofs.YtdifmjcghaoilaaGreatDoor
open Go.RowKit Go.PlainAid
set_option linter.unusedVariables false
set_option linter.unusedSimpArgs false

theorem run_copy_rowY (w : World) (Kn : Nat) (dT sT ty elem : TypeId) (g o n dCap : Nat) (a : Addr) (sCap : Nat) (cur : Array Value) (t : TypeId) (cs : List Value)
    (hu : Tryz.prog.underlying dT = some (.slice elem)) (hs : (Tryz.prog.info? elem).map (·.size) = some Kn)
    (hg : w.heap[g]? = some (.cells cur t (0, 0))) (hn : cs.length = n * Kn)
    (hsrc : ∀ j v, cs[j]? = some v → w.cell? (a.add j) = some v) (hfit : o + cs.length ≤ cur.size) (h1 : ∀ v ∈ cs, v.oneCell' = true) :
    (Builtin.copy_ #[dT, sT] ty #[.slice (some ⟨g, o, none⟩) n dCap, .slice (some a) n sCap]).run Tryz.prog w =
      .ok (goInt n) (w.setRow g (cur.toList.take o ++ cs ++ cur.toList.drop (o + cs.length)).toArray) := by
  have hl := run_loadCells_list (P := Tryz.prog) w a cs hsrc
  have hst := run_storeCells_at Tryz.prog g o t cs 0 cur w hg (by simpa using hfit) h1
  cases hq : Tryz.prog.info? elem with
  | none => simp [hq] at hs
  | some i =>
    have hi : i.size = Kn := by simpa [hq] using hs
    rw [hn] at hl hst
    rw [hn]
    simp [Builtin.copy_, run_underlying hu, Builtin.lenOf, Builtin.firstCells, sizeOf, typeInfo, hq, hi, hl, hst]
theorem run_copy_noneY (w : World) (Kn : Nat) (dT sT ty elem : TypeId) (d a : Option Addr) (dCap sCap : Nat) (hu : Tryz.prog.underlying dT = some (.slice elem)) (hs : (Tryz.prog.info? elem).map (·.size) = some Kn) :
    (Builtin.copy_ #[dT, sT] ty #[.slice d 0 dCap, .slice a 0 sCap]).run Tryz.prog w = .ok (goInt 0) w := by
  cases hq : Tryz.prog.info? elem with
  | none => simp [hq] at hs
  | some i =>
    have hl : ∀ (x : Addr), (loadCells x 0).run Tryz.prog w = .ok #[] w := fun x => by simpa using run_loadCells_list (P := Tryz.prog) w x [] (by simp)
    cases d <;> cases a <;> simp [Builtin.copy_, run_underlying hu, Builtin.lenOf, Builtin.firstCells, sizeOf, typeInfo, hq, storeCells, hl]
theorem sizeY18 : (Tryz.prog.info? 41).map (·.size) = some 3 := by kernel_rfl
theorem run_cpY (w : World) (a : Option Addr) (l : List Tk3) (n cap : Nat) (hl : l.length = n) (hr : RdY (w.alloc (.cells (tkV (List.replicate n (0, 0, 0))).toArray 41)) a l) :
    (Builtin.copy_ #[33, 33] 3 #[.slice (some ⟨w.heap.size, 0, none⟩) n n, .slice a n cap]).run Tryz.prog (w.alloc (.cells (tkV (List.replicate n (0, 0, 0))).toArray 41)) = .ok (.int .i64 n) (w.alloc (.cells (tkV l).toArray 41)) := by
  by_cases h0 : n = 0
  · subst h0
    obtain rfl : l = [] := List.eq_nil_of_length_eq_zero hl
    rw [run_copy_noneY _ 3 33 33 3 41 _ _ 0 cap Tryz.underlying33 sizeY18]
    rfl
  · obtain ⟨g, off, rfl, hc⟩ := hr (by omega)
    have hlen : (tkV l).length = n * 3 := by rw [tkV_len, hl]
    have hcell : ∀ j v, (tkV l)[j]? = some v → (w.alloc (.cells (tkV (List.replicate n (0, 0, 0))).toArray 41)).cell? ((⟨g, off, none⟩ : Addr).add j) = some v := by
      intro j v hv
      have hj : j < n * 3 := by
        rcases Nat.lt_or_ge j (n * 3) with h' | h'
        · exact h'
        · rw [List.getElem?_eq_none (by omega)] at hv; cases hv
      have ha := tkV_at l (j / 3) (by omega)
      have hb := hc (j / 3) (by omega)
      rw [add_at]
      have h3 : j % 3 = 0 ∨ j % 3 = 1 ∨ j % 3 = 2 := by omega
      rcases h3 with e | e | e
      · have h1 := ha.1
        have h2 := hb.1
        rw [show j / 3 * 3 = j by omega, hv] at h1
        rw [show off + j / 3 * 3 = off + j by omega] at h2
        rw [h2]; exact h1.symm
      · have h1 := ha.2.1
        have h2 := hb.2.1
        rw [show j / 3 * 3 + 1 = j by omega, hv] at h1
        rw [show off + j / 3 * 3 + 1 = off + j by omega] at h2
        rw [h2]; exact h1.symm
      · have h1 := ha.2.2
        have h2 := hb.2.2
        rw [show j / 3 * 3 + 2 = j by omega, hv] at h1
        rw [show off + j / 3 * 3 + 2 = off + j by omega] at h2
        rw [h2]; exact h1.symm
    rw [run_copy_rowY _ 3 33 33 3 41 w.heap.size 0 n n ⟨g, off, none⟩ cap (tkV (List.replicate n (0, 0, 0))).toArray 41 (tkV l) Tryz.underlying33 sizeY18 (heap_new w _) hlen hcell (by rw [hlen]; simp [tkV_len]) (tkV_one l)]
    rw [hlen, World.setRow_alloc_new]
    have : List.take 0 (tkV (List.replicate n (0, 0, 0))).toArray.toList ++ tkV l ++ List.drop (0 + n * 3) (tkV (List.replicate n (0, 0, 0))).toArray.toList = tkV l := by
      simp [tkV_len]
    rw [this]
    rfl
set_option maxRecDepth 100000 in
set_option maxHeartbeats 1000000 in
theorem cpY (a : Option Addr) (l : List Tk3) (n cap : Nat) (hl : l.length = n) (hn : n ≤ 1048576) (w : World) (hr : RdY w a l) :
    Calls Tryz.prog 39 #[.slice a n cap] w fun e w' => e = .returned (.slice (some ⟨w.heap.size, 0, none⟩) n n) ∧ RowY w' w.heap.size l ∧ Below w.heap.size w w' := by
  have hmk := makeY n hn
  have HB : Hid (Below w.heap.size w (w.alloc (.cells (tkV (List.replicate n (0, 0, 0))).toArray 41))) := (Below.refl _ _).alloc (Nat.le_refl _) _
  have hcp := run_cpY w a l n cap hl (hr.keep HB.out (Nat.le_refl _))
  have HR : Hid (RowY (w.alloc (.cells (tkV l).toArray 41)) w.heap.size l) := heap_new w _
  clear hr hl
  go_enter Tryz.func39, Tryz.ntmps39
  go_wp2
  go_ret
  exact ⟨rfl, HR.out, (Below.refl _ _).alloc (Nat.le_refl _) _⟩
theorem RowY.ownU {w : World} {g B : Nat} {l : List Tk3} (h : RowY w g l) (hB : B ≤ g) (hl : l.length ≤ maxLen) : OwnU w B g l.length l.length l :=
  ⟨tkV_len l, Or.inr ⟨g, l.length, (tkV l).toArray, rfl, hB, h, Nat.le_refl _, hl, by simp [tkV_len], by simp; exact List.take_of_length_le (by rw [tkV_len]; exact Nat.le_refl _)⟩⟩
end Go.Proofs.YtdifmjcghaoilaaGreatDoor

namespace Go.Proofs.YtdifmjcghaoilaaGreatDoor.P
open Go.RowKit Go.PlainAid
set_option linter.unusedVariables false

theorem al1_b (w : World) (o : Obj) : Below w.heap.size w (w.alloc o) := (Below.refl _ _).alloc (Nat.le_refl _) _
theorem al2_b (w : World) (o p : Obj) : Below w.heap.size w ((w.alloc o).alloc p) := (al1_b w o).alloc (by simp) _
theorem al3_b (w : World) (o p q : Obj) : Below w.heap.size w (((w.alloc o).alloc p).alloc q) := (al2_b w o p).alloc (by simp; omega) _
theorem al1_s (w : World) (o : Obj) : (w.alloc o).heap.size = w.heap.size + 1 := by simp
theorem al2_s (w : World) (o p : Obj) : ((w.alloc o).alloc p).heap.size = w.heap.size + 2 := by simp
theorem al3_s (w : World) (o p q : Obj) : (((w.alloc o).alloc p).alloc q).heap.size = w.heap.size + 3 := by simp
theorem al1_1 (w : World) (o : Obj) : (w.alloc o).heap[w.heap.size]? = some o := heap_new w o
theorem al2_1 (w : World) (o p : Obj) : ((w.alloc o).alloc p).heap[w.heap.size]? = some o := (Below.heap_alloc _ _ _ (by simp)).trans (heap_new w o)
theorem al2_2 (w : World) (o p : Obj) : ((w.alloc o).alloc p).heap[w.heap.size + 1]? = some p := by have := heap_new (w.alloc o) p; simpa using this
theorem al3_1 (w : World) (o p q : Obj) : (((w.alloc o).alloc p).alloc q).heap[w.heap.size]? = some o := (Below.heap_alloc _ _ _ (by simp; omega)).trans (al2_1 w o p)
theorem al3_2 (w : World) (o p q : Obj) : (((w.alloc o).alloc p).alloc q).heap[w.heap.size + 1]? = some p := (Below.heap_alloc _ _ _ (by simp)).trans (al2_2 w o p)
theorem al3_3 (w : World) (o p q : Obj) : (((w.alloc o).alloc p).alloc q).heap[w.heap.size + 1 + 1]? = some q := by have := heap_new ((w.alloc o).alloc p) q; simpa using this
theorem set1_row {w : World} {k i : Nat} {cs : Array Value} {t : TypeId} {x : Value} (h : w.heap[k]? = some (.cells cs t)) : (w.setCell ⟨k, i, none⟩ x).heap[k]? = some (.cells (cs.setIfInBounds i x) t) := by
  simp [World.setCell, Array.getElem?_modify, h]
theorem set_other {w : World} {k j i : Nat} {x : Value} {o : Obj} (h : w.heap[j]? = some o) (hj : j ≠ k) : (w.setCell ⟨k, i, none⟩ x).heap[j]? = some o :=
  (Below.heap_setCell _ _ _ _ hj).trans h
theorem set_one {w : World} {k : Nat} {t : TypeId} {x x' : Value} (h : w.heap[k]? = some (.cells #[x] t)) : (w.setCell ⟨k, 0, none⟩ x').heap[k]? = some (.cells #[x'] t) := set1_row (i := 0) h
theorem grown_row {w w' : World} {r : Option Nat} {k : Nat} {o : Obj} (hg : w.grownBy w' r) (h : w.heap[k]? = some o) (hne : r ≠ some k) : w'.heap[k]? = some o :=
  (hg.block k (row_lt h) (fun e => hne e.symm)).trans h
theorem grown_trans' {w w1 w2 : World} {r : Option Nat} (h : w.grownBy w1 r) (k : w1.grownBy w2 r) : w.grownBy w2 r :=
  ⟨k.os.trans h.os, k.tape.trans h.tape, k.output.trans h.output, Nat.le_trans h.size k.size, fun j hj hne => (k.block j (Nat.lt_of_lt_of_le hj h.size) hne).trans (h.block j hj hne)⟩
theorem grown_refl (w : World) (r : Option Nat) : w.grownBy w r := ⟨rfl, rfl, rfl, Nat.le_refl _, fun _ _ _ => rfl⟩
theorem grown_put (w : World) (C i : Nat) (v : Value) : w.grownBy (w.setCell ⟨C, i, none⟩ v) (some C) :=
  ⟨rfl, rfl, rfl, by simp, fun j hj hne => Below.heap_setCell _ _ _ _ (fun e => hne (by rw [e]))⟩
theorem alloc_grown (w : World) (o : Obj) (r : Option Nat) : w.grownBy (w.alloc o) r := World.grownBy_alloc _ _ _
theorem below_grown {w w' : World} {r : Option Nat} (h : Below w.heap.size w w') : w.grownBy w' r := ⟨h.os, h.tape, h.output, h.size, fun j hj _ => h.block j hj⟩
theorem cell_on {W W' : World} {p : Addr} {v : Value} (h : W.cell? p = some v) (hb : Below W.heap.size W W') : W'.cell? p = some v := (hb.cell (World.block_lt_of_cell? W p h)).trans h
theorem row_ne {w : World} {p q : Nat} {o o' : Obj} (h : w.heap[p]? = some o) (h' : w.heap[q]? = some o') (hne : o ≠ o') : p ≠ q := fun e => by
  subst e; rw [h] at h'; exact hne (Option.some.inj h')

theorem run_copy_row2 (w : World) (dT sT ty elem : TypeId) (g o n dCap : Nat) (a : Addr) (sCap : Nat) (cur : Array Value) (t : TypeId) (cs : List Value)
    (hu : Tryz.prog.underlying dT = some (.slice elem)) (hs : (Tryz.prog.info? elem).map (·.size) = some 2)
    (hg : w.heap[g]? = some (.cells cur t (0, 0))) (hn : cs.length = n * 2)
    (hsrc : ∀ j v, cs[j]? = some v → w.cell? (a.add j) = some v) (hfit : o + cs.length ≤ cur.size) (h1 : ∀ v ∈ cs, v.oneCell' = true) :
    (Builtin.copy_ #[dT, sT] ty #[.slice (some ⟨g, o, none⟩) n dCap, .slice (some a) n sCap]).run Tryz.prog w =
      .ok (goInt n) (w.setRow g (cur.toList.take o ++ cs ++ cur.toList.drop (o + cs.length)).toArray) := by
  have hl := run_loadCells_list (P := Tryz.prog) w a cs hsrc
  have hst := run_storeCells_at Tryz.prog g o t cs 0 cur w hg (by simpa using hfit) h1
  cases hq : Tryz.prog.info? elem with
  | none => simp [hq] at hs
  | some i =>
    have hi : i.size = 2 := by simpa [hq] using hs
    rw [hn] at hl hst
    rw [hn]
    simp [Builtin.copy_, run_underlying hu, Builtin.lenOf, Builtin.firstCells, sizeOf, typeInfo, hq, hi, hl, hst]
theorem run_copy_none2 (w : World) (dT sT ty elem : TypeId) (d a : Option Addr) (dCap sCap : Nat) (hu : Tryz.prog.underlying dT = some (.slice elem)) (hs : (Tryz.prog.info? elem).map (·.size) = some 2) :
    (Builtin.copy_ #[dT, sT] ty #[.slice d 0 dCap, .slice a 0 sCap]).run Tryz.prog w = .ok (goInt 0) w := by
  cases hq : Tryz.prog.info? elem with
  | none => simp [hq] at hs
  | some i =>
    have hl : ∀ (x : Addr), (loadCells x 0).run Tryz.prog w = .ok #[] w := fun x => by simpa using run_loadCells_list (P := Tryz.prog) w x [] (by simp)
    cases d <;> cases a <;> simp [Builtin.copy_, run_underlying hu, Builtin.lenOf, Builtin.firstCells, sizeOf, typeInfo, hq, storeCells, hl]
end Go.Proofs.YtdifmjcghaoilaaGreatDoor.P
