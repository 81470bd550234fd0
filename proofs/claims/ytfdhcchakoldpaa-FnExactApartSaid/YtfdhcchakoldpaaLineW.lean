/-
  Lines of windows: owned lists wherever they lie in their block, copies, and the laws' own helpers over lines.
-/
import Derived.Test.YtfdhcchakoldpaaOwnWin
import Derived.Laws.CopyRow
import Derived.Laws.IdiomCopy
namespace Go.Proofs.Ytfdhcchakoldpaa
open Go.RowKit Go.PlainAid
set_option linter.unusedVariables false

theorem al1_b (w : World) (o : Obj) : Below w.heap.size w (w.alloc o) := (Below.refl _ _).alloc (Nat.le_refl _) _
theorem al2_b (w : World) (o p : Obj) : Below w.heap.size w ((w.alloc o).alloc p) := (al1_b w o).alloc (by simp) _
theorem al3_b (w : World) (o p q : Obj) : Below w.heap.size w (((w.alloc o).alloc p).alloc q) := (al2_b w o p).alloc (by simp; omega) _
theorem al1_s (w : World) (o : Obj) : (w.alloc o).heap.size = w.heap.size + 1 := by simp
theorem al2_s (w : World) (o p : Obj) : ((w.alloc o).alloc p).heap.size = w.heap.size + 2 := by simp
theorem al3_s (w : World) (o p q : Obj) : (((w.alloc o).alloc p).alloc q).heap.size = w.heap.size + 3 := by simp
theorem al1_1 (w : World) (o : Obj) : (w.alloc o).heap[w.heap.size]? = some o := heap_new w o
theorem al2_1 (w : World) (o p : Obj) : ((w.alloc o).alloc p).heap[w.heap.size]? = some o := (Below.heap_alloc _ _ _ (by simp)).trans (heap_new w o)
theorem al2_2 (w : World) (o p : Obj) : ((w.alloc o).alloc p).heap[w.heap.size + 1]? = some p := by have := heap_new (w.alloc o) p; simpa using this
theorem al3_1 (w : World) (o p q : Obj) : (((w.alloc o).alloc p).alloc q).heap[w.heap.size]? = some o := (Below.heap_alloc _ _ _ (by simp; omega)).trans (al2_1 w o p)
theorem al3_2 (w : World) (o p q : Obj) : (((w.alloc o).alloc p).alloc q).heap[w.heap.size + 1]? = some p := (Below.heap_alloc _ _ _ (by simp)).trans (al2_2 w o p)
theorem al3_3 (w : World) (o p q : Obj) : (((w.alloc o).alloc p).alloc q).heap[w.heap.size + 1 + 1]? = some q := by have := heap_new ((w.alloc o).alloc p) q; simpa using this
theorem set1_row {w : World} {k i : Nat} {cs : Array Value} {t : TypeId} {x : Value} (h : w.heap[k]? = some (.cells cs t)) : (w.setCell ⟨k, i, none⟩ x).heap[k]? = some (.cells (cs.setIfInBounds i x) t) := by
  simp [World.setCell, Array.getElem?_modify, h]
theorem set_other {w : World} {k j i : Nat} {x : Value} {o : Obj} (h : w.heap[j]? = some o) (hj : j ≠ k) : (w.setCell ⟨k, i, none⟩ x).heap[j]? = some o :=
  (Below.heap_setCell _ _ _ _ hj).trans h
theorem set_one {w : World} {k : Nat} {t : TypeId} {x x' : Value} (h : w.heap[k]? = some (.cells #[x] t)) : (w.setCell ⟨k, 0, none⟩ x').heap[k]? = some (.cells #[x'] t) := set1_row (i := 0) h
theorem grown_row {w w' : World} {r : Option Nat} {k : Nat} {o : Obj} (hg : w.grownBy w' r) (h : w.heap[k]? = some o) (hne : r ≠ some k) : w'.heap[k]? = some o :=
  (hg.block k (row_lt h) (fun e => hne e.symm)).trans h
theorem grown_trans' {w w1 w2 : World} {r : Option Nat} (h : w.grownBy w1 r) (k : w1.grownBy w2 r) : w.grownBy w2 r :=
  ⟨k.os.trans h.os, k.tape.trans h.tape, k.output.trans h.output, Nat.le_trans h.size k.size, fun j hj hne => (k.block j (Nat.lt_of_lt_of_le hj h.size) hne).trans (h.block j hj hne)⟩
theorem grown_refl (w : World) (r : Option Nat) : w.grownBy w r := ⟨rfl, rfl, rfl, Nat.le_refl _, fun _ _ _ => rfl⟩
theorem grown_put (w : World) (C i : Nat) (v : Value) : w.grownBy (w.setCell ⟨C, i, none⟩ v) (some C) :=
  ⟨rfl, rfl, rfl, by simp, fun j hj hne => Below.heap_setCell _ _ _ _ (fun e => hne (by rw [e]))⟩
theorem alloc_grown (w : World) (o : Obj) (r : Option Nat) : w.grownBy (w.alloc o) r := World.grownBy_alloc _ _ _
theorem below_grown {w w' : World} {r : Option Nat} (h : Below w.heap.size w w') : w.grownBy w' r := ⟨h.os, h.tape, h.output, h.size, fun j hj _ => h.block j hj⟩
theorem cell_on {W W' : World} {p : Addr} {v : Value} (h : W.cell? p = some v) (hb : Below W.heap.size W W') : W'.cell? p = some v := (hb.cell (World.block_lt_of_cell? W p h)).trans h
theorem row_ne {w : World} {p q : Nat} {o o' : Obj} (h : w.heap[p]? = some o) (h' : w.heap[q]? = some o') (hne : o ≠ o') : p ≠ q := fun e => by
  subst e; rw [h] at h'; exact hne (Option.some.inj h')

/-- a list of windows that is owned from block B on, wherever it lies in its block -/
def OwnM (w : World) (B : Nat) (a : Option Addr) (rl : List (Int × Int)) : Prop := 0 < rl.length → ∃ g off cur, a = some ⟨g, off, none⟩ ∧ B ≤ g ∧ w.heap[g]? = some (.cells cur 43 (0, 0)) ∧ ∀ j (h : j < rl.length), cur[off + j * 2]? = some (.int .i64 rl[j].1) ∧ cur[off + j * 2 + 1]? = some (.int .i64 rl[j].2)
theorem OwnM.rd {w : World} {B : Nat} {a : Option Addr} {rl : List (Int × Int)} (h : OwnM w B a rl) : RdR w a rl := fun h0 => by
  obtain ⟨g, off, cur, rfl, hB, hh, hc⟩ := h h0
  refine ⟨g, off, rfl, fun j hj => ?_⟩
  rw [cell_of_row w g (off + j * 2) _ _ (0, 0) hh, cell_of_row w g (off + j * 2 + 1) _ _ (0, 0) hh]
  exact hc j hj
theorem OwnM.on {w w' : World} {B : Nat} {a : Option Addr} {rl : List (Int × Int)} (h : OwnM w B a rl) (hb : Below w.heap.size w w') : OwnM w' B a rl := fun h0 => by
  obtain ⟨g, off, cur, rfl, hB, hh, hc⟩ := h h0
  exact ⟨g, off, cur, rfl, hB, row_on hh hb, hc⟩
theorem OwnM.mono {w : World} {B C : Nat} {a : Option Addr} {rl : List (Int × Int)} (h : OwnM w B a rl) (hC : C ≤ B) : OwnM w C a rl := fun h0 => by
  obtain ⟨g, off, cur, rfl, hB, hh, hc⟩ := h h0
  exact ⟨g, off, cur, rfl, Nat.le_trans hC hB, hh, hc⟩
theorem OwnM.grown {w w' : World} {B C : Nat} {a : Option Addr} {rl : List (Int × Int)} (h : OwnM w B a rl) (hg : w.grownBy w' (some C)) (hC : C < B) : OwnM w' B a rl := fun h0 => by
  obtain ⟨g, off, cur, rfl, hB, hh, hc⟩ := h h0
  exact ⟨g, off, cur, rfl, hB, grown_row hg hh (fun e => by cases e; omega), hc⟩
/-- a write into a block that holds no windows leaves it -/
theorem OwnM.put {w : World} {B k i : Nat} {a : Option Addr} {rl : List (Int × Int)} {cs : Array Value} {t : TypeId} {x : Value} (h : OwnM w B a rl) (hk : w.heap[k]? = some (.cells cs t)) (ht : t ≠ 43) : OwnM (w.setCell ⟨k, i, none⟩ x) B a rl := fun h0 => by
  obtain ⟨g, off, cur, rfl, hB, hh, hc⟩ := h h0
  exact ⟨g, off, cur, rfl, hB, set_other hh (row_ne hh hk (fun e => by cases e; exact ht rfl)), hc⟩
theorem OwnM.nil (w : World) (B : Nat) (a : Option Addr) : OwnM w B a [] := fun h => by simp at h
theorem RowR.own {w : World} {g B : Nat} {rl : List (Int × Int)} (h : RowR w g rl) (hB : B ≤ g) : OwnM w B (some ⟨g, 0, none⟩) rl := fun h0 => by
  refine ⟨g, 0, _, rfl, hB, h, fun j hj => ?_⟩
  have := regsV_at rl j hj
  simpa using this
theorem OwnW.own {w : World} {B : Nat} {v : Value} {rl : List (Int × Int)} (h : OwnW w B v rl) : ∃ a cap, v = .slice a rl.length cap ∧ OwnM w B a rl := by
  rcases h.2 with ⟨rfl, e⟩ | ⟨g, cap, cur, rfl, hg, hh, hnc, hcp, hcs, htake⟩
  · exact ⟨none, 0, by rw [e], fun h0 => by omega⟩
  · refine ⟨_, cap, rfl, fun h0 => ⟨g, 0, cur, rfl, hg, hh, fun j hj => ?_⟩⟩
    have ha := regsV_at rl j hj
    have key : ∀ (i : Nat) (x : Value), (regsV rl)[i]? = some x → cur[i]? = some x := by
      intro i x hx
      have hi : i < rl.length * 2 := by
        rcases Nat.lt_or_ge i (rl.length * 2) with h' | h'
        · exact h'
        · rw [List.getElem?_eq_none (by rw [regsV_len]; exact h')] at hx; cases hx
      have := congrArg (fun l : List Value => l[i]?) htake
      simp only [List.getElem?_take, hi, if_true] at this
      rw [hx] at this
      simpa using this
    rw [Nat.zero_add]
    exact ⟨key _ _ ha.1, key _ _ ha.2⟩

theorem run_copy_row2 (w : World) (dT sT ty elem : TypeId) (g o n dCap : Nat) (a : Addr) (sCap : Nat) (cur : Array Value) (t : TypeId) (cs : List Value)
    (hu : Try.prog.underlying dT = some (.slice elem)) (hs : (Try.prog.info? elem).map (·.size) = some 2)
    (hg : w.heap[g]? = some (.cells cur t (0, 0))) (hn : cs.length = n * 2)
    (hsrc : ∀ j v, cs[j]? = some v → w.cell? (a.add j) = some v) (hfit : o + cs.length ≤ cur.size) (h1 : ∀ v ∈ cs, v.oneCell' = true) :
    (Builtin.copy_ #[dT, sT] ty #[.slice (some ⟨g, o, none⟩) n dCap, .slice (some a) n sCap]).run Try.prog w =
      .ok (goInt n) (w.setRow g (cur.toList.take o ++ cs ++ cur.toList.drop (o + cs.length)).toArray) := by
  have hl := run_loadCells_list (P := Try.prog) w a cs hsrc
  have hst := run_storeCells_at Try.prog g o t cs 0 cur w hg (by simpa using hfit) h1
  cases hq : Try.prog.info? elem with
  | none => simp [hq] at hs
  | some i =>
    have hi : i.size = 2 := by simpa [hq] using hs
    rw [hn] at hl hst
    rw [hn]
    simp [Builtin.copy_, run_underlying hu, Builtin.lenOf, Builtin.firstCells, sizeOf, typeInfo, hq, hi, hl, hst]
theorem run_copy_none2 (w : World) (dT sT ty elem : TypeId) (d a : Option Addr) (dCap sCap : Nat) (hu : Try.prog.underlying dT = some (.slice elem)) (hs : (Try.prog.info? elem).map (·.size) = some 2) :
    (Builtin.copy_ #[dT, sT] ty #[.slice d 0 dCap, .slice a 0 sCap]).run Try.prog w = .ok (goInt 0) w := by
  cases hq : Try.prog.info? elem with
  | none => simp [hq] at hs
  | some i =>
    have hl : ∀ (x : Addr), (loadCells x 0).run Try.prog w = .ok #[] w := fun x => by simpa using run_loadCells_list (P := Try.prog) w x [] (by simp)
    cases d <;> cases a <;> simp [Builtin.copy_, run_underlying hu, Builtin.lenOf, Builtin.firstCells, sizeOf, typeInfo, hq, storeCells, hl]
theorem sizeM : (Try.prog.info? 43).map (·.size) = some 2 := by kernel_rfl

/-- copy into a list that has just been made, as long as the one that is copied -/
theorem run_copy_newM (w : World) (a : Option Addr) (l : List (Int × Int)) (n cap : Nat) (hl : l.length = n) (hr : RdR (w.alloc (.cells (regsV (List.replicate n (0, 0))).toArray 43)) a l) :
    (Builtin.copy_ #[25, 25] 3 #[.slice (some ⟨w.heap.size, 0, none⟩) n n, .slice a n cap]).run Try.prog (w.alloc (.cells (regsV (List.replicate n (0, 0))).toArray 43)) = .ok (.int .i64 n) (w.alloc (.cells (regsV l).toArray 43)) := by
  by_cases h0 : n = 0
  · subst h0
    obtain rfl : l = [] := List.eq_nil_of_length_eq_zero hl
    rw [run_copy_none2 _ 25 25 3 43 _ _ 0 cap Try.underlying25 sizeM]
    rfl
  · obtain ⟨g, off, rfl, hc⟩ := hr (by omega)
    have hlen : (regsV l).length = n * 2 := by rw [regsV_len, hl]
    have hcell : ∀ j v, (regsV l)[j]? = some v → (w.alloc (.cells (regsV (List.replicate n (0, 0))).toArray 43)).cell? ((⟨g, off, none⟩ : Addr).add j) = some v := by
      intro j v hv
      have hj : j < n * 2 := by
        rcases Nat.lt_or_ge j (n * 2) with h' | h'
        · exact h'
        · rw [List.getElem?_eq_none (by omega)] at hv; cases hv
      have ha := regsV_at l (j / 2) (by omega)
      have hb := hc (j / 2) (by omega)
      rw [add_at]
      rcases Nat.mod_two_eq_zero_or_one j with e | e
      · rw [show j / 2 * 2 = j by omega] at ha hb
        rw [hv] at ha
        rw [hb.1]; exact ha.1.symm
      · have e2 : j / 2 * 2 + 1 = j := by omega
        rw [e2, hv] at ha
        have := hb.2
        rw [show off + j / 2 * 2 + 1 = off + j by omega] at this
        rw [this]; exact ha.2.symm
    rw [run_copy_row2 _ 25 25 3 43 w.heap.size 0 n n ⟨g, off, none⟩ cap (regsV (List.replicate n (0, 0))).toArray 43 (regsV l) Try.underlying25 sizeM (heap_alloc_new w _) hlen hcell (by rw [hlen]; simp [regsV_len]) (regsV_one l)]
    rw [hlen, World.setRow_alloc_new]
    have : List.take 0 (regsV (List.replicate n (0, 0))).toArray.toList ++ regsV l ++ List.drop (0 + n * 2) (regsV (List.replicate n (0, 0))).toArray.toList = regsV l := by
      simp [regsV_len]
    rw [this]
    rfl

/-- a list of windows in a block, from an offset on -/
def AtM (w : World) (g off : Nat) (rl : List (Int × Int)) : Prop := ∃ cur, w.heap[g]? = some (.cells cur 43 (0, 0)) ∧ ∀ j (h : j < rl.length), cur[off + j * 2]? = some (.int .i64 rl[j].1) ∧ cur[off + j * 2 + 1]? = some (.int .i64 rl[j].2)
theorem AtM.cell {w : World} {g off : Nat} {rl : List (Int × Int)} (h : AtM w g off rl) (j : Nat) (hj : j < rl.length) : w.cell? ⟨g, off + j * 2, none⟩ = some (.int .i64 rl[j].1) ∧ w.cell? ⟨g, off + j * 2 + 1, none⟩ = some (.int .i64 rl[j].2) := by
  obtain ⟨cur, hh, hc⟩ := h
  rw [cell_of_row w g (off + j * 2) _ _ (0, 0) hh, cell_of_row w g (off + j * 2 + 1) _ _ (0, 0) hh]
  exact hc j hj
theorem AtM.free {w : World} {g off : Nat} {rl : List (Int × Int)} (h : AtM w g off rl) (j : Nat) : w.frozen? ⟨g, j, none⟩ = false := by
  obtain ⟨cur, hh, hc⟩ := h
  exact frozen_of_row w g j _ _ hh
theorem AtM.set {w : World} {g off : Nat} {rl : List (Int × Int)} (h : AtM w g off rl) (j : Nat) (hj : j < rl.length) (f s : Int) : AtM ((w.setCell ⟨g, off + j * 2, none⟩ (.int .i64 f)).setCell ⟨g, off + j * 2 + 1, none⟩ (.int .i64 s)) g off (rl.set j (f, s)) := by
  obtain ⟨cur, hh, hc⟩ := h
  refine ⟨(cur.setIfInBounds (off + j * 2) (.int .i64 f)).setIfInBounds (off + j * 2 + 1) (.int .i64 s), ?_, fun i hi => ?_⟩
  · have h1 := heap_setCell_same w g (off + j * 2) _ _ (.int .i64 f) hh
    exact heap_setCell_same _ g (off + j * 2 + 1) _ _ (.int .i64 s) h1
  · have hi' : i < rl.length := by simpa using hi
    have b1 := (hc j hj).1
    have b2 := (hc j hj).2
    have l1 : off + j * 2 + 1 < cur.size := by
      rcases Nat.lt_or_ge (off + j * 2 + 1) cur.size with h' | h'
      · exact h'
      · rw [Array.getElem?_eq_none h'] at b2; cases b2
    by_cases e : i = j
    · subst e
      refine ⟨?_, ?_⟩
      · rw [Array.getElem?_setIfInBounds_ne (by omega), Array.getElem?_setIfInBounds_self_of_lt (by omega)]
        simp
      · rw [Array.getElem?_setIfInBounds_self_of_lt (by simpa using l1)]
        simp
    · rw [Array.getElem?_setIfInBounds_ne (by omega), Array.getElem?_setIfInBounds_ne (by omega), Array.getElem?_setIfInBounds_ne (by omega), Array.getElem?_setIfInBounds_ne (by omega)]
      have := hc i hi'
      rw [List.getElem_set_ne (fun h => e h.symm)]
      exact this

end Go.Proofs.Ytfdhcchakoldpaa
