/-
  Lines of messages: owned lists wherever they lie in their block, copies, and the laws' own helpers over lines.
-/
import Derived.Test.YtadbekhekggpkaaGreatDoorOwnMsP
import Derived.Laws.CopyRow
import Derived.Laws.IdiomCopy
import Derived.Test.YtadbekhekggpkaaGreatDoorPortP
import Derived.Test.YtadbekhekggpkaaGreatDoorDraw
import Derived.Test.YtadbekhekggpkaaGreatDoorPlaces
import Derived.Test.YtadbekhekggpkaaGreatDoorRul9
import Derived.Deep.DeepCutAuto
import Derived.Test.YtadbekhekggpkaaGreatDoorRegsX
import Derived.Test.YtadbekhekggpkaaGreatDoorInsI
import Derived.Test.YtadbekhekggpkaaGreatDoorOwnII
import Derived.Test.YtadbekhekggpkaaGreatDoorInts
import Derived.Test.YtadbekhekggpkaaGreatDoorCodeI
import Derived.Test.YtadbekhekggpkaaGreatDoorFaultM
import Derived.Test.YtadbekhekggpkaaGreatDoorRS11
import Derived.Deep.RegionWith
import Derived.Test.YtadbekhekggpkaaGreatDoorDrawW9
import Derived.Test.YtadbekhekggpkaaGreatDoorRu10
import Derived.Test.YtadbekhekggpkaaGreatDoorTextM
import Derived.Deep.AppendLies
import Derived.Deep.RegionHeld3
namespace Go.Proofs.YtadbekhekggpkaaGreatDoor.P
open Go.RowKit Go.PlainAid
set_option linter.unusedVariables false

theorem al1_b (w : World) (o : Obj) : Below w.heap.size w (w.alloc o) := (Below.refl _ _).alloc (Nat.le_refl _) _
theorem al2_b (w : World) (o p : Obj) : Below w.heap.size w ((w.alloc o).alloc p) := (al1_b w o).alloc (by simp) _
theorem al3_b (w : World) (o p q : Obj) : Below w.heap.size w (((w.alloc o).alloc p).alloc q) := (al2_b w o p).alloc (by simp; omega) _
theorem al1_s (w : World) (o : Obj) : (w.alloc o).heap.size = w.heap.size + 1 := by simp
theorem al2_s (w : World) (o p : Obj) : ((w.alloc o).alloc p).heap.size = w.heap.size + 2 := by simp
theorem al3_s (w : World) (o p q : Obj) : (((w.alloc o).alloc p).alloc q).heap.size = w.heap.size + 3 := by simp
theorem al1_1 (w : World) (o : Obj) : (w.alloc o).heap[w.heap.size]? = some o := heap_new w o
theorem al2_1 (w : World) (o p : Obj) : ((w.alloc o).alloc p).heap[w.heap.size]? = some o := (Below.heap_alloc _ _ _ (by simp)).trans (heap_new w o)
theorem al2_2 (w : World) (o p : Obj) : ((w.alloc o).alloc p).heap[w.heap.size + 1]? = some p := by have := heap_new (w.alloc o) p; simpa using this
theorem al3_1 (w : World) (o p q : Obj) : (((w.alloc o).alloc p).alloc q).heap[w.heap.size]? = some o := (Below.heap_alloc _ _ _ (by simp; omega)).trans (al2_1 w o p)
theorem al3_2 (w : World) (o p q : Obj) : (((w.alloc o).alloc p).alloc q).heap[w.heap.size + 1]? = some p := (Below.heap_alloc _ _ _ (by simp)).trans (al2_2 w o p)
theorem al3_3 (w : World) (o p q : Obj) : (((w.alloc o).alloc p).alloc q).heap[w.heap.size + 1 + 1]? = some q := by have := heap_new ((w.alloc o).alloc p) q; simpa using this
theorem set1_row {w : World} {k i : Nat} {cs : Array Value} {t : TypeId} {x : Value} (h : w.heap[k]? = some (.cells cs t)) : (w.setCell ⟨k, i, none⟩ x).heap[k]? = some (.cells (cs.setIfInBounds i x) t) := by
  simp [World.setCell, Array.getElem?_modify, h]
theorem set_other {w : World} {k j i : Nat} {x : Value} {o : Obj} (h : w.heap[j]? = some o) (hj : j ≠ k) : (w.setCell ⟨k, i, none⟩ x).heap[j]? = some o :=
  (Below.heap_setCell _ _ _ _ hj).trans h
theorem set_one {w : World} {k : Nat} {t : TypeId} {x x' : Value} (h : w.heap[k]? = some (.cells #[x] t)) : (w.setCell ⟨k, 0, none⟩ x').heap[k]? = some (.cells #[x'] t) := set1_row (i := 0) h
theorem grown_row {w w' : World} {r : Option Nat} {k : Nat} {o : Obj} (hg : w.grownBy w' r) (h : w.heap[k]? = some o) (hne : r ≠ some k) : w'.heap[k]? = some o :=
  (hg.block k (row_lt h) (fun e => hne e.symm)).trans h
theorem grown_trans' {w w1 w2 : World} {r : Option Nat} (h : w.grownBy w1 r) (k : w1.grownBy w2 r) : w.grownBy w2 r :=
  ⟨k.os.trans h.os, k.tape.trans h.tape, k.output.trans h.output, Nat.le_trans h.size k.size, fun j hj hne => (k.block j (Nat.lt_of_lt_of_le hj h.size) hne).trans (h.block j hj hne)⟩
theorem grown_refl (w : World) (r : Option Nat) : w.grownBy w r := ⟨rfl, rfl, rfl, Nat.le_refl _, fun _ _ _ => rfl⟩
theorem grown_put (w : World) (C i : Nat) (v : Value) : w.grownBy (w.setCell ⟨C, i, none⟩ v) (some C) :=
  ⟨rfl, rfl, rfl, by simp, fun j hj hne => Below.heap_setCell _ _ _ _ (fun e => hne (by rw [e]))⟩
theorem alloc_grown (w : World) (o : Obj) (r : Option Nat) : w.grownBy (w.alloc o) r := World.grownBy_alloc _ _ _
theorem below_grown {w w' : World} {r : Option Nat} (h : Below w.heap.size w w') : w.grownBy w' r := ⟨h.os, h.tape, h.output, h.size, fun j hj _ => h.block j hj⟩
theorem cell_on {W W' : World} {p : Addr} {v : Value} (h : W.cell? p = some v) (hb : Below W.heap.size W W') : W'.cell? p = some v := (hb.cell (World.block_lt_of_cell? W p h)).trans h
theorem row_ne {w : World} {p q : Nat} {o o' : Obj} (h : w.heap[p]? = some o) (h' : w.heap[q]? = some o') (hne : o ≠ o') : p ≠ q := fun e => by
  subst e; rw [h] at h'; exact hne (Option.some.inj h')

theorem run_copy_row2 (w : World) (dT sT ty elem : TypeId) (g o n dCap : Nat) (a : Addr) (sCap : Nat) (cur : Array Value) (t : TypeId) (cs : List Value)
    (hu : Tryz.prog.underlying dT = some (.slice elem)) (hs : (Tryz.prog.info? elem).map (·.size) = some 2)
    (hg : w.heap[g]? = some (.cells cur t (0, 0))) (hn : cs.length = n * 2)
    (hsrc : ∀ j v, cs[j]? = some v → w.cell? (a.add j) = some v) (hfit : o + cs.length ≤ cur.size) (h1 : ∀ v ∈ cs, v.oneCell' = true) :
    (Builtin.copy_ #[dT, sT] ty #[.slice (some ⟨g, o, none⟩) n dCap, .slice (some a) n sCap]).run Tryz.prog w =
      .ok (goInt n) (w.setRow g (cur.toList.take o ++ cs ++ cur.toList.drop (o + cs.length)).toArray) := by
  have hl := run_loadCells_list (P := Tryz.prog) w a cs hsrc
  have hst := run_storeCells_at Tryz.prog g o t cs 0 cur w hg (by simpa using hfit) h1
  cases hq : Tryz.prog.info? elem with
  | none => simp [hq] at hs
  | some i =>
    have hi : i.size = 2 := by simpa [hq] using hs
    rw [hn] at hl hst
    rw [hn]
    simp [Builtin.copy_, run_underlying hu, Builtin.lenOf, Builtin.firstCells, sizeOf, typeInfo, hq, hi, hl, hst]
theorem run_copy_none2 (w : World) (dT sT ty elem : TypeId) (d a : Option Addr) (dCap sCap : Nat) (hu : Tryz.prog.underlying dT = some (.slice elem)) (hs : (Tryz.prog.info? elem).map (·.size) = some 2) :
    (Builtin.copy_ #[dT, sT] ty #[.slice d 0 dCap, .slice a 0 sCap]).run Tryz.prog w = .ok (goInt 0) w := by
  cases hq : Tryz.prog.info? elem with
  | none => simp [hq] at hs
  | some i =>
    have hl : ∀ (x : Addr), (loadCells x 0).run Tryz.prog w = .ok #[] w := fun x => by simpa using run_loadCells_list (P := Tryz.prog) w x [] (by simp)
    cases d <;> cases a <;> simp [Builtin.copy_, run_underlying hu, Builtin.lenOf, Builtin.firstCells, sizeOf, typeInfo, hq, storeCells, hl]
end Go.Proofs.YtadbekhekggpkaaGreatDoor.P

namespace Go.Proofs.YtadbekhekggpkaaGreatDoor.P
open Go.RowKit Go.PlainAid
set_option linter.unusedVariables false

theorem row_drawn {W W' : World} {k C : Nat} {o : Obj} (h : W.heap[k]? = some o) (hg : W.grownBy W' (some C)) (hk : k ≠ C) : W'.heap[k]? = some o :=
  (hg.block k (row_lt h) (fun e => by cases e; exact hk rfl)).trans h

/-- what is appended to new memory, behind a draw -/
theorem drawn_grown {w W W' : World} {C B : Nat} {a : Option Addr} {len cap : Nat} {v : Value} (h : Drawn w W C B a len cap) (hg : W.grownBy W' v.ownBlock) (hv : ∀ g, v.ownBlock = some g → w.heap.size ≤ g) (hC : C < w.heap.size) (hB : B ≤ w.heap.size) : Drawn w W' C B a len cap :=
  ⟨cur_new (B := B) h.1 hg (fun g e => by have := hv g e; omega), code_below h.2.1 ((Below.refl _ _).grown hg (Nat.le_trans hB h.2.2.size) (fun g e => by have := hv g e; omega)), grown_new h.2.2 hg hv⟩

theorem drawn_drew {w W : World} {C B : Nat} {a : Option Addr} {len cap : Nat} (h : Drawn w W C B a len cap) : Drawn w W.drew C B a len cap :=
  ⟨h.1, h.2.1, ⟨h.2.2.os, h.2.2.tape, h.2.2.output, h.2.2.size, h.2.2.block⟩⟩
theorem drawn_put {w W : World} {C B : Nat} {a : Option Addr} {len cap : Nat} (h : Drawn w W C B a len cap) {k : Nat} (i : Nat) (v : Value) (hk : w.heap.size ≤ k) (hC : C < w.heap.size) (hB : B ≤ C) : Drawn w (W.setCell ⟨k, i, none⟩ v) C B a len cap := by
  obtain ⟨⟨j, x, hj, hc⟩, hcode, hg⟩ := h
  refine ⟨⟨j, x, hj, ?_⟩, code_below hcode ((Below.refl _ _).setCell (by show _ ≤ k; omega) v), ?_⟩
  · unfold CurAt
    rw [Below.heap_setCell _ _ _ _ (by show C ≠ k; omega)]
    exact hc
  · have hs : (W.setCell ⟨k, i, none⟩ v).heap.size = W.heap.size := by simp
    exact ⟨hg.os, hg.tape, hg.output, by rw [hs]; exact hg.size, fun m hm hne => (Below.heap_setCell _ _ _ _ (show m ≠ k by omega)).trans (hg.block m hm hne)⟩

theorem onceR (C B : Nat) (a : Option Addr) (len cap : Nat) (n : Int) (h0 : 0 < n) (h1 : n ≤ 256) (w : World) (hC : Cur w C a len cap) (hB : B ≤ C) (hcode : CodeOk w B a len) :
    Calls Tryz.prog 30 #[.pointer (some ⟨C, 0, none⟩), .int .i64 n] w fun e w' => ∃ b : Bool, e = .returned (.bool b) ∧ Drawn w w' C B a len cap := by
  have HCu : Hid (Cur w C a len cap) := hC
  have HCo : Hid (CodeOk w B a len) := hcode
  clear hC hcode
  go_enter Tryz.func30, Tryz.ntmps30
  go_wp2_with fail
  refine (below28 C B a len cap n h0 (by omega) _ HCu.out hB HCo.out).mono ?_
  rintro e w1 ⟨x, rfl, x0, x1, hD⟩
  have HD : Hid (Drawn w w1 C B a len cap) := hD
  clear hD HCu HCo
  go_wp2
  go_ret
  exact ⟨_, rfl, HD.out⟩

theorem laid_ints1 (w : World) (o : Obj) (l : List Int) (j : Nat) (hj : j < l.length) : ((w.alloc o).alloc (.cells (l.map (Value.int .i64)).toArray 3)).cell? ⟨w.heap.size + 1, j, none⟩ = some (.int .i64 l[j]) := by
  have h := laid_ints (w.alloc o) l j hj
  have e : (w.alloc o).heap.size = w.heap.size + 1 := by simp
  rw [e] at h
  exact h


/-- a port that is being drawn -/
def DP (w W : World) (C B : Nat) (a : Option Addr) (len cap : Nat) (kP : Nat) (k f t m fr : Int) : Prop := Drawn w W C B a len cap ∧ W.heap[w.heap.size]? = some (.cells #[.int .i64 0, .int .i64 0, .int .i64 0, .int .i64 0, .int .i64 0] 52) ∧ W.heap[kP]? = some (.cells #[.int .i64 k, .int .i64 f, .int .i64 t, .int .i64 m, .int .i64 fr] 52) ∧ C < w.heap.size ∧ B ≤ C ∧ w.heap.size < kP
theorem DP.on {w W W' : World} {C B : Nat} {a : Option Addr} {len cap kP : Nat} {k f t m fr : Int} (h : DP w W C B a len cap kP k f t m fr) (hD : Drawn W W' C B a len cap) : DP w W' C B a len cap kP k f t m fr := by
  obtain ⟨h1, h2, h3, h4, h5, h6⟩ := h
  exact ⟨drawn_trans h1 hD, row_drawn h2 hD.2.2 (by omega), row_drawn h3 hD.2.2 (by omega), h4, h5, h6⟩
theorem DP.al {w W : World} {C B : Nat} {a : Option Addr} {len cap kP : Nat} {k f t m fr : Int} (h : DP w W C B a len cap kP k f t m fr) (o : Obj) : DP w (W.alloc o) C B a len cap kP k f t m fr := by
  obtain ⟨h1, h2, h3, h4, h5, h6⟩ := h
  have := row_lt h3
  exact ⟨drawn_alloc h1 (by omega) o, row_on h2 (al1_b W o), row_on h3 (al1_b W o), h4, h5, h6⟩
theorem DP.put0 {w W : World} {C B : Nat} {a : Option Addr} {len cap kP : Nat} {k f t m fr : Int} (h : DP w W C B a len cap kP k f t m fr) (z : Int) : DP w (W.setCell ⟨kP, 0, none⟩ (.int .i64 z)) C B a len cap kP z f t m fr := by
  obtain ⟨h1, h2, h3, h4, h5, h6⟩ := h
  exact ⟨drawn_put h1 _ _ (by omega) h4 h5, set_other h2 (by omega), set1_row h3, h4, h5, h6⟩
theorem DP.put1 {w W : World} {C B : Nat} {a : Option Addr} {len cap kP : Nat} {k f t m fr : Int} (h : DP w W C B a len cap kP k f t m fr) (z : Int) : DP w (W.setCell ⟨kP, 1, none⟩ (.int .i64 z)) C B a len cap kP k z t m fr := by
  obtain ⟨h1, h2, h3, h4, h5, h6⟩ := h
  exact ⟨drawn_put h1 _ _ (by omega) h4 h5, set_other h2 (by omega), set1_row h3, h4, h5, h6⟩
theorem DP.put2 {w W : World} {C B : Nat} {a : Option Addr} {len cap kP : Nat} {k f t m fr : Int} (h : DP w W C B a len cap kP k f t m fr) (z : Int) : DP w (W.setCell ⟨kP, 2, none⟩ (.int .i64 z)) C B a len cap kP k f z m fr := by
  obtain ⟨h1, h2, h3, h4, h5, h6⟩ := h
  exact ⟨drawn_put h1 _ _ (by omega) h4 h5, set_other h2 (by omega), set1_row h3, h4, h5, h6⟩
theorem DP.put3 {w W : World} {C B : Nat} {a : Option Addr} {len cap kP : Nat} {k f t m fr : Int} (h : DP w W C B a len cap kP k f t m fr) (z : Int) : DP w (W.setCell ⟨kP, 3, none⟩ (.int .i64 z)) C B a len cap kP k f t z fr := by
  obtain ⟨h1, h2, h3, h4, h5, h6⟩ := h
  exact ⟨drawn_put h1 _ _ (by omega) h4 h5, set_other h2 (by omega), set1_row h3, h4, h5, h6⟩
theorem DP.put4 {w W : World} {C B : Nat} {a : Option Addr} {len cap kP : Nat} {k f t m fr : Int} (h : DP w W C B a len cap kP k f t m fr) (z : Int) : DP w (W.setCell ⟨kP, 4, none⟩ (.int .i64 z)) C B a len cap kP k f t m z := by
  obtain ⟨h1, h2, h3, h4, h5, h6⟩ := h
  exact ⟨drawn_put h1 _ _ (by omega) h4 h5, set_other h2 (by omega), set1_row h3, h4, h5, h6⟩
theorem DP.done {w W : World} {C B : Nat} {a : Option Addr} {len cap kP : Nat} {k f t m fr : Int} (h : DP w W C B a len cap kP k f t m fr) : Drawn w (((((W.setCell ⟨w.heap.size, 0, none⟩ (.int .i64 k)).setCell ⟨w.heap.size, 1, none⟩ (.int .i64 f)).setCell ⟨w.heap.size, 2, none⟩ (.int .i64 t)).setCell ⟨w.heap.size, 3, none⟩ (.int .i64 m)).setCell ⟨w.heap.size, 4, none⟩ (.int .i64 fr)) C B a len cap := by
  obtain ⟨h1, h2, h3, h4, h5, h6⟩ := h
  exact drawn_put (drawn_put (drawn_put (drawn_put (drawn_put h1 0 _ (Nat.le_refl _) h4 h5) 1 _ (Nat.le_refl _) h4 h5) 2 _ (Nat.le_refl _) h4 h5) 3 _ (Nat.le_refl _) h4 h5) 4 _ (Nat.le_refl _) h4 h5

set_option maxRecDepth 100000 in
set_option maxHeartbeats 4000000 in
theorem portD (C B : Nat) (a : Option Addr) (len cap : Nat) (w : World) (hC : Cur w C a len cap) (hB : B ≤ C) (hcode : CodeOk w B a len) :
    Calls Tryz.prog 82 #[.pointer (some ⟨C, 0, none⟩)] w fun e w' => ∃ k f t m fr : Int, e = .returned (.agg #[.int .i64 k, .int .i64 f, .int .i64 t, .int .i64 m, .int .i64 fr]) ∧ PortR k f t m fr ∧ Drawn w w' C B a len cap := by
  have hlt := cur_lt hC
  have HD0 : Hid (Drawn w (w.alloc (.cells #[.int .i64 0, .int .i64 0, .int .i64 0, .int .i64 0, .int .i64 0] 52)) C B a len cap) := drawn_alloc ⟨hC, hcode, World.grownBy.refl _ _⟩ (by omega) _
  have HZ0 : Hid ((w.alloc (.cells #[.int .i64 0, .int .i64 0, .int .i64 0, .int .i64 0, .int .i64 0] 52)).heap[w.heap.size]? = some (.cells #[.int .i64 0, .int .i64 0, .int .i64 0, .int .i64 0, .int .i64 0] 52)) := heap_new w _
  clear hC hcode
  go_enter Tryz.func82, Tryz.ntmps82
  go_wp2_with fail
  refine (below28 C B a len cap 3 (by omega) (by omega) _ HD0.out.1 hB HD0.out.2.1).mono ?_
  rintro e w1 ⟨x, rfl, x0, x1, hD⟩
  have HD1 : Hid (Drawn w w1 C B a len cap) := drawn_trans HD0.out hD
  have HZ1 : Hid (w1.heap[w.heap.size]? = some (.cells #[.int .i64 0, .int .i64 0, .int .i64 0, .int .i64 0, .int .i64 0] 52)) := row_drawn HZ0.out hD.2.2 (by omega)
  clear hD HD0 HZ0
  go_wp2_with fail
  refine (below28 C B a len cap 3 (by omega) (by omega) _ HD1.out.1 hB HD1.out.2.1).mono ?_
  rintro e w2 ⟨y, rfl, y0, y1, hD⟩
  have HD2 : Hid (Drawn w w2 C B a len cap) := drawn_trans HD1.out hD
  have HZ2 : Hid (w2.heap[w.heap.size]? = some (.cells #[.int .i64 0, .int .i64 0, .int .i64 0, .int .i64 0, .int .i64 0] 52)) := row_drawn HZ1.out hD.2.2 (by omega)
  clear hD HD1 HZ1
  go_wp2_with fail
  refine (below28 C B a len cap 3 (by omega) (by omega) _ HD2.out.1 hB HD2.out.2.1).mono ?_
  rintro e w3 ⟨z, rfl, z0, z1, hD⟩
  have HD3 : Hid (Drawn w w3 C B a len cap) := drawn_trans HD2.out hD
  have HZ3 : Hid (w3.heap[w.heap.size]? = some (.cells #[.int .i64 0, .int .i64 0, .int .i64 0, .int .i64 0, .int .i64 0] 52)) := row_drawn HZ2.out hD.2.2 (by omega)
  clear hD HD2 HZ2
  obtain ⟨F, hF⟩ : ∃ F, 1 + x = F := ⟨_, rfl⟩
  obtain ⟨T, hT⟩ : ∃ T, 1 + y = T := ⟨_, rfl⟩
  obtain ⟨Mm, hMm⟩ : ∃ Mm, 1 + z = Mm := ⟨_, rfl⟩
  have hF1 : 1 ≤ F ∧ F ≤ 3 := by omega
  have hs3 := row_lt HZ3.out
  have HJA : Hid (∀ T, DP w (w3.alloc (.cells #[.int .i64 1, .int .i64 F, .int .i64 T, .int .i64 Mm, .int .i64 0] 52)) C B a len cap w3.heap.size 1 F T Mm 0) := fun T =>
    ⟨drawn_alloc HD3.out (by omega) _, row_on HZ3.out (al1_b w3 _), heap_new w3 _, hlt, hB, by omega⟩
  clear HD3 HZ3 hs3
  by_cases hFT : F = T
  · subst hFT
    have hr2 : F.tmod 3 = F % 3 := Int.tmod_eq_emod_of_nonneg (by omega)
    obtain ⟨T, hT2⟩ : ∃ T, 1 + F % 3 = T := ⟨_, rfl⟩
    have HJ : Hid (DP _ _ _ _ _ _ _ _ _ _ _ _ _ ) := HJA.out T
    clear HJA
    go_wp2_with fail
    refine (onceR C B a len cap 3 (by omega) (by omega) _ HJ.out.1.1 hB HJ.out.1.2.1).mono ?_
    rintro e w7 ⟨b, rfl, hD⟩
    have HK : Hid (DP _ _ _ _ _ _ _ _ _ _ _ _ _ ) := HJ.out.on hD
    clear hD HJ
    cases b with
    | false =>
      have kk := box5_cells HK.out.2.2.1
      have kz := box5_cells HK.out.2.1
      have HF : Hid (Drawn _ _ _ _ _ _ _) := HK.out.done
      clear HK
      go_wp2
      refine bodyPost_ret (v := .agg #[.int .i64 1, .int .i64 F, .int .i64 T, .int .i64 Mm, .int .i64 0]) (by simp [results, Tryz.results82, go_sem, kz]) rfl ⟨1, F, T, Mm, 0, rfl, ⟨by omega, by omega, by omega, .inl ⟨rfl, by omega, rfl⟩⟩, HF.out⟩
    | true =>
      have k7 := box5_cells HK.out.2.2.1
      have HK1 : Hid (DP _ _ _ _ _ _ _ _ _ _ _ _ _ ) := HK.out.put0 2
      have k8 := box5_cells HK1.out.2.2.1
      have HK2 : Hid (DP _ _ _ _ _ _ _ _ _ _ _ _ _ ) := HK1.out.put3 1
      have k9 := box5_cells HK2.out.2.2.1
      clear HK HK1
      go_wp2_with fail
      clear k7 k8 k9
      refine (below28 C B a len cap 8 (by omega) (by omega) _ HK2.out.1.1 hB HK2.out.1.2.1).mono ?_
      rintro e w8 ⟨z, rfl, z0, z1, hD⟩
      have h8 := HK2.out.on hD
      have k8 := box5_cells h8.2.2.1
      have HK3 : Hid (DP _ _ _ _ _ _ _ _ _ _ _ _ _ ) := h8.put4 (1 + z)
      clear hD HK2 h8
      have kk := box5_cells HK3.out.2.2.1
      have kz := box5_cells HK3.out.2.1
      have HF : Hid (Drawn _ _ _ _ _ _ _) := HK3.out.done
      clear HK3
      go_wp2
      refine bodyPost_ret (v := .agg #[.int .i64 2, .int .i64 F, .int .i64 T, .int .i64 1, .int .i64 (1 + z)]) (by simp [results, Tryz.results82, go_sem, kz]) rfl ⟨2, F, T, 1, (1 + z), rfl, ⟨by omega, by omega, by omega, .inr ⟨rfl, rfl, by omega⟩⟩, HF.out⟩
  · have hFT2 : (F == T) = false := by simpa using hFT
    have HJ : Hid (DP _ _ _ _ _ _ _ _ _ _ _ _ _ ) := HJA.out T
    clear HJA
    go_wp2_with fail
    refine (onceR C B a len cap 3 (by omega) (by omega) _ HJ.out.1.1 hB HJ.out.1.2.1).mono ?_
    rintro e w7 ⟨b, rfl, hD⟩
    have HK : Hid (DP _ _ _ _ _ _ _ _ _ _ _ _ _ ) := HJ.out.on hD
    clear hD HJ
    cases b with
    | false =>
      have kk := box5_cells HK.out.2.2.1
      have kz := box5_cells HK.out.2.1
      have HF : Hid (Drawn _ _ _ _ _ _ _) := HK.out.done
      clear HK
      go_wp2
      refine bodyPost_ret (v := .agg #[.int .i64 1, .int .i64 F, .int .i64 T, .int .i64 Mm, .int .i64 0]) (by simp [results, Tryz.results82, go_sem, kz]) rfl ⟨1, F, T, Mm, 0, rfl, ⟨by omega, by omega, by omega, .inl ⟨rfl, by omega, rfl⟩⟩, HF.out⟩
    | true =>
      have k7 := box5_cells HK.out.2.2.1
      have HK1 : Hid (DP _ _ _ _ _ _ _ _ _ _ _ _ _ ) := HK.out.put0 2
      have k8 := box5_cells HK1.out.2.2.1
      have HK2 : Hid (DP _ _ _ _ _ _ _ _ _ _ _ _ _ ) := HK1.out.put3 1
      have k9 := box5_cells HK2.out.2.2.1
      clear HK HK1
      go_wp2_with fail
      clear k7 k8 k9
      refine (below28 C B a len cap 8 (by omega) (by omega) _ HK2.out.1.1 hB HK2.out.1.2.1).mono ?_
      rintro e w8 ⟨z, rfl, z0, z1, hD⟩
      have h8 := HK2.out.on hD
      have k8 := box5_cells h8.2.2.1
      have HK3 : Hid (DP _ _ _ _ _ _ _ _ _ _ _ _ _ ) := h8.put4 (1 + z)
      clear hD HK2 h8
      have kk := box5_cells HK3.out.2.2.1
      have kz := box5_cells HK3.out.2.1
      have HF : Hid (Drawn _ _ _ _ _ _ _) := HK3.out.done
      clear HK3
      go_wp2
      refine bodyPost_ret (v := .agg #[.int .i64 2, .int .i64 F, .int .i64 T, .int .i64 1, .int .i64 (1 + z)]) (by simp [results, Tryz.results82, go_sem, kz]) rfl ⟨2, F, T, 1, (1 + z), rfl, ⟨by omega, by omega, by omega, .inr ⟨rfl, rfl, by omega⟩⟩, HF.out⟩

set_option maxRecDepth 100000 in
set_option maxHeartbeats 4000000 in
theorem anyD (C B : Nat) (a : Option Addr) (len cap : Nat) (w : World) (hC : Cur w C a len cap) (hB : B ≤ C) (hcode : CodeOk w B a len) :
    Calls Tryz.prog 53 #[.pointer (some ⟨C, 0, none⟩)] w fun e w' => ∃ k f t m fr : Int, e = .returned (.agg #[.int .i64 k, .int .i64 f, .int .i64 t, .int .i64 m, .int .i64 fr]) ∧ Drawn w w' C B a len cap := by
  have hlt := cur_lt hC
  have HD0 : Hid (Drawn w (w.alloc (.cells #[.int .i64 0, .int .i64 0, .int .i64 0, .int .i64 0, .int .i64 0] 52)) C B a len cap) := drawn_alloc ⟨hC, hcode, World.grownBy.refl _ _⟩ (by omega) _
  have HZ0 : Hid ((w.alloc (.cells #[.int .i64 0, .int .i64 0, .int .i64 0, .int .i64 0, .int .i64 0] 52)).heap[w.heap.size]? = some (.cells #[.int .i64 0, .int .i64 0, .int .i64 0, .int .i64 0, .int .i64 0] 52)) := heap_new w _
  clear hC hcode
  go_enter Tryz.func53, Tryz.ntmps53
  go_wp2_with fail
  refine (portD C B a len cap _ HD0.out.1 hB HD0.out.2.1).mono ?_
  rintro e w1 ⟨k, f, t, m, fr, rfl, _, hD⟩
  have hs1 := row_lt (row_drawn HZ0.out hD.2.2 (by omega))
  have HJ : Hid (DP w (w1.alloc (.cells #[.int .i64 k, .int .i64 f, .int .i64 t, .int .i64 m, .int .i64 fr] 52)) C B a len cap w1.heap.size k f t m fr) :=
    ⟨drawn_alloc (drawn_trans HD0.out hD) (by omega) _, row_on (row_drawn HZ0.out hD.2.2 (by omega)) (al1_b w1 _), heap_new w1 _, hlt, hB, by omega⟩
  clear HD0 HZ0 hD
  go_wp2_with fail
  refine (below28 C B a len cap 16 (by omega) (by omega) _ HJ.out.1.1 hB HJ.out.1.2.1).mono ?_
  rintro e w2 ⟨s, rfl, s0, s1, hD⟩
  have HK : Hid (DP _ _ _ _ _ _ _ _ _ _ _ _ _ ) := HJ.out.on hD
  have hkP := row_lt HK.out.2.2.1
  have hCk := HK.out.2.2.2.2.2
  clear hD HJ
  have ways : s = 0 ∨ s = 1 ∨ s = 2 ∨ s = 3 ∨ ((s == 0) = false ∧ (s == 1) = false ∧ (s == 2) = false ∧ (s == 3) = false) := by
    by_cases h0 : s = 0
    · exact .inl h0
    · by_cases h1 : s = 1
      · exact .inr (.inl h1)
      · by_cases h2 : s = 2
        · exact .inr (.inr (.inl h2))
        · by_cases h3 : s = 3
          · exact .inr (.inr (.inr (.inl h3)))
          · exact .inr (.inr (.inr (.inr ⟨by simpa using h0, by simpa using h1, by simpa using h2, by simpa using h3⟩)))
  rcases ways with rfl | rfl | rfl | rfl | ⟨g0, g1, g2, g3⟩
  · go_wp2_with fail
    refine (below28 C B a len cap 4 (by omega) (by omega) _ HK.out.1.1 hB HK.out.1.2.1).mono ?_
    rintro e w3 ⟨z, rfl, z0, z1, hD⟩
    have h3 := HK.out.on hD
    have k3 := box5_cells h3.2.2.1
    have HK3 : Hid (DP _ _ _ _ _ _ _ _ _ _ _ _ _ ) := h3.put0 z
    clear hD HK h3
    have kk := box5_cells HK3.out.2.2.1
    have kz := box5_cells HK3.out.2.1
    have HF : Hid (Drawn _ _ _ _ _ _ _) := HK3.out.done
    clear HK3
    go_wp2
    refine bodyPost_ret (v := .agg #[.int .i64 z, .int .i64 f, .int .i64 t, .int .i64 m, .int .i64 fr]) (by simp [results, Tryz.results53, go_sem, kz]) rfl ⟨z, f, t, m, fr, rfl, HF.out⟩
  · have HLI : Hid (∀ j (hj : j < ([0, 4, 5] : List Int).length), (w2.alloc (.cells (([0, 4, 5] : List Int).map (Value.int .i64)).toArray 3)).cell? ⟨w2.heap.size, j, none⟩ = some (.int .i64 ([0, 4, 5] : List Int)[j])) := laid_ints w2 [0, 4, 5]
    have HKa : Hid (DP _ _ _ _ _ _ _ _ _ _ _ _ _ ) := HK.out.al (.cells (([0, 4, 5] : List Int).map (Value.int .i64)).toArray 3)
    clear HK
    go_wp2_with fail
    refine (pick26' C B a len cap [0, 4, 5] 3 w2.heap.size 3 rfl (by omega) (by omega) _ HKa.out.1.1 hB HKa.out.1.2.1 (by omega) (by simp) HLI.out).mono ?_
    rintro e w3 ⟨z, rfl, _, hD⟩
    have h3 := HKa.out.on hD
    have k3 := box5_cells h3.2.2.1
    have HK3 : Hid (DP _ _ _ _ _ _ _ _ _ _ _ _ _ ) := h3.put1 z
    clear hD HKa h3 HLI
    have kk := box5_cells HK3.out.2.2.1
    have kz := box5_cells HK3.out.2.1
    have HF : Hid (Drawn _ _ _ _ _ _ _) := HK3.out.done
    clear HK3
    go_wp2
    refine bodyPost_ret (v := .agg #[.int .i64 k, .int .i64 z, .int .i64 t, .int .i64 m, .int .i64 fr]) (by simp [results, Tryz.results53, go_sem, kz]) rfl ⟨k, z, t, m, fr, rfl, HF.out⟩
  · have HLI : Hid (∀ j (hj : j < ([0, 6, 7] : List Int).length), (w2.alloc (.cells (([0, 6, 7] : List Int).map (Value.int .i64)).toArray 3)).cell? ⟨w2.heap.size, j, none⟩ = some (.int .i64 ([0, 6, 7] : List Int)[j])) := laid_ints w2 [0, 6, 7]
    have HKa : Hid (DP _ _ _ _ _ _ _ _ _ _ _ _ _ ) := HK.out.al (.cells (([0, 6, 7] : List Int).map (Value.int .i64)).toArray 3)
    clear HK
    go_wp2_with fail
    refine (pick26' C B a len cap [0, 6, 7] 3 w2.heap.size 3 rfl (by omega) (by omega) _ HKa.out.1.1 hB HKa.out.1.2.1 (by omega) (by simp) HLI.out).mono ?_
    rintro e w3 ⟨z, rfl, _, hD⟩
    have h3 := HKa.out.on hD
    have k3 := box5_cells h3.2.2.1
    have HK3 : Hid (DP _ _ _ _ _ _ _ _ _ _ _ _ _ ) := h3.put3 z
    clear hD HKa h3 HLI
    have kk := box5_cells HK3.out.2.2.1
    have kz := box5_cells HK3.out.2.1
    have HF : Hid (Drawn _ _ _ _ _ _ _) := HK3.out.done
    clear HK3
    go_wp2
    refine bodyPost_ret (v := .agg #[.int .i64 k, .int .i64 f, .int .i64 t, .int .i64 z, .int .i64 fr]) (by simp [results, Tryz.results53, go_sem, kz]) rfl ⟨k, f, t, z, fr, rfl, HF.out⟩
  · have HLI : Hid (∀ j (hj : j < ([0, 100, 101] : List Int).length), (w2.alloc (.cells (([0, 100, 101] : List Int).map (Value.int .i64)).toArray 3)).cell? ⟨w2.heap.size, j, none⟩ = some (.int .i64 ([0, 100, 101] : List Int)[j])) := laid_ints w2 [0, 100, 101]
    have HKa : Hid (DP _ _ _ _ _ _ _ _ _ _ _ _ _ ) := HK.out.al (.cells (([0, 100, 101] : List Int).map (Value.int .i64)).toArray 3)
    clear HK
    go_wp2_with fail
    refine (pick26' C B a len cap [0, 100, 101] 3 w2.heap.size 3 rfl (by omega) (by omega) _ HKa.out.1.1 hB HKa.out.1.2.1 (by omega) (by simp) HLI.out).mono ?_
    rintro e w3 ⟨z, rfl, _, hD⟩
    have h3 := HKa.out.on hD
    have k3 := box5_cells h3.2.2.1
    have HK3 : Hid (DP _ _ _ _ _ _ _ _ _ _ _ _ _ ) := h3.put4 z
    clear hD HKa h3 HLI
    have kk := box5_cells HK3.out.2.2.1
    have kz := box5_cells HK3.out.2.1
    have HF : Hid (Drawn _ _ _ _ _ _ _) := HK3.out.done
    clear HK3
    go_wp2
    refine bodyPost_ret (v := .agg #[.int .i64 k, .int .i64 f, .int .i64 t, .int .i64 m, .int .i64 z]) (by simp [results, Tryz.results53, go_sem, kz]) rfl ⟨k, f, t, m, z, rfl, HF.out⟩
  · skip
    have kk := box5_cells HK.out.2.2.1
    have kz := box5_cells HK.out.2.1
    have HF : Hid (Drawn _ _ _ _ _ _ _) := HK.out.done
    clear HK
    go_wp2
    refine bodyPost_ret (v := .agg #[.int .i64 k, .int .i64 f, .int .i64 t, .int .i64 m, .int .i64 fr]) (by simp [results, Tryz.results53, go_sem, kz]) rfl ⟨k, f, t, m, fr, rfl, HF.out⟩
end Go.Proofs.YtadbekhekggpkaaGreatDoor.P

namespace Go.Proofs.YtadbekhekggpkaaGreatDoor
open Go.RowKit Go.PlainAid
set_option linter.unusedVariables false

theorem appU1 {ops : Array Oper} {o : Oper} {a : Act} {K : Act → World → Prop} {Q : Exit → Act → World → Prop} {E : Prop} {W : World} (hw : Region.wanted o (yielded ops a.tmps) = true) (s x : Operand)
    (ho : o.op = .call { callee := .builtin .append, args := #[s, x], argTypes := #[27, 27] }) (B e g n c lo : Nat) (l : List Rule)
    (hs : a.eval s = .slice (some ⟨e, 0, none⟩) 0 0) (hx : a.eval x = .slice (some ⟨g, 0, none⟩) n c)
    (hown : OwnU W B (.slice (some ⟨e, 0, none⟩) 0 0) 0 []) (hr : OwnU W B (.slice (some ⟨g, 0, none⟩) n c) n l) (n4 : n ≤ 8) (hB : B ≤ W.heap.size) (hlo : lo ≤ W.heap.size) (hle : lo ≤ e)
    (h : ∀ g7 cap w', OwnU w' B (.slice (some ⟨g7, 0, none⟩) n cap) n l → W.grownBy w' (some e) → lo ≤ g7 → K (a.put o.dst (.slice (some ⟨g7, 0, none⟩) n cap)) w') :
    if Region.wanted o (yielded ops a.tmps) = true then Oper.wp Tryz.prog o a W K Q else E := by
  obtain ⟨i0, hi, hz0, hz1, hz2⟩ := info_parts infoU
  rw [if_pos hw]
  obtain ⟨v', w', hrun, h1, h2, h3, h4⟩ := run_append_own_at (P := Tryz.prog) W B 27 o.type 54 i0 (.agg #[.int .i64 0, .int .i64 0, .int .i64 0]) 3 24 Tryz.underlying27 hi hz0 hz1 hz2 rfl (by decide) _ 0 _ hown ⟨g, 0, none⟩ n c (rulV l) (by rw [rulV_len, hr.len]) hr.news (rulV_one l) (by unfold maxLen; omega) (by omega) hB
  rw [Nat.zero_add] at h1
  obtain ⟨g7, c7, rfl, h5⟩ : ∃ g7 c7, v' = .slice (some ⟨g7, 0, none⟩) n c7 ∧ lo ≤ g7 := by
    rcases h1.2 with ⟨e1, _⟩ | ⟨g7, c7, cur, rfl, _⟩
    · have := (h3.1 e1).1
      cases this
    · refine ⟨g7, c7, rfl, ?_⟩
      rcases h4 with h4 | h4
      · cases h4; exact hle
      · cases h4; exact hlo
  unfold Oper.wp execOp
  simp only [ho, resolve, invoke, builtin, Sem.run_bind, Sem.run_pure, Result.andThen_ok, List.map_toArray, List.map_cons, List.map_nil, hs, hx, hrun]
  exact h g7 c7 w' h1 h2 h5

theorem appU2 {ops : Array Oper} {o : Oper} {a : Act} {K : Act → World → Prop} {Q : Exit → Act → World → Prop} {E : Prop} {W : World} (hw : Region.wanted o (yielded ops a.tmps) = true) (s x : Operand)
    (ho : o.op = .call { callee := .builtin .append, args := #[s, x], argTypes := #[27, 27] }) (B r n c : Nat) (q : Option Addr) (f t z : Int) (l : List Rule)
    (hs : a.eval s = .slice q n c) (hx : a.eval x = .slice (some ⟨r, 0, none⟩) 1 1)
    (hown : OwnU W B (.slice q n c) n l) (hr : W.heap[r]? = some (.cells #[.int .i64 f, .int .i64 t, .int .i64 z] 54)) (n4 : n ≤ 8) (hB : B ≤ W.heap.size)
    (h : ∀ g' cap w', OwnU w' B (.slice (some ⟨g', 0, none⟩) (n + 1) cap) (n + 1) (l ++ [(f, t, z)]) → W.grownBy w' (Value.slice q n c).ownBlock → K (a.put o.dst (.slice (some ⟨g', 0, none⟩) (n + 1) cap)) w') :
    if Region.wanted o (yielded ops a.tmps) = true then Oper.wp Tryz.prog o a W K Q else E := by
  obtain ⟨i0, hi, hz0, hz1, hz2⟩ := info_parts infoU
  rw [if_pos hw]
  refine wp_append_lies W s x 27 ho B 54 i0 (.agg #[.int .i64 0, .int .i64 0, .int .i64 0]) 3 24 Tryz.underlying27 hi hz0 hz1 hz2 rfl (by decide) _ n _ hs hown ⟨r, 0, none⟩ 1 1 [.int .i64 f, .int .i64 t, .int .i64 z] hx rfl (World.news_of_block (cs := #[.int .i64 f, .int .i64 t, .int .i64 z]) hr) (by intro u hu; simp at hu; rcases hu with rfl | rfl | rfl <;> rfl) (by omega) (by unfold maxLen; omega) (by omega) hB _ rfl ?_
  intro g' cap w' h1 h2 _ _
  refine h g' cap w' ?_ h2
  unfold OwnU
  rw [rulV_append]
  exact h1

/-- what stands while rules are drawn -/
structure DU (w W : World) (C B : Nat) (a : Option Addr) (len cap : Nat) (g n c : Nat) (l : List Rule) (k : Nat) (x y z : Int) : Prop where
  d : Drawn w W C B a len cap
  o : OwnU W w.heap.size (.slice (some ⟨g, 0, none⟩) n c) n l
  row : W.heap[k]? = some (.cells #[.int .i64 x, .int .i64 y, .int .i64 z] 54)
  hC : C < w.heap.size
  hB : B ≤ C
  hk : w.heap.size ≤ k
  hg : g ≠ k
section
variable {w W W' : World} {C B : Nat} {a : Option Addr} {len cap : Nat} {g n c : Nat} {l : List Rule} {k : Nat} {x y z : Int}
theorem DU.drew (h : DU w W C B a len cap g n c l k x y z) : DU w W.drew C B a len cap g n c l k x y z := ⟨P.drawn_drew h.d, h.o, h.row, h.hC, h.hB, h.hk, h.hg⟩
theorem DU.al (h : DU w W C B a len cap g n c l k x y z) (o : Obj) : DU w (W.alloc o) C B a len cap g n c l k x y z :=
  ⟨drawn_alloc h.d (by have := h.d.2.2.size; have := h.hC; have := h.hB; omega) o, World.ownsRow.alloc h.o o, row_on h.row ((Below.refl _ _).alloc (Nat.le_refl _) _), h.hC, h.hB, h.hk, h.hg⟩
/-- behind a change of one new block, which is neither the list's nor the rule's -/
theorem DU.gr {e : Option Nat} (h : DU w W C B a len cap g n c l k x y z) (hg : W.grownBy W' e) (he : ∀ b, e = some b → w.heap.size ≤ b ∧ b ≠ g ∧ b ≠ k) : DU w W' C B a len cap g n c l k x y z := by
  refine ⟨⟨?_, ?_, ?_⟩, ?_, ?_, h.hC, h.hB, h.hk, h.hg⟩
  · obtain ⟨j, u, hj, hc⟩ := h.d.1
    refine ⟨j, u, hj, ?_⟩
    unfold CurAt at hc ⊢
    exact (hg.block C (row_lt hc) (fun e' => by have := (he C e'.symm).1; have := h.hC; omega)).trans hc
  · refine code_below h.d.2.1 ((Below.refl _ _).grown hg ?_ (fun b hb => by have := (he b hb).1; have := h.hC; have := h.hB; omega))
    have := h.d.2.2.size; have := h.hC; have := h.hB; omega
  · have hd := h.d.2.2
    exact ⟨hg.os.trans hd.os, hg.tape.trans hd.tape, hg.output.trans hd.output, Nat.le_trans hd.size hg.size, fun i hi hne => (hg.block i (Nat.lt_of_lt_of_le hi hd.size) (fun e' => by have := (he i e'.symm).1; omega)).trans (hd.block i hi hne)⟩
  · exact World.ownsRow.kept h.o hg (.inr (fun e' => by
      cases he' : e with
      | none => rw [he'] at e'; cases e'
      | some b => rw [he'] at e'; cases e'; exact (he g he').2.1 rfl))
  · exact (hg.block k (row_lt h.row) (fun e' => (he k e'.symm).2.2 rfl)).trans h.row
theorem DU.on (h : DU w W C B a len cap g n c l k x y z) (hD : Drawn W W' C B a len cap) : DU w W' C B a len cap g n c l k x y z :=
  ⟨drawn_trans h.d hD, own_gr h.o hD.2.2 h.hC, P.row_drawn h.row hD.2.2 (by have := h.hC; have := h.hk; omega), h.hC, h.hB, h.hk, h.hg⟩
theorem DU.put2 (h : DU w W C B a len cap g n c l k x y z) (u : Int) : DU w (W.setCell ⟨k, 2, none⟩ (.int .i64 u)) C B a len cap g n c l k x y u := by
  refine ⟨P.drawn_put h.d _ _ h.hk h.hC h.hB, ?_, P.set1_row h.row, h.hC, h.hB, h.hk, h.hg⟩
  refine ⟨h.o.1, ?_⟩
  rcases h.o.2 with h2 | ⟨g', cap', cur', hv, hg', hh, h3⟩
  · exact .inl h2
  · cases hv
    exact .inr ⟨g, _, cur', rfl, hg', P.set_other hh h.hg, h3⟩
theorem DU.conj (h : DU w W C B a len cap g n c l k x y z) : W.cell? ⟨k, 0, none⟩ = some (.int .i64 x) ∧ W.cell? ⟨k, 1, none⟩ = some (.int .i64 y) ∧ W.cell? ⟨k, 2, none⟩ = some (.int .i64 z) ∧ DU w W C B a len cap g n c l k x y z :=
  ⟨(row3_cells h.row).1.1, (row3_cells h.row).1.2.1, (row3_cells h.row).1.2.2, h⟩
end
theorem du_of {w W : World} {C B : Nat} {a : Option Addr} {len cap g n c : Nat} {l : List Rule} {k : Nat} {x y z : Int} {P1 P2 P3 : Prop} (h : P1 ∧ P2 ∧ P3 ∧ DU w W C B a len cap g n c l k x y z) : DU w W C B a len cap g n c l k x y z := h.2.2.2
theorem rowA3 (w : World) (E R : Obj) : ((w.alloc E).alloc R).heap[w.heap.size]? = some E := (Below.heap_alloc _ _ _ (by simp)).trans (heap_new w E)
theorem rowB3 (w : World) (E R : Obj) : ((w.alloc E).alloc R).heap[w.heap.size + 1]? = some R := by
  have h := heap_new (w.alloc E) R
  have e : (w.alloc E).heap.size = w.heap.size + 1 := by simp
  rw [e] at h
  exact h
theorem drawn_bel {w W W' : World} {C B : Nat} {a : Option Addr} {len cap : Nat} (h : Drawn w W C B a len cap) (hb : Below W.heap.size W W') (hB : B ≤ w.heap.size) : Drawn w W' C B a len cap := by
  refine ⟨?_, code_below h.2.1 (hb.mono (Nat.le_trans hB h.2.2.size)), ?_⟩
  · obtain ⟨j, u, hj, hc⟩ := h.1
    refine ⟨j, u, hj, ?_⟩
    unfold CurAt at hc ⊢
    exact row_on hc hb
  · have hd := h.2.2
    exact ⟨hb.os.trans hd.os, hb.tape.trans hd.tape, hb.output.trans hd.output, Nat.le_trans hd.size hb.size, fun i hi hne => (hb.block i (Nat.lt_of_lt_of_le hi hd.size)).trans (hd.block i hi hne)⟩
/-- rules of so many parts -/
def RulesOf (parts : Int) (l : List Rule) : Prop := ∀ r ∈ l, r.1 ≤ parts

theorem rulesOf_add {parts : Int} {l : List Rule} {p f t : Int} (h : RulesOf parts l) (hp : p ≤ parts) : RulesOf parts (l ++ [(p, f, t)]) := fun r hr => by
  rcases List.mem_append.1 hr with h' | h'
  · exact h r h'
  · simp at h'
    subst h'
    exact hp

set_option maxRecDepth 100000 in
set_option maxHeartbeats 4000000 in
theorem rulesD (C B : Nat) (a : Option Addr) (len cap : Nat) (parts : Int) (p1 : 1 ≤ parts) (p4 : parts ≤ 4) (w : World) (hC : Cur w C a len cap) (hB : B ≤ C) (hcode : CodeOk w B a len) :
    Calls Tryz.prog 81 #[.pointer (some ⟨C, 0, none⟩), .int .i64 parts] w fun e w' => ∃ (v : Value) (n : Nat) (l : List Rule), e = .returned v ∧ RulesR l ∧ RulesOf parts l ∧ OwnU w' w.heap.size v n l ∧ Drawn w w' C B a len cap := by
  have hlt := cur_lt hC
  have HD0 : Hid (Drawn w (w.alloc (.cells #[] 54)) C B a len cap) := drawn_alloc ⟨hC, hcode, World.grownBy.refl _ _⟩ (by omega) _
  have HO0 : Hid (OwnU _ _ _ _ _) := ownU_empty w w.heap.size w.heap.size rfl (Nat.le_refl _)
  clear hC hcode
  go_enter Tryz.func81, Tryz.ntmps81
  go_wp2
  go_loopg [5, 6] 5 (fun gk v iv wr => ∃ (i g n c : Nat) (l : List Rule), i + gk = 5 ∧ iv = .int .i64 i ∧ v = .slice (some ⟨g, 0, none⟩) n c ∧ n ≤ i ∧ Hid (RulesR l ∧ RulesOf parts l) ∧ Hid (OwnU wr w.heap.size (.slice (some ⟨g, 0, none⟩) n c) n l) ∧ Hid (Drawn w wr C B a len cap))
  case atStart => exact ⟨0, w.heap.size, 0, 0, [], by omega, rfl, rfl, by omega, ⟨⟨fun i h => by simp at h, by simp⟩, fun r h => by cases h⟩, HO0, HD0⟩
  case round =>
    clear HD0 HO0
    obtain ⟨i, g, n, c, l, hi5, rfl, rfl, hni, HA, HO, HD⟩ := hrel
    go_wp2_with fail
    refine (below28 C B a len cap 6 (by omega) (by omega) _ HD.out.1 hB HD.out.2.1).mono ?_
    rintro e w2 ⟨x, rfl, x0, x1, hD⟩
    have HD2 : Hid (Drawn w w2 C B a len cap) := drawn_trans HD.out hD
    have HO2 : Hid (OwnU w2 w.heap.size (.slice (some ⟨g, 0, none⟩) n c) n l) := own_gr HO.out hD.2.2 hlt
    clear hD HD HO
    by_cases hx : (i : Int) < x
    · go_wp2_with fail
      refine (below28 C B a len cap parts (by omega) (by omega) _ HD2.out.1 hB HD2.out.2.1).mono ?_
      rintro e w3 ⟨y, rfl, y0, y1, hD⟩
      have HD3 : Hid (Drawn w w3 C B a len cap) := drawn_trans HD2.out hD
      have HO3 : Hid (OwnU w3 w.heap.size (.slice (some ⟨g, 0, none⟩) n c) n l) := own_gr HO2.out hD.2.2 hlt
      clear hD HD2 HO2
      go_wp2_with fail
      refine (below28 C B a len cap 2 (by omega) (by omega) _ HD3.out.1 hB HD3.out.2.1).mono ?_
      rintro e w4 ⟨z, rfl, z0, z1, hD⟩
      have HD4 : Hid (Drawn w w4 C B a len cap) := drawn_trans HD3.out hD
      have HO4 : Hid (OwnU w4 w.heap.size (.slice (some ⟨g, 0, none⟩) n c) n l) := own_gr HO3.out hD.2.2 hlt
      clear hD HD3 HO3
      go_wp2_with fail
      refine (below28 C B a len cap 3 (by omega) (by omega) _ HD4.out.1 hB HD4.out.2.1).mono ?_
      rintro e w5 ⟨u, rfl, u0, u1, hD⟩
      have HD5 : Hid (Drawn w w5 C B a len cap) := drawn_trans HD4.out hD
      have HO5 : Hid (OwnU w5 w.heap.size (.slice (some ⟨g, 0, none⟩) n c) n l) := own_gr HO4.out hD.2.2 hlt
      have s5 := HD5.out.2.2.size
      have g5 : g < w5.heap.size := own_lt HO5.out g rfl
      have gB : w.heap.size ≤ g := own_ge HO5.out g rfl
      clear hD HD4 HO4
      obtain ⟨pp, hpp⟩ : ∃ pp, 1 + y = pp := ⟨_, rfl⟩
      obtain ⟨ff, hff⟩ : ∃ ff, 1 + z = ff := ⟨_, rfl⟩
      obtain ⟨aa, haa⟩ : ∃ aa, 1 + u = aa := ⟨_, rfl⟩
      have HP : Hid (pp ≤ parts) := by show pp ≤ parts; omega
      have HS5 : Hid (DU w (w5.alloc (.cells #[.int .i64 pp, .int .i64 ff, .int .i64 aa] 54)) C B a len cap g n c l w5.heap.size pp ff aa) :=
        ⟨drawn_alloc HD5.out (by omega) _, World.ownsRow.alloc HO5.out _, heap_new w5 _, hlt, hB, s5, by omega⟩
      clear HD5 HO5
      go_wp2_with fail
      refine (P.onceR C B a len cap 8 (by omega) (by omega) _ HS5.out.d.1 hB HS5.out.d.2.1).mono ?_
      rintro e w6 ⟨bo, rfl, hD⟩
      have HS6 : Hid (DU w w6 C B a len cap g n c l w5.heap.size pp ff aa) := HS5.out.on hD
      clear hD HS5
      have k6 := row3_cells HS6.out.row
      cases bo
      · go_wp2_with fail
        obtain ⟨wE, hE⟩ : ∃ wE, wE = w6 := ⟨_, rfl⟩
        have HS : Hid (DU w wE C B a len cap g n c l w5.heap.size pp ff aa) := by rw [hE]; exact HS6.out
        rw [← hE]
        clear hE HS6 k6
        have sE := HS.out.d.2.2.size
        have HN8 : Hid (n ≤ 8) := by show n ≤ 8; omega
        have gE : g < wE.heap.size := own_lt HS.out.o g rfl
        have kE : w5.heap.size < wE.heap.size := row_lt HS.out.row
        have HG1 : Hid (w.heap.size ≤ wE.heap.size ∧ wE.heap.size ≠ g ∧ wE.heap.size ≠ w5.heap.size) := by refine ⟨?_, ?_, ?_⟩ <;> omega
        have HG2 : Hid (w.heap.size ≤ wE.heap.size + 1 ∧ wE.heap.size + 1 ≠ g ∧ wE.heap.size + 1 ≠ w5.heap.size) := by refine ⟨?_, ?_, ?_⟩ <;> omega
        obtain ⟨b2, hb2⟩ := rules_bool (l ++ [(pp, ff, aa)])
        have HB2 : Hid (b2 = true ↔ RulesR (l ++ [(pp, ff, aa)])) := hb2
        have HOf : Hid (RulesOf parts (l ++ [(pp, ff, aa)])) := rulesOf_add HA.out.2 HP.out
        clear hb2 HP
        go_region_held3 (fun w' => w'.cell? ⟨w5.heap.size, 0, none⟩ = some (.int .i64 pp) ∧ w'.cell? ⟨w5.heap.size, 1, none⟩ = some (.int .i64 ff) ∧ w'.cell? ⟨w5.heap.size, 2, none⟩ = some (.int .i64 aa) ∧ DU w w' C B a len cap g n c l w5.heap.size pp ff aa)
          (first | (with_reducible exact DU.conj HZ.out) | (with_reducible exact DU.conj HS.out.drew) | (refine DU.conj (DU.al (du_of (by assumption)) _)))
          (first
            | (refine appU1 rfl (.tmp 30) (.tmp 31) rfl w.heap.size wE.heap.size g n c wE.heap.size l rfl rfl (by first | exact ownU_empty wE.drew w.heap.size wE.heap.size rfl sE | exact World.ownsRow.alloc (ownU_empty wE.drew w.heap.size wE.heap.size rfl sE) _) (du_of (by assumption)).o HN8.out (du_of (by assumption)).d.2.2.size (by simp; try omega) (by omega) ?_; intro g7 c7 w7 hown7 hgr7 hg7; have HG3 : Hid (w.heap.size ≤ g7 ∧ g7 ≠ g ∧ g7 ≠ w5.heap.size) := (by refine ⟨?_, ?_, ?_⟩ <;> omega); have HZ : Hid (DU w w7 C B a len cap g n c l w5.heap.size pp ff aa) := (du_of (by assumption)).gr hgr7 (fun b hb => by cases hb; exact HG1.out); have HO7 : Hid (OwnU w7 w.heap.size (.slice (some ⟨g7, 0, none⟩) n c7) n l) := hown7; (first | (have HR7 : Hid (w7.heap[wE.heap.size + 1]? = some (.cells #[.int .i64 pp, .int .i64 ff, .int .i64 aa] 54)) := grown_row hgr7 (rowB3 _ _ _) (by simp)) | skip))
            | (refine appU1 rfl (.tmp 30) (.tmp 31) rfl w.heap.size (wE.heap.size + 1) g n c wE.heap.size l rfl rfl (ownU_empty (wE.drew.alloc _) w.heap.size (wE.heap.size + 1) (by simp) (by simp; omega)) (du_of (by assumption)).o HN8.out (du_of (by assumption)).d.2.2.size (by simp; try omega) (by omega) ?_; intro g7 c7 w7 hown7 hgr7 hg7; have HG3 : Hid (w.heap.size ≤ g7 ∧ g7 ≠ g ∧ g7 ≠ w5.heap.size) := (by refine ⟨?_, ?_, ?_⟩ <;> omega); have HZ : Hid (DU w w7 C B a len cap g n c l w5.heap.size pp ff aa) := (du_of (by assumption)).gr hgr7 (fun b hb => by cases hb; exact HG2.out); have HO7 : Hid (OwnU w7 w.heap.size (.slice (some ⟨g7, 0, none⟩) n c7) n l) := hown7; have HR7 : Hid (w7.heap[wE.heap.size]? = some (.cells #[.int .i64 pp, .int .i64 ff, .int .i64 aa] 54)) := grown_row hgr7 (rowA3 _ _ _) (by simp))
            | (first
                | (refine appU2 rfl (.tmp 32) (.tmp 34) rfl w.heap.size wE.heap.size n c7 (some ⟨g7, 0, none⟩) pp ff aa l rfl rfl HO7.out HR7.out HN8.out (du_of (by assumption)).d.2.2.size ?_)
                | (refine appU2 rfl (.tmp 32) (.tmp 34) rfl w.heap.size (wE.heap.size + 1) n c7 (some ⟨g7, 0, none⟩) pp ff aa l rfl rfl HO7.out HR7.out HN8.out (du_of (by assumption)).d.2.2.size ?_)
                | (refine appU2 rfl (.tmp 32) (.tmp 34) rfl w.heap.size w7.heap.size n c7 (some ⟨g7, 0, none⟩) pp ff aa l rfl rfl (World.ownsRow.alloc HO7.out _) (heap_new w7 _) HN8.out (du_of (by assumption)).d.2.2.size ?_)
               intro g8 c8 w8 hown8 hgr8
               have HO8 : Hid (OwnU w8 w.heap.size (.slice (some ⟨g8, 0, none⟩) (n + 1) c8) (n + 1) (l ++ [(pp, ff, aa)])) := hown8
               have HZ : Hid (DU w w8 C B a len cap g n c l w5.heap.size pp ff aa) := (du_of (by assumption)).gr hgr8 (fun b hb => by cases hb; exact HG3.out)
               clear hown8 hgr8))
        all_goals clear HS HG1 HG2
        all_goals (try clear HG3 HO7)
        all_goals (try clear HR7)
        all_goals
          go_wp2_with fail
          refine (rulesS (some ⟨g8, 0, none⟩) (l ++ [(pp, ff, aa)]) (n + 1) c8 b2 HO8.out.len (by omega) HB2.out _ HO8.out.rd).mono ?_
          rintro e w9 ⟨rfl, hb9⟩
          have HD9 : Hid (Drawn w w9 C B a len cap) := drawn_bel HZ.out.d hb9 (by omega)
          have HO9 : Hid (OwnU w9 w.heap.size (.slice (some ⟨g8, 0, none⟩) (n + 1) c8) (n + 1) (l ++ [(pp, ff, aa)])) := own_keep HO8.out hb9 (own_lt HO8.out)
          have HP9 : Hid (OwnU w9 w.heap.size (.slice (some ⟨g, 0, none⟩) n c) n l) := own_keep HZ.out.o hb9 (own_lt HZ.out.o)
          clear hb9 HZ HO8
          cases b2
          · go_wp2
            go_roundg (gk - 1)
            case measure => omega
            case rel => exact ⟨i + 1, g, n, c, l, by omega, by go_num, rfl, by omega, HA, HP9, HD9⟩
          · go_wp2
            go_roundg (gk - 1)
            case measure => omega
            case rel => exact ⟨i + 1, g8, n + 1, c8, l ++ [(pp, ff, aa)], by omega, by go_num, rfl, by omega, ⟨(by first | exact HB2.out.1 rfl | exact HB2.out.1 trivial), HOf.out⟩, HO9, HD9⟩
      · go_wp2_with fail
        obtain ⟨wE, hE⟩ : ∃ wE, wE = (w6.setCell ⟨w5.heap.size, 2, none⟩ (.int .i64 4)) := ⟨_, rfl⟩
        have HS : Hid (DU w wE C B a len cap g n c l w5.heap.size pp ff 4) := by rw [hE]; exact HS6.out.put2 4
        rw [← hE]
        clear hE HS6 k6
        have sE := HS.out.d.2.2.size
        have HN8 : Hid (n ≤ 8) := by show n ≤ 8; omega
        have gE : g < wE.heap.size := own_lt HS.out.o g rfl
        have kE : w5.heap.size < wE.heap.size := row_lt HS.out.row
        have HG1 : Hid (w.heap.size ≤ wE.heap.size ∧ wE.heap.size ≠ g ∧ wE.heap.size ≠ w5.heap.size) := by refine ⟨?_, ?_, ?_⟩ <;> omega
        have HG2 : Hid (w.heap.size ≤ wE.heap.size + 1 ∧ wE.heap.size + 1 ≠ g ∧ wE.heap.size + 1 ≠ w5.heap.size) := by refine ⟨?_, ?_, ?_⟩ <;> omega
        obtain ⟨b2, hb2⟩ := rules_bool (l ++ [(pp, ff, 4)])
        have HB2 : Hid (b2 = true ↔ RulesR (l ++ [(pp, ff, 4)])) := hb2
        have HOf : Hid (RulesOf parts (l ++ [(pp, ff, 4)])) := rulesOf_add HA.out.2 HP.out
        clear hb2 HP
        go_region_held3 (fun w' => w'.cell? ⟨w5.heap.size, 0, none⟩ = some (.int .i64 pp) ∧ w'.cell? ⟨w5.heap.size, 1, none⟩ = some (.int .i64 ff) ∧ w'.cell? ⟨w5.heap.size, 2, none⟩ = some (.int .i64 4) ∧ DU w w' C B a len cap g n c l w5.heap.size pp ff 4)
          (first | (with_reducible exact DU.conj HZ.out) | (with_reducible exact DU.conj HS.out.drew) | (refine DU.conj (DU.al (du_of (by assumption)) _)))
          (first
            | (refine appU1 rfl (.tmp 30) (.tmp 31) rfl w.heap.size wE.heap.size g n c wE.heap.size l rfl rfl (by first | exact ownU_empty wE.drew w.heap.size wE.heap.size rfl sE | exact World.ownsRow.alloc (ownU_empty wE.drew w.heap.size wE.heap.size rfl sE) _) (du_of (by assumption)).o HN8.out (du_of (by assumption)).d.2.2.size (by simp; try omega) (by omega) ?_; intro g7 c7 w7 hown7 hgr7 hg7; have HG3 : Hid (w.heap.size ≤ g7 ∧ g7 ≠ g ∧ g7 ≠ w5.heap.size) := (by refine ⟨?_, ?_, ?_⟩ <;> omega); have HZ : Hid (DU w w7 C B a len cap g n c l w5.heap.size pp ff 4) := (du_of (by assumption)).gr hgr7 (fun b hb => by cases hb; exact HG1.out); have HO7 : Hid (OwnU w7 w.heap.size (.slice (some ⟨g7, 0, none⟩) n c7) n l) := hown7; (first | (have HR7 : Hid (w7.heap[wE.heap.size + 1]? = some (.cells #[.int .i64 pp, .int .i64 ff, .int .i64 4] 54)) := grown_row hgr7 (rowB3 _ _ _) (by simp)) | skip))
            | (refine appU1 rfl (.tmp 30) (.tmp 31) rfl w.heap.size (wE.heap.size + 1) g n c wE.heap.size l rfl rfl (ownU_empty (wE.drew.alloc _) w.heap.size (wE.heap.size + 1) (by simp) (by simp; omega)) (du_of (by assumption)).o HN8.out (du_of (by assumption)).d.2.2.size (by simp; try omega) (by omega) ?_; intro g7 c7 w7 hown7 hgr7 hg7; have HG3 : Hid (w.heap.size ≤ g7 ∧ g7 ≠ g ∧ g7 ≠ w5.heap.size) := (by refine ⟨?_, ?_, ?_⟩ <;> omega); have HZ : Hid (DU w w7 C B a len cap g n c l w5.heap.size pp ff 4) := (du_of (by assumption)).gr hgr7 (fun b hb => by cases hb; exact HG2.out); have HO7 : Hid (OwnU w7 w.heap.size (.slice (some ⟨g7, 0, none⟩) n c7) n l) := hown7; have HR7 : Hid (w7.heap[wE.heap.size]? = some (.cells #[.int .i64 pp, .int .i64 ff, .int .i64 4] 54)) := grown_row hgr7 (rowA3 _ _ _) (by simp))
            | (first
                | (refine appU2 rfl (.tmp 32) (.tmp 34) rfl w.heap.size wE.heap.size n c7 (some ⟨g7, 0, none⟩) pp ff 4 l rfl rfl HO7.out HR7.out HN8.out (du_of (by assumption)).d.2.2.size ?_)
                | (refine appU2 rfl (.tmp 32) (.tmp 34) rfl w.heap.size (wE.heap.size + 1) n c7 (some ⟨g7, 0, none⟩) pp ff 4 l rfl rfl HO7.out HR7.out HN8.out (du_of (by assumption)).d.2.2.size ?_)
                | (refine appU2 rfl (.tmp 32) (.tmp 34) rfl w.heap.size w7.heap.size n c7 (some ⟨g7, 0, none⟩) pp ff 4 l rfl rfl (World.ownsRow.alloc HO7.out _) (heap_new w7 _) HN8.out (du_of (by assumption)).d.2.2.size ?_)
               intro g8 c8 w8 hown8 hgr8
               have HO8 : Hid (OwnU w8 w.heap.size (.slice (some ⟨g8, 0, none⟩) (n + 1) c8) (n + 1) (l ++ [(pp, ff, 4)])) := hown8
               have HZ : Hid (DU w w8 C B a len cap g n c l w5.heap.size pp ff 4) := (du_of (by assumption)).gr hgr8 (fun b hb => by cases hb; exact HG3.out)
               clear hown8 hgr8))
        all_goals clear HS HG1 HG2
        all_goals (try clear HG3 HO7)
        all_goals (try clear HR7)
        all_goals
          go_wp2_with fail
          refine (rulesS (some ⟨g8, 0, none⟩) (l ++ [(pp, ff, 4)]) (n + 1) c8 b2 HO8.out.len (by omega) HB2.out _ HO8.out.rd).mono ?_
          rintro e w9 ⟨rfl, hb9⟩
          have HD9 : Hid (Drawn w w9 C B a len cap) := drawn_bel HZ.out.d hb9 (by omega)
          have HO9 : Hid (OwnU w9 w.heap.size (.slice (some ⟨g8, 0, none⟩) (n + 1) c8) (n + 1) (l ++ [(pp, ff, 4)])) := own_keep HO8.out hb9 (own_lt HO8.out)
          have HP9 : Hid (OwnU w9 w.heap.size (.slice (some ⟨g, 0, none⟩) n c) n l) := own_keep HZ.out.o hb9 (own_lt HZ.out.o)
          clear hb9 HZ HO8
          cases b2
          · go_wp2
            go_roundg (gk - 1)
            case measure => omega
            case rel => exact ⟨i + 1, g, n, c, l, by omega, by go_num, rfl, by omega, HA, HP9, HD9⟩
          · go_wp2
            go_roundg (gk - 1)
            case measure => omega
            case rel => exact ⟨i + 1, g8, n + 1, c8, l ++ [(pp, ff, 4)], by omega, by go_num, rfl, by omega, ⟨(by first | exact HB2.out.1 rfl | exact HB2.out.1 trivial), HOf.out⟩, HO9, HD9⟩
    · go_wp2
      go_ret
      exact ⟨_, n, l, rfl, HA.out.1, HA.out.2, HO2.out, HD2.out⟩
end Go.Proofs.YtadbekhekggpkaaGreatDoor

namespace Go.Proofs.YtadbekhekggpkaaGreatDoor.R
open Go.RowKit Go.PlainAid
set_option linter.unusedVariables false

theorem own_shape {w : World} {B e z n : Nat} {v : Value} {xs : List Value} (h : w.ownsRow B e z v n xs) : ∃ a cap, v = .slice a n cap := by
  rcases h.2 with ⟨rfl, e⟩ | ⟨g, cap, cur, rfl, _⟩
  · exact ⟨none, 0, by rw [e]⟩
  · exact ⟨_, cap, rfl⟩
theorem grown_row {w w' : World} {r : Option Nat} {k : Nat} {o : Obj} (hg : w.grownBy w' r) (h : w.heap[k]? = some o) (hne : r ≠ some k) : w'.heap[k]? = some o :=
  (hg.block k (row_lt h) (fun e => hne e.symm)).trans h
/-- regions one behind the other, all ahead of F -/
def Asc (rl : List (Int × Int)) (F : Int) : Prop := (∀ i (h : i < rl.length), regIn rl[i].1 rl[i].2 ∧ rl[i].1 + rl[i].2 ≤ F) ∧ ∀ i (h : i < rl.length) k (hk : k < i), (rl[k]'(by omega)).1 + (rl[k]'(by omega)).2 ≤ rl[i].1
theorem asc_nil (F : Int) : Asc [] F := ⟨fun i h => by simp at h, fun i h => by simp at h⟩
theorem asc_mono {rl : List (Int × Int)} {F G : Int} (h : Asc rl F) (hG : F ≤ G) : Asc rl G := ⟨fun i hi => ⟨(h.1 i hi).1, by have := (h.1 i hi).2; omega⟩, h.2⟩
theorem asc_add {rl : List (Int × Int)} {F s : Int} (h : Asc rl F) (hr : regIn F s) : Asc (rl ++ [(F, s)]) (F + s) := by
  have hs : 1 ≤ s := hr.2.2.1
  refine ⟨fun i hi => ?_, fun i hi k hk => ?_⟩
  · by_cases e : i < rl.length
    · rw [List.getElem_append_left e]
      exact ⟨(h.1 i e).1, by have := (h.1 i e).2; omega⟩
    · have : i = rl.length := by simp at hi; omega
      subst this
      simp
      exact hr
  · have hk' : k < rl.length := by simp at hi; omega
    rw [List.getElem_append_left hk']
    by_cases e : i < rl.length
    · rw [List.getElem_append_left e]
      exact h.2 i e k hk
    · have : i = rl.length := by simp at hi; omega
      subst this
      simp
      exact (h.1 k hk').2
theorem asc_ok {rl : List (Int × Int)} {F : Int} (h : Asc rl F) (h1 : 1 ≤ rl.length) (h4 : rl.length ≤ 4) : RegsOk rl :=
  ⟨h1, h4, fun i hi => (h.1 i hi).1, fun i hi k hk => .inr (h.2 i hi k hk)⟩

theorem row_drawn {W W' : World} {k C : Nat} {o : Obj} (h : W.heap[k]? = some o) (hg : W.grownBy W' (some C)) (hk : k ≠ C) : W'.heap[k]? = some o :=
  (hg.block k (row_lt h) (fun e => by cases e; exact hk rfl)).trans h
/-- what is appended to new memory, behind a draw -/
theorem drawn_grown {w W W' : World} {C B : Nat} {a : Option Addr} {len cap : Nat} {v : Value} (h : Drawn w W C B a len cap) (hg : W.grownBy W' v.ownBlock) (hv : ∀ g, v.ownBlock = some g → w.heap.size ≤ g) (hC : C < w.heap.size) (hB : B ≤ w.heap.size) : Drawn w W' C B a len cap :=
  ⟨cur_new (B := B) h.1 hg (fun g e => by have := hv g e; omega), code_below h.2.1 ((Below.refl _ _).grown hg (Nat.le_trans hB h.2.2.size) (fun g e => by have := hv g e; omega)), grown_new h.2.2 hg hv⟩

theorem drawn_drew {w W : World} {C B : Nat} {a : Option Addr} {len cap : Nat} (h : Drawn w W C B a len cap) : Drawn w W.drew C B a len cap :=
  ⟨h.1, h.2.1, ⟨h.2.2.os, h.2.2.tape, h.2.2.output, h.2.2.size, h.2.2.block⟩⟩
/-- what stands while a next region is drawn -/
def DS (w W : World) (C B : Nat) (a : Option Addr) (len cap : Nat) (v : Value) (rl : List (Int × Int)) (k : Nat) (x y : Value) : Prop := Drawn w W C B a len cap ∧ W.ownsRow w.heap.size 48 2 v rl.length (regsV rl) ∧ W.heap[k]? = some (.cells #[x, y] 48) ∧ C < w.heap.size ∧ w.heap.size ≤ k
theorem ds_conj {w W : World} {C B : Nat} {a : Option Addr} {len cap : Nat} {v : Value} {rl : List (Int × Int)} {k : Nat} {x y : Value} (h : DS w W C B a len cap v rl k x y) : W.cell? ⟨k, 0, none⟩ = some x ∧ W.cell? ⟨k, 1, none⟩ = some y ∧ DS w W C B a len cap v rl k x y :=
  ⟨(row2_cells h.2.2.1).1, (row2_cells h.2.2.1).2.1, h⟩
theorem DS.on {w W W' : World} {C B : Nat} {a : Option Addr} {len cap : Nat} {v : Value} {rl : List (Int × Int)} {k : Nat} {x y : Value} (h : DS w W C B a len cap v rl k x y) (hD : Drawn W W' C B a len cap) : DS w W' C B a len cap v rl k x y :=
  ⟨drawn_trans h.1 hD, own_gr h.2.1 hD.2.2 h.2.2.2.1, row_drawn h.2.2.1 hD.2.2 (by have := h.2.2.2.1; have := h.2.2.2.2; omega), h.2.2.2.1, h.2.2.2.2⟩
theorem DS.drew {w W : World} {C B : Nat} {a : Option Addr} {len cap : Nat} {v : Value} {rl : List (Int × Int)} {k : Nat} {x y : Value} (h : DS w W C B a len cap v rl k x y) : DS w W.drew C B a len cap v rl k x y := ⟨drawn_drew h.1, h.2⟩
theorem ds_keep {w W W' : World} {C B : Nat} {a : Option Addr} {len cap : Nat} {v : Value} {rl : List (Int × Int)} {k : Nat} {x y : Value} (hD : Drawn W W' C B a len cap) (h : W.cell? ⟨k, 0, none⟩ = some x ∧ W.cell? ⟨k, 1, none⟩ = some y ∧ DS w W C B a len cap v rl k x y) : W'.cell? ⟨k, 0, none⟩ = some x ∧ W'.cell? ⟨k, 1, none⟩ = some y ∧ DS w W' C B a len cap v rl k x y := ds_conj (h.2.2.on hD)
theorem ds_cur {w W : World} {C B : Nat} {a : Option Addr} {len cap : Nat} {v : Value} {rl : List (Int × Int)} {k : Nat} {x y : Value} (h : W.cell? ⟨k, 0, none⟩ = some x ∧ W.cell? ⟨k, 1, none⟩ = some y ∧ DS w W C B a len cap v rl k x y) : Cur W C a len cap ∧ CodeOk W B a len := ⟨h.2.2.1.1, h.2.2.1.2.1⟩

set_option maxRecDepth 100000 in
set_option maxHeartbeats 2000000 in
theorem regions (C B : Nat) (a : Option Addr) (len cap : Nat) (w : World) (hC : Cur w C a len cap) (hB : B ≤ C) (hcode : CodeOk w B a len) :
    Calls Tryz.prog 79 #[.pointer (some ⟨C, 0, none⟩)] w fun e w' => ∃ (v : Value) (rl : List (Int × Int)), e = .returned v ∧ RegsOk rl ∧ w'.ownsRow w.heap.size 48 2 v rl.length (regsV rl) ∧ Drawn w w' C B a len cap := by
  obtain ⟨i0, hi, hz0, hz1, hz2⟩ := info_parts infoR
  have hlt := cur_lt hC
  have HD0 : Hid (Drawn w (w.alloc (.cells #[] 48)) C B a len cap) := drawn_alloc ⟨hC, hcode, World.grownBy.refl _ _⟩ (by omega) _
  have HO0 : Hid (World.ownsRow _ _ _ _ _ _ _) := own_emptyR w w.heap.size (Nat.le_refl _)
  clear hC hcode
  go_enter Tryz.func79, Tryz.ntmps79
  go_wp2_with fail
  refine (below28 C B a len cap 6 (by omega) (by omega) _ HD0.out.1 hB HD0.out.2.1).mono ?_
  rintro e w1 ⟨F0, rfl, f0, f1, hD⟩
  have HD1 : Hid (Drawn w w1 C B a len cap) := drawn_trans HD0.out hD
  have HO1 : Hid (w1.ownsRow w.heap.size 48 2 (.slice (some ⟨w.heap.size, 0, none⟩) 0 0) 0 (regsV [])) := own_gr HO0.out hD.2.2 hlt
  clear hD HD0 HO0
  go_wp2
  go_loopg [3, 4, 5] 4 (fun gk v fv iv wr => ∃ (i c : Nat) (F : Int) (rl : List (Int × Int)) (q : Option Addr), i + gk = 4 ∧ iv = .int .i64 i ∧ fv = .int .i64 F ∧ 0 ≤ F ∧ F ≤ 5 + 16 * i ∧ v = .slice q rl.length c ∧ rl.length ≤ i ∧ Hid (1 ≤ i → 1 ≤ rl.length) ∧ Hid (Asc rl F) ∧ Hid (wr.ownsRow w.heap.size 48 2 (.slice q rl.length c) rl.length (regsV rl)) ∧ Hid (Drawn w wr C B a len cap))
  case atStart => exact ⟨0, 0, F0, [], some ⟨w.heap.size, 0, none⟩, by omega, rfl, rfl, f0, by omega, rfl, by simp, (fun h => by omega), asc_nil _, HO1, HD1⟩
  case round =>
    clear HD1 HO1
    obtain ⟨i, c, F, rl, q, hi4, rfl, rfl, hF0, hF1, rfl, hrl, H1, HA, HO, HD⟩ := hrel
    go_wp2_with fail
    refine (below28 C B a len cap 4 (by omega) (by omega) _ HD.out.1 hB HD.out.2.1).mono ?_
    rintro e w2 ⟨x, rfl, x0, x1, hD⟩
    have HD2 : Hid (Drawn w w2 C B a len cap) := drawn_trans HD.out hD
    have HO2 : Hid (w2.ownsRow w.heap.size 48 2 (.slice q rl.length c) rl.length (regsV rl)) := own_gr HO.out hD.2.2 hlt
    clear hD HD HO
    by_cases hx : (i : Int) < 1 + x
    · have hi3 : i ≤ 3 := by omega
      go_wp2_with fail
      refine (below28 C B a len cap 14 (by omega) (by omega) _ HD2.out.1 hB HD2.out.2.1).mono ?_
      rintro e w3 ⟨y, rfl, y0, y1, hD⟩
      have HD3 : Hid (Drawn w w3 C B a len cap) := drawn_trans HD2.out hD
      have HO3 : Hid (w3.ownsRow w.heap.size 48 2 (.slice q rl.length c) rl.length (regsV rl)) := own_gr HO2.out hD.2.2 hlt
      have s3 := HD3.out.2.2.size
      clear hD HD2 HO2
      have HDa : Hid (Drawn w (w3.alloc (.cells #[.int .i64 F, .int .i64 (1 + y)] 48)) C B a len cap) := drawn_alloc HD3.out (by omega) _
      have HOa : Hid ((w3.alloc (.cells #[.int .i64 F, .int .i64 (1 + y)] 48)).ownsRow w.heap.size 48 2 (.slice q rl.length c) rl.length (regsV rl)) := HO3.out.alloc _
      have HBa : Hid ((w3.alloc (.cells #[.int .i64 F, .int .i64 (1 + y)] 48)).heap[w3.heap.size]? = _) := heap_new w3 _
      have HQ : Hid (∀ g, (Value.slice q rl.length c).ownBlock = some g → g < w3.heap.size) := own_lt HO3.out
      clear HD3 HO3
      by_cases hfit : F + (1 + y) ≤ 64
      · have HA' : Hid (Asc (rl ++ [(F, 1 + y)]) (F + (1 + y))) := asc_add HA.out ⟨hF0, by omega, by omega, by omega⟩
        have hown := HOa.out.alloc (.cells #[.int .i64 F, .int .i64 (1 + y)] 48)
        go_wp2_with (at_builtin; refine wpList_append_own _ rfl _ _ 24 rfl w.heap.size 48 i0 (.agg #[.int .i64 0, .int .i64 0]) 2 16 Tryz.underlying24 hi hz0 hz1 hz2 rfl (by decide) _ _ _ rfl hown ⟨w3.heap.size + 1, 0, none⟩ 1 1 [.int .i64 F, .int .i64 (1 + y)] rfl rfl ?c1 ?c2 ?c3 ?c4 ?c5 ?_)
        case c1 => exact two_cellR _ _ _ _ (by simp)
        case c2 => intro u hu; simp at hu; rcases hu with rfl | rfl <;> rfl
        case c3 => unfold maxLen; omega
        case c4 => omega
        case c5 => simp; omega
        intro v' w5 hown5 hgrow _
        have HD5 : Hid (Drawn w w5 C B a len cap) := drawn_grown (drawn_alloc HDa.out (by simp; omega) _) hgrow (own_ge HOa.out) hlt (by omega)
        have HB5 : Hid (w5.heap[w3.heap.size]? = some (.cells #[.int .i64 F, .int .i64 (1 + y)] 48)) := grown_row hgrow ((Below.heap_alloc _ _ _ (by simp)).trans HBa.out) (fun e => by have := HQ.out _ e; omega)
        obtain ⟨q', c', hv⟩ := own_shape hown5
        subst hv
        have HL5 : Hid ((rl ++ [(F, 1 + y)]).length = rl.length + 1) := by show _ = _; simp
        have HO5 : Hid (w5.ownsRow w.heap.size 48 2 (.slice q' (rl ++ [(F, 1 + y)]).length c') (rl ++ [(F, 1 + y)]).length (regsV (rl ++ [(F, 1 + y)]))) := by
          rw [HL5.out, regsV_append]
          exact hown5
        have HS : Hid (DS w w5 C B a len cap (.slice q' (rl ++ [(F, 1 + y)]).length c') (rl ++ [(F, 1 + y)]) w3.heap.size (.int .i64 F) (.int .i64 (1 + y))) := ⟨HD5.out, HO5.out, HB5.out, hlt, s3⟩
        obtain ⟨G, q1, HG⟩ : ∃ G, IntKind.i64.wrap (F + (1 + y)) = G ∧ Hid (G = F + (1 + y)) := ⟨F + (1 + y), wrap_in (by omega) (by omega), rfl⟩
        have hG0 : 0 ≤ G := by have := HG.out; omega
        have hG1 : G ≤ 64 := by have := HG.out; omega
        have hG2 : G ≤ 5 + 16 * i + 14 := by have := HG.out; omega
        clear hown hown5 hgrow HD5 HB5 HO5 HDa HOa HBa
        go_wp2_with fail
        go_region_held3 (fun w' => w'.cell? ⟨w3.heap.size, 0, none⟩ = some (.int .i64 F) ∧ w'.cell? ⟨w3.heap.size, 1, none⟩ = some (.int .i64 (1 + y)) ∧ DS w w' C B a len cap (.slice q' (rl ++ [(F, 1 + y)]).length c') (rl ++ [(F, 1 + y)]) w3.heap.size (.int .i64 F) (.int .i64 (1 + y))) (first | (refine ds_keep (by assumption) ?_; assumption) | (exact ds_conj HS.out.drew)) (first | (go_at_call 50; refine (below28 C B a len cap 3 (by omega) (by omega) _ ?_ hB ?_).mono ?_; (exact (ds_cur (by assumption)).1); (exact (ds_cur (by assumption)).2); rintro e w6 ⟨z, rfl, z0, z1, hD⟩; have q2 : IntKind.i64.wrap (G + z) = G + z := wrap_in (by omega) (by omega)))
        rename_i HH
        have HS6 : Hid (DS _ _ _ _ _ _ _ _ _ _ _ _) := HH.2.2
        clear HH hD HS
        go_wp2
        go_roundg (gk - 1)
        case measure => omega
        case rel => exact ⟨i + 1, c', G + z, rl ++ [(F, 1 + y)], q', by omega, by go_num, rfl, by omega, by omega, by rw [HL5.out], by rw [HL5.out]; omega, (fun _ => by rw [HL5.out]; omega), asc_mono HA'.out (by have := HG.out; omega), HS6.out.2.1, HS6.out.1⟩
      · have HN1 : Hid (1 ≤ rl.length) := H1.out (by omega)
        have HS : Hid (DS w _ C B a len cap (.slice q rl.length c) rl w3.heap.size (.int .i64 F) (.int .i64 (1 + y))) := ⟨HDa.out, HOa.out, HBa.out, hlt, s3⟩
        obtain ⟨G, q1, HG⟩ : ∃ G, IntKind.i64.wrap (F + (1 + y)) = G ∧ Hid (G = F + (1 + y)) := ⟨F + (1 + y), wrap_in (by omega) (by omega), rfl⟩
        have hG0 : 0 ≤ G := by have := HG.out; omega
        have hG1 : G ≤ 100 := by have := HG.out; omega
        have hGf : ¬ G ≤ 64 := by have := HG.out; omega
        have hG2 : G ≤ 5 + 16 * i + 14 := by have := HG.out; omega
        clear HDa HOa HBa
        go_wp2_with fail
        go_region_held3 (fun w' => w'.cell? ⟨w3.heap.size, 0, none⟩ = some (.int .i64 F) ∧ w'.cell? ⟨w3.heap.size, 1, none⟩ = some (.int .i64 (1 + y)) ∧ DS w w' C B a len cap (.slice q rl.length c) rl w3.heap.size (.int .i64 F) (.int .i64 (1 + y))) (first | (refine ds_keep (by assumption) ?_; assumption) | (exact ds_conj HS.out.drew)) (first | (go_at_call 50; refine (below28 C B a len cap 3 (by omega) (by omega) _ ?_ hB ?_).mono ?_; (exact (ds_cur (by assumption)).1); (exact (ds_cur (by assumption)).2); rintro e w6 ⟨z, rfl, z0, z1, hD⟩; have q2 : IntKind.i64.wrap (G + z) = G + z := wrap_in (by omega) (by omega)))
        rename_i HH
        have HS6 : Hid (DS _ _ _ _ _ _ _ _ _ _ _ _) := HH.2.2
        clear HH hD HS
        go_wp2
        go_roundg (gk - 1)
        case measure => omega
        case rel => exact ⟨i + 1, c, G + z, rl, q, by omega, by go_num, rfl, by omega, by omega, rfl, by omega, (fun _ => HN1.out), asc_mono HA.out (by have := HG.out; omega), HS6.out.2.1, HS6.out.1⟩
    · have HK : Hid (RegsOk rl) := asc_ok HA.out (H1.out (by omega)) (by omega)
      go_wp2
      go_ret
      exact ⟨_, rl, rfl, HK.out, HO2.out, HD2.out⟩
end Go.Proofs.YtadbekhekggpkaaGreatDoor.R

namespace Go.Proofs.YtadbekhekggpkaaGreatDoor.I
open Go.RowKit Go.PlainAid
set_option linter.unusedVariables false

def bytesV (l : List UInt8) : List Value := l.map (fun b => Value.int .u8 (b.toNat : Int))

theorem info5 : (Tryz.prog.info? 5).map (fun i => (i.zero, i.size, i.bytes)) = some (some (.int .u8 0), 1, 1) := by kernel_rfl

theorem own_empty5 (w : World) : (w.alloc (.cells #[] 5)).ownsRow w.heap.size 5 1 (.slice (some ⟨w.heap.size, 0, none⟩) 0 0) 0 (bytesV []) :=
  ⟨rfl, Or.inr ⟨_, 0, #[], rfl, Nat.le_refl _, by show (w.heap.push _)[w.heap.size]? = _; simp, Nat.le_refl _, by decide, rfl, rfl⟩⟩

theorem two_cell5 (wr : World) (x y : Value) (a : Addr) (ha : a = ⟨wr.heap.size, 0, none⟩) : ∀ j u, [x, y][j]? = some u → (wr.alloc (.cells #[x, y] 5)).cell? (a.add j) = some u := by
  intro j u hj
  subst ha
  match j, hj with
  | 0, hj => simp at hj; subst hj; simp [Addr.add]
  | 1, hj => simp at hj; subst hj; simp [Addr.add]

theorem one_cell5 (wr : World) (x : Value) (a : Addr) (ha : a = ⟨wr.heap.size, 0, none⟩) : ∀ j u, [x][j]? = some u → (wr.alloc (.cells #[x] 5)).cell? (a.add j) = some u := by
  intro j u hj
  subst ha
  match j, hj with
  | 0, hj => simp at hj; subst hj; simp [Addr.add]

/-- a slice of bytes that is owned, turned into a string: nil or not -/
theorem own_text {wr : World} {B : Nat} {v : Value} {xs : List UInt8} (h : wr.ownsRow B 5 1 v xs.length (bytesV xs)) :
    ∃ a cap, v = .slice a xs.length cap ∧ (convert 22 9 v).run Tryz.prog wr = .ok (.string ⟨xs.toArray⟩) wr := by
  have h' := h
  rcases h.2 with ⟨rfl, e⟩ | ⟨g, cap, cur, rfl, hg, hh, hnc, hcp, hcs, htake⟩
  · obtain rfl : xs = [] := List.length_eq_zero_iff.1 e
    exact ⟨none, 0, rfl, run_convert_bytes_nil (P := Tryz.prog) (w := wr) 22 5 Tryz.underlying22 Tryz.underlying5 0 0 9 Tryz.underlying9⟩
  · refine ⟨_, cap, rfl, run_convert_bytes_back (P := Tryz.prog) wr 22 9 5 ⟨g, 0, none⟩ cap xs Tryz.underlying22 Tryz.underlying5 Tryz.underlying9 fun j hj => ?_⟩
    rw [Addr.add_lit, Nat.zero_add, h'.cellAt j (by omega)]
    simp [bytesV, hj]

/-- what an append of some bytes leaves -/
theorem rel_app {w wr W1 w1 : World} {v v' : Value} {xs bs : List UInt8} {n B : Nat} {news : List Value} (hW : Below w.heap.size w W1) (hB : B ≤ W1.heap.size) (hwB : w.heap.size ≤ B) (hown : wr.ownsRow B 5 1 v xs.length (bytesV xs))
    (hown' : w1.ownsRow B 5 1 v' n (bytesV xs ++ news)) (hgrow : W1.grownBy w1 v.ownBlock) (hn : n = (xs ++ bs).length) (hnews : news = bytesV bs) :
    w1.ownsRow B 5 1 v' (xs ++ bs).length (bytesV (xs ++ bs)) ∧ Below w.heap.size w w1 := by
  refine ⟨?_, hW.grown hgrow (Nat.le_trans hwB hB) (fun k hk => Nat.le_trans hwB (own_ge hown k hk))⟩
  subst hn hnews
  rw [show bytesV (xs ++ bs) = bytesV xs ++ bytesV bs by simp [bytesV]]
  exact hown'
end Go.Proofs.YtadbekhekggpkaaGreatDoor.I

namespace Go.Proofs.YtadbekhekggpkaaGreatDoor.I
open Go.RowKit Go.PlainAid
set_option linter.unusedVariables false

/-- StoreCell's road up to the cut: the copy lies in a block of its own, the argument's box points to it -/
theorem set1_row {w : World} {k i : Nat} {cs : Array Value} {t : TypeId} {x : Value} (h : w.heap[k]? = some (.cells cs t)) : (w.setCell ⟨k, i, none⟩ x).heap[k]? = some (.cells (cs.setIfInBounds i x) t) := by
  simp [World.setCell, Array.getElem?_modify, h]

theorem set_other {w : World} {k j i : Nat} {x : Value} {o : Obj} (h : w.heap[j]? = some o) (hj : j ≠ k) : (w.setCell ⟨k, i, none⟩ x).heap[j]? = some o :=
  (Below.heap_setCell _ _ _ _ hj).trans h
end Go.Proofs.YtadbekhekggpkaaGreatDoor.I

namespace Go.Proofs.YtadbekhekggpkaaGreatDoor.I
open Go.RowKit Go.PlainAid
set_option linter.unusedVariables false

theorem row_drawn {W W' : World} {k C : Nat} {o : Obj} (h : W.heap[k]? = some o) (hg : W.grownBy W' (some C)) (hk : k ≠ C) : W'.heap[k]? = some o :=
  (hg.block k (row_lt h) (fun e => by cases e; exact hk rfl)).trans h

/-- what is appended to new memory, behind a draw -/
theorem drawn_grown {w W W' : World} {C B : Nat} {a : Option Addr} {len cap : Nat} {v : Value} (h : Drawn w W C B a len cap) (hg : W.grownBy W' v.ownBlock) (hv : ∀ g, v.ownBlock = some g → w.heap.size ≤ g) (hC : C < w.heap.size) (hB : B ≤ w.heap.size) : Drawn w W' C B a len cap :=
  ⟨cur_new (B := B) h.1 hg (fun g e => by have := hv g e; omega), code_below h.2.1 ((Below.refl _ _).grown hg (Nat.le_trans hB h.2.2.size) (fun g e => by have := hv g e; omega)), grown_new h.2.2 hg hv⟩

theorem drawn_drew {w W : World} {C B : Nat} {a : Option Addr} {len cap : Nat} (h : Drawn w W C B a len cap) : Drawn w W.drew C B a len cap :=
  ⟨h.1, h.2.1, ⟨h.2.2.os, h.2.2.tape, h.2.2.output, h.2.2.size, h.2.2.block⟩⟩
theorem drawn_put {w W : World} {C B : Nat} {a : Option Addr} {len cap : Nat} (h : Drawn w W C B a len cap) {k : Nat} (i : Nat) (v : Value) (hk : w.heap.size ≤ k) (hC : C < w.heap.size) (hB : B ≤ C) : Drawn w (W.setCell ⟨k, i, none⟩ v) C B a len cap := by
  obtain ⟨⟨j, x, hj, hc⟩, hcode, hg⟩ := h
  refine ⟨⟨j, x, hj, ?_⟩, code_below hcode ((Below.refl _ _).setCell (by show _ ≤ k; omega) v), ?_⟩
  · unfold CurAt
    rw [Below.heap_setCell _ _ _ _ (by show C ≠ k; omega)]
    exact hc
  · have hs : (W.setCell ⟨k, i, none⟩ v).heap.size = W.heap.size := by simp
    exact ⟨hg.os, hg.tape, hg.output, by rw [hs]; exact hg.size, fun m hm hne => (Below.heap_setCell _ _ _ _ (show m ≠ k by omega)).trans (hg.block m hm hne)⟩

theorem onceR (C B : Nat) (a : Option Addr) (len cap : Nat) (n : Int) (h0 : 0 < n) (h1 : n ≤ 256) (w : World) (hC : Cur w C a len cap) (hB : B ≤ C) (hcode : CodeOk w B a len) :
    Calls Tryz.prog 30 #[.pointer (some ⟨C, 0, none⟩), .int .i64 n] w fun e w' => ∃ b : Bool, e = .returned (.bool b) ∧ Drawn w w' C B a len cap := by
  have HCu : Hid (Cur w C a len cap) := hC
  have HCo : Hid (CodeOk w B a len) := hcode
  clear hC hcode
  go_enter Tryz.func30, Tryz.ntmps30
  go_wp2_with fail
  refine (below28 C B a len cap n h0 (by omega) _ HCu.out hB HCo.out).mono ?_
  rintro e w1 ⟨x, rfl, x0, x1, hD⟩
  have HD : Hid (Drawn w w1 C B a len cap) := hD
  clear hD HCu HCo
  go_wp2
  go_ret
  exact ⟨_, rfl, HD.out⟩
set_option maxRecDepth 100000 in
set_option maxHeartbeats 400000 in
theorem pick26 (C B : Nat) (a : Option Addr) (len cap : Nat) (l : List Int) (g cp : Nat) (hl : 0 < l.length) (hl2 : l.length ≤ 1000) (w : World) (hC : Cur w C a len cap) (hB : B ≤ C) (hcode : CodeOk w B a len)
    (hg : g ≠ C) (hgl : g < w.heap.size) (hcell : ∀ j (hj : j < l.length), w.cell? ⟨g, j, none⟩ = some (.int .i64 l[j])) :
    Calls Tryz.prog 86 #[.pointer (some ⟨C, 0, none⟩), .slice (some ⟨g, 0, none⟩) l.length cp] w fun e w' => ∃ x : Int, e = .returned (.int .i64 x) ∧ x ∈ l ∧ Drawn w w' C B a len cap := by
  have HD0 : Hid (Drawn w w C B a len cap) := ⟨hC, hcode, World.grownBy.refl _ _⟩
  have HC : Hid (∀ j (hj : j < l.length), w.cell? ⟨g, j, none⟩ = some (.int .i64 l[j])) := hcell
  clear hC hcode hcell
  go_enter Tryz.func86, Tryz.ntmps86
  go_wp2_with fail
  refine (below28 C B a len cap _ (by omega) (by omega) _ HD0.out.1 hB HD0.out.2.1).mono ?_
  rintro e w1 ⟨x, rfl, x0, x1, hD⟩
  obtain ⟨n, rfl⟩ := Int.eq_ofNat_of_zero_le x0
  have hn : n < l.length := by omega
  have hc : w1.cell? ⟨g, n, none⟩ = some (.int .i64 l[n]) := (hD.2.2.cell_far ⟨g, n, none⟩ hgl (fun e => by cases e; exact hg rfl)).trans (HC.out n hn)
  have hm : l[n] ∈ l := List.getElem_mem hn
  have HD : Hid (Drawn w w1 C B a len cap) := hD
  clear hD HD0
  have HM : Hid (l[n] ∈ l) := hm
  clear hm
  go_wp2
  go_ret
  exact ⟨_, rfl, HM.out, HD.out⟩

theorem pick26' (C B : Nat) (a : Option Addr) (len cap : Nat) (l : List Int) (n g cp : Nat) (hn : l.length = n) (hl : 0 < n) (hl2 : n ≤ 1000) (w : World) (hC : Cur w C a len cap) (hB : B ≤ C) (hcode : CodeOk w B a len)
    (hg : g ≠ C) (hgl : g < w.heap.size) (hcell : ∀ j (hj : j < l.length), w.cell? ⟨g, j, none⟩ = some (.int .i64 l[j])) :
    Calls Tryz.prog 86 #[.pointer (some ⟨C, 0, none⟩), .slice (some ⟨g, 0, none⟩) n cp] w fun e w' => ∃ x : Int, e = .returned (.int .i64 x) ∧ x ∈ l ∧ Drawn w w' C B a len cap := by
  subst hn; exact pick26 C B a len cap l g cp hl hl2 w hC hB hcode hg hgl hcell
theorem byte_nat {x : Int} (h0 : 0 ≤ x) (h1 : x ≤ 255) : ((UInt8.ofNat x.toNat).toNat : Int) = x := by
  rw [UInt8.toNat_ofNat']; omega

set_option maxRecDepth 100000 in
set_option maxHeartbeats 1000000 in
theorem textD (C B : Nat) (a : Option Addr) (len cap : Nat) (n : Nat) (hn : n ≤ 5000) (w : World) (hC : Cur w C a len cap) (hB : B ≤ C) (hcode : CodeOk w B a len) :
    Calls Tryz.prog 71 #[.pointer (some ⟨C, 0, none⟩), .int .i64 n] w fun e w' => ∃ t : ByteArray, e = .returned (.string t) ∧ t.size = n ∧ Drawn w w' C B a len cap := by
  obtain ⟨i0, hi, hz0, hz1, hz2⟩ := info_parts info5
  have hlt := cur_lt hC
  have HD0 : Hid (Drawn w (w.alloc (.cells #[] 5)) C B a len cap) := drawn_alloc ⟨hC, hcode, World.grownBy.refl _ _⟩ (by omega) _
  have how := own_empty5 w
  clear hC hcode
  go_enter Tryz.func71, Tryz.ntmps71
  go_wp2
  go_loopw [5, 6] (fun v i wr => ∃ (k : Nat) (xs : List UInt8), k ≤ n ∧ i = .int .i64 k ∧ Hid (xs.length = k) ∧ xs.length ≤ 5000 ∧ Hid (Drawn w wr C B a len cap) ∧ wr.ownsRow w.heap.size 5 1 v xs.length (bytesV xs)) (fun _ i _ => n - (intOf i).toNat)
  case atStart => exact ⟨0, [], Nat.zero_le _, rfl, (show Hid _ from rfl), by simp, HD0, how⟩
  case round =>
    clear how HD0
    obtain ⟨k, xs, hk, rfl, HX, hx, HD, hown⟩ := hrel
    have hsz := HD.out.2.2.size
    by_cases hlt2 : k < n
    · go_wp2_with fail
      refine (byte32 C B a len cap _ HD.out.1 hB HD.out.2.1).mono ?_
      rintro e w1 ⟨x, rfl, x0, x1, hC1, hg1⟩
      have hown1 := own_gr hown hg1 hlt
      have HD1 : Hid (Drawn w w1 C B a len cap) := drawn_trans HD.out ⟨hC1, code_grown HD.out.2.1 hg1 hB (by omega), hg1⟩
      have s1 := HD1.out.2.2.size
      clear hC1 hg1 HD hown
      go_wp2_with (at_builtin; refine wpList_append_own _ rfl _ _ 22 rfl w.heap.size 5 i0 (.int .u8 0) 1 1 Tryz.underlying22 hi hz0 hz1 hz2 rfl (by decide) _ _ _ rfl (hown1.alloc _) ⟨w1.heap.size, 0, none⟩ 1 1 [.int .u8 x] rfl rfl ?c1 ?c2 ?c3 ?c4 ?c5 ?_)
      case c1 => exact one_cell5 w1 _ _ rfl
      case c2 => intro u hu; simp at hu; subst hu; rfl
      case c3 => unfold maxLen; omega
      case c4 => omega
      case c5 => simp; omega
      intro v' w2 hown2 hgrow _
      have HD2 : Hid (Drawn w w2 C B a len cap) := by
        have h1 := drawn_alloc HD1.out (by omega) (.cells #[.int .u8 x] 5)
        have hv := own_ge hown1
        refine ⟨cur_new (B := B) h1.1 hgrow (fun g hg => by have := hv g hg; omega), ?_, grown_new h1.2.2 hgrow hv⟩
        exact code_below h1.2.1 ((Below.refl _ _).grown hgrow (by simp; omega) (fun g hg => by have := hv g hg; omega))
      have hown3 : w2.ownsRow w.heap.size 5 1 v' (xs ++ [UInt8.ofNat x.toNat]).length (bytesV (xs ++ [UInt8.ofNat x.toNat])) := by
        rw [show bytesV (xs ++ [UInt8.ofNat x.toNat]) = bytesV xs ++ [.int .u8 x] by simp only [bytesV, List.map_append, List.map_cons, List.map_nil, byte_nat x0 x1], List.length_append]
        exact hown2
      clear hown2 hgrow hown1 HD1
      go_wp2
      go_roundw
      case rel => exact ⟨k + 1, xs ++ [UInt8.ofNat x.toNat], by omega, by go_num, (show Hid _ from by have := HX.out; simp [Hid]; omega), by have := HX.out; simp; omega, HD2, hown3⟩
      case measure => simp [intOf]; omega
    · obtain ⟨ao, cp, hv, hcv⟩ := own_text hown
      clear hown
      subst hv
      go_wp2
      go_ret
      exact ⟨_, rfl, by show xs.toArray.size = n; rw [List.size_toArray]; have := HX.out; omega, HD.out⟩

/-- what stands while an instruction is drawn: the answer's box and the instruction's -/
def DI (w W : World) (C B : Nat) (a : Option Addr) (len cap : Nat) (k : Nat) (x y : Int) : Prop := Drawn w W C B a len cap ∧ W.heap[w.heap.size]? = some (.cells #[.int .i64 0, .int .i64 0] 106) ∧ W.heap[k]? = some (.cells #[.int .i64 x, .int .i64 y] 106) ∧ C < w.heap.size ∧ B ≤ C ∧ w.heap.size < k
theorem DI.on {w W W' : World} {C B : Nat} {a : Option Addr} {len cap k : Nat} {x y : Int} (h : DI w W C B a len cap k x y) (hD : Drawn W W' C B a len cap) : DI w W' C B a len cap k x y := by
  obtain ⟨h1, h2, h3, h4, h5, h6⟩ := h
  exact ⟨drawn_trans h1 hD, row_drawn h2 hD.2.2 (by omega), row_drawn h3 hD.2.2 (by omega), h4, h5, h6⟩
theorem DI.put0 {w W : World} {C B : Nat} {a : Option Addr} {len cap k : Nat} {x y : Int} (h : DI w W C B a len cap k x y) (z : Int) : DI w (W.setCell ⟨k, 0, none⟩ (.int .i64 z)) C B a len cap k z y := by
  obtain ⟨h1, h2, h3, h4, h5, h6⟩ := h
  exact ⟨drawn_put h1 _ _ (by omega) h4 h5, set_other h2 (by omega), set1_row h3, h4, h5, h6⟩
theorem DI.put1 {w W : World} {C B : Nat} {a : Option Addr} {len cap k : Nat} {x y : Int} (h : DI w W C B a len cap k x y) (z : Int) : DI w (W.setCell ⟨k, 1, none⟩ (.int .i64 z)) C B a len cap k x z := by
  obtain ⟨h1, h2, h3, h4, h5, h6⟩ := h
  exact ⟨drawn_put h1 _ _ (by omega) h4 h5, set_other h2 (by omega), set1_row h3, h4, h5, h6⟩
theorem DI.done {w W : World} {C B : Nat} {a : Option Addr} {len cap k : Nat} {x y : Int} (h : DI w W C B a len cap k x y) : Drawn w ((W.setCell ⟨w.heap.size, 0, none⟩ (.int .i64 x)).setCell ⟨w.heap.size, 1, none⟩ (.int .i64 y)) C B a len cap :=
  drawn_put (drawn_put h.1 0 _ (Nat.le_refl _) h.2.2.2.1 h.2.2.2.2.1) 1 _ (Nat.le_refl _) h.2.2.2.1 h.2.2.2.2.1

theorem laid_ints1 (w : World) (o : Obj) (l : List Int) (j : Nat) (hj : j < l.length) : ((w.alloc o).alloc (.cells (l.map (Value.int .i64)).toArray 3)).cell? ⟨w.heap.size + 1, j, none⟩ = some (.int .i64 l[j]) := by
  have h := laid_ints (w.alloc o) l j hj
  have e : (w.alloc o).heap.size = w.heap.size + 1 := by simp
  rw [e] at h
  exact h

set_option maxRecDepth 100000 in
set_option maxHeartbeats 4000000 in
theorem instrD (C B : Nat) (a : Option Addr) (len cap : Nat) (w : World) (hC : Cur w C a len cap) (hB : B ≤ C) (hcode : CodeOk w B a len) :
    Calls Tryz.prog 112 #[.pointer (some ⟨C, 0, none⟩)] w fun e w' => ∃ f s : Int, e = .returned (.agg #[.int .i64 f, .int .i64 s]) ∧ Drawn w w' C B a len cap := by
  have hlt := cur_lt hC
  have HD0 : Hid (Drawn w (w.alloc (.cells #[.int .i64 0, .int .i64 0] 106)) C B a len cap) := drawn_alloc ⟨hC, hcode, World.grownBy.refl _ _⟩ (by omega) _
  have HZ0 : Hid ((w.alloc (.cells #[.int .i64 0, .int .i64 0] 106)).heap[w.heap.size]? = some (.cells #[.int .i64 0, .int .i64 0] 106)) := heap_new w _
  have HDa : Hid (∀ o, Drawn w ((w.alloc (.cells #[.int .i64 0, .int .i64 0] 106)).alloc o) C B a len cap) := fun o => drawn_alloc HD0.out (by simp; omega) o
  have HZa : Hid (∀ o, ((w.alloc (.cells #[.int .i64 0, .int .i64 0] 106)).alloc o).heap[w.heap.size]? = some (.cells #[.int .i64 0, .int .i64 0] 106)) := fun o => (Below.heap_alloc _ _ _ (row_lt HZ0.out)).trans HZ0.out
  have HLI : Hid _ := laid_ints1 w (.cells #[.int .i64 0, .int .i64 0] 106) [0, 1, 1, 1, 1, 1, 2, 3, 3, 4, 5, 6, 7, 8, 9, 10, 11, 12, 13, 14, 15, 16, 17]
  clear hC hcode HD0 HZ0
  go_enter Tryz.func112, Tryz.ntmps112
  go_wp2_with fail
  refine (pick26' C B a len cap [0, 1, 1, 1, 1, 1, 2, 3, 3, 4, 5, 6, 7, 8, 9, 10, 11, 12, 13, 14, 15, 16, 17] 23 _ _ rfl (by omega) (by omega) _ (HDa.out _).1 hB (HDa.out _).2.1 (by omega) (by simp) HLI.out).mono ?_
  rintro e w1 ⟨op, rfl, _, hD⟩
  have HD1 : Hid (Drawn w w1 C B a len cap) := drawn_trans (HDa.out _) hD
  have HZ1 : Hid (w1.heap[w.heap.size]? = some (.cells #[.int .i64 0, .int .i64 0] 106)) := row_drawn (HZa.out _) hD.2.2 (by omega)
  clear hD HDa HZa HLI
  go_wp2_with fail
  refine (below28 C B a len cap 4 (by omega) (by omega) _ HD1.out.1 hB HD1.out.2.1).mono ?_
  rintro e w2 ⟨arg, rfl, _, _, hD⟩
  have hs := hD.2.2.size
  have hs1 := row_lt HZ1.out
  have HI : Hid (DI w (w2.alloc (.cells #[.int .i64 op, .int .i64 arg] 106)) C B a len cap w2.heap.size op arg) :=
    ⟨drawn_alloc (drawn_trans HD1.out hD) (by omega) _, (Below.heap_alloc _ _ _ (by omega)).trans (row_drawn HZ1.out hD.2.2 (by omega)), heap_new w2 _, hlt, hB, by omega⟩
  have k1 := row2_cells HI.out.2.2.1
  clear hD HD1 HZ1
  have ways : op = 1 ∨ op = 9 ∨ op = 10 ∨ ((op == 1) = false ∧ (op == 9) = false ∧ (op == 10) = false) := by
    by_cases h1 : op = 1
    · exact .inl h1
    · by_cases h2 : op = 9
      · exact .inr (.inl h2)
      · by_cases h3 : op = 10
        · exact .inr (.inr (.inl h3))
        · exact .inr (.inr (.inr ⟨by simpa using h1, by simpa using h2, by simpa using h3⟩))
  rcases ways with rfl | rfl | rfl | ⟨g1, g2, g3⟩
  · skip
    go_wp2_with fail
    refine (below28 C B a len cap 8 (by omega) (by omega) _ HI.out.1.1 hB HI.out.1.2.1).mono ?_
    rintro e w5 ⟨z, rfl, _, _, hD⟩
    have h5 := HI.out.on hD
    have k5 := row2_cells h5.2.2.1
    have HI5 : Hid (DI _ _ _ _ _ _ _ _ _ _) := h5.put1 z
    have k6 := row2_cells HI5.out.2.2.1
    clear hD HI h5 k1
    go_wp2_with fail
    refine (onceR C B a len cap 40 (by omega) (by omega) _ HI5.out.1.1 hB HI5.out.1.2.1).mono ?_
    rintro e w7 ⟨b, rfl, hD⟩
    have HJ : Hid (DI _ _ _ _ _ _ _ _ _ _) := HI5.out.on hD
    clear hD HI5
    cases b
    · have kk := row2_cells HJ.out.2.2.1
      have kz := row2_cells HJ.out.2.1
      have HF : Hid (Drawn _ _ _ _ _ _ _) := HJ.out.done
      clear HJ
      go_wp2
      refine bodyPost_ret (v := .agg #[.int .i64 1, .int .i64 z]) (by simp [results, Tryz.results112, go_sem, kz]) rfl ⟨1, z, rfl, HF.out⟩
    · go_wp2_with fail
      refine (below28 C B a len cap 256 (by omega) (by omega) _ HJ.out.1.1 hB HJ.out.1.2.1).mono ?_
      rintro e w8 ⟨z8, rfl, _, _, hD⟩
      have h8 := HJ.out.on hD
      have k8 := row2_cells h8.2.2.1
      have HK : Hid (DI _ _ _ _ _ _ _ _ _ _) := h8.put0 z8
      have kk := row2_cells HK.out.2.2.1
      have kz := row2_cells HK.out.2.1
      have HF : Hid (Drawn _ _ _ _ _ _ _) := HK.out.done
      clear hD HJ h8 HK
      go_wp2
      refine bodyPost_ret (v := .agg #[.int .i64 z8, .int .i64 z]) (by simp [results, Tryz.results112, go_sem, kz]) rfl ⟨z8, z, rfl, HF.out⟩

  · skip
    go_wp2_with fail
    refine (below28 C B a len cap 14 (by omega) (by omega) _ HI.out.1.1 hB HI.out.1.2.1).mono ?_
    rintro e w5 ⟨z, rfl, _, _, hD⟩
    have h5 := HI.out.on hD
    have k5 := row2_cells h5.2.2.1
    have HI5 : Hid (DI _ _ _ _ _ _ _ _ _ _) := h5.put1 z
    have k6 := row2_cells HI5.out.2.2.1
    clear hD HI h5 k1
    go_wp2_with fail
    refine (onceR C B a len cap 40 (by omega) (by omega) _ HI5.out.1.1 hB HI5.out.1.2.1).mono ?_
    rintro e w7 ⟨b, rfl, hD⟩
    have HJ : Hid (DI _ _ _ _ _ _ _ _ _ _) := HI5.out.on hD
    clear hD HI5
    cases b
    · have kk := row2_cells HJ.out.2.2.1
      have kz := row2_cells HJ.out.2.1
      have HF : Hid (Drawn _ _ _ _ _ _ _) := HJ.out.done
      clear HJ
      go_wp2
      refine bodyPost_ret (v := .agg #[.int .i64 9, .int .i64 z]) (by simp [results, Tryz.results112, go_sem, kz]) rfl ⟨9, z, rfl, HF.out⟩
    · go_wp2_with fail
      refine (below28 C B a len cap 256 (by omega) (by omega) _ HJ.out.1.1 hB HJ.out.1.2.1).mono ?_
      rintro e w8 ⟨z8, rfl, _, _, hD⟩
      have h8 := HJ.out.on hD
      have k8 := row2_cells h8.2.2.1
      have HK : Hid (DI _ _ _ _ _ _ _ _ _ _) := h8.put0 z8
      have kk := row2_cells HK.out.2.2.1
      have kz := row2_cells HK.out.2.1
      have HF : Hid (Drawn _ _ _ _ _ _ _) := HK.out.done
      clear hD HJ h8 HK
      go_wp2
      refine bodyPost_ret (v := .agg #[.int .i64 z8, .int .i64 z]) (by simp [results, Tryz.results112, go_sem, kz]) rfl ⟨z8, z, rfl, HF.out⟩

  · skip
    go_wp2_with fail
    refine (below28 C B a len cap 14 (by omega) (by omega) _ HI.out.1.1 hB HI.out.1.2.1).mono ?_
    rintro e w5 ⟨z, rfl, _, _, hD⟩
    have h5 := HI.out.on hD
    have k5 := row2_cells h5.2.2.1
    have HI5 : Hid (DI _ _ _ _ _ _ _ _ _ _) := h5.put1 z
    have k6 := row2_cells HI5.out.2.2.1
    clear hD HI h5 k1
    go_wp2_with fail
    refine (onceR C B a len cap 40 (by omega) (by omega) _ HI5.out.1.1 hB HI5.out.1.2.1).mono ?_
    rintro e w7 ⟨b, rfl, hD⟩
    have HJ : Hid (DI _ _ _ _ _ _ _ _ _ _) := HI5.out.on hD
    clear hD HI5
    cases b
    · have kk := row2_cells HJ.out.2.2.1
      have kz := row2_cells HJ.out.2.1
      have HF : Hid (Drawn _ _ _ _ _ _ _) := HJ.out.done
      clear HJ
      go_wp2
      refine bodyPost_ret (v := .agg #[.int .i64 10, .int .i64 z]) (by simp [results, Tryz.results112, go_sem, kz]) rfl ⟨10, z, rfl, HF.out⟩
    · go_wp2_with fail
      refine (below28 C B a len cap 256 (by omega) (by omega) _ HJ.out.1.1 hB HJ.out.1.2.1).mono ?_
      rintro e w8 ⟨z8, rfl, _, _, hD⟩
      have h8 := HJ.out.on hD
      have k8 := row2_cells h8.2.2.1
      have HK : Hid (DI _ _ _ _ _ _ _ _ _ _) := h8.put0 z8
      have kk := row2_cells HK.out.2.2.1
      have kz := row2_cells HK.out.2.1
      have HF : Hid (Drawn _ _ _ _ _ _ _) := HK.out.done
      clear hD HJ h8 HK
      go_wp2
      refine bodyPost_ret (v := .agg #[.int .i64 z8, .int .i64 z]) (by simp [results, Tryz.results112, go_sem, kz]) rfl ⟨z8, z, rfl, HF.out⟩

  · skip
    go_wp2_with fail
    refine (onceR C B a len cap 40 (by omega) (by omega) _ HI.out.1.1 hB HI.out.1.2.1).mono ?_
    rintro e w7 ⟨b, rfl, hD⟩
    have HJ : Hid (DI _ _ _ _ _ _ _ _ _ _) := HI.out.on hD
    clear hD HI
    cases b
    · have kk := row2_cells HJ.out.2.2.1
      have kz := row2_cells HJ.out.2.1
      have HF : Hid (Drawn _ _ _ _ _ _ _) := HJ.out.done
      clear HJ
      go_wp2
      refine bodyPost_ret (v := .agg #[.int .i64 op, .int .i64 arg]) (by simp [results, Tryz.results112, go_sem, kz]) rfl ⟨op, arg, rfl, HF.out⟩
    · go_wp2_with fail
      refine (below28 C B a len cap 256 (by omega) (by omega) _ HJ.out.1.1 hB HJ.out.1.2.1).mono ?_
      rintro e w8 ⟨z8, rfl, _, _, hD⟩
      have h8 := HJ.out.on hD
      have k8 := row2_cells h8.2.2.1
      have HK : Hid (DI _ _ _ _ _ _ _ _ _ _) := h8.put0 z8
      have kk := row2_cells HK.out.2.2.1
      have kz := row2_cells HK.out.2.1
      have HF : Hid (Drawn _ _ _ _ _ _ _) := HK.out.done
      clear hD HJ h8 HK
      go_wp2
      refine bodyPost_ret (v := .agg #[.int .i64 z8, .int .i64 arg]) (by simp [results, Tryz.results112, go_sem, kz]) rfl ⟨z8, arg, rfl, HF.out⟩


end Go.Proofs.YtadbekhekggpkaaGreatDoor.I

namespace Go.Proofs.YtadbekhekggpkaaGreatDoor.I
open Go.RowKit Go.PlainAid
set_option linter.unusedVariables false

theorem app_drawn {w W w6 : World} {C B : Nat} {a : Option Addr} {len cap n : Nat} {v v' : Value} {xs ys : List (Int × Int)} {news : List Value} {o : Obj} (hD : Drawn w W C B a len cap) (hO : OwnI W w.heap.size v xs) (hlt : C < w.heap.size) (hB : B ≤ C)
    (hown' : w6.ownsRow w.heap.size 106 2 v' n (regsV xs ++ news)) (hgrow : (W.alloc o).grownBy w6 v.ownBlock) (hnews : news = regsV ys) (hn : n = xs.length + ys.length) :
    OwnI w6 w.heap.size v' (xs ++ ys) ∧ Drawn w w6 C B a len cap := by
  have hs := hD.2.2.size
  refine ⟨?_, drawn_grown (drawn_alloc hD (by omega) o) hgrow (own_ge hO) hlt (by omega)⟩
  subst hn hnews
  unfold OwnI
  rw [regsV_append, List.length_append]
  exact hown'

set_option maxRecDepth 100000 in
set_option maxHeartbeats 8000000 in
theorem codeD (C B : Nat) (a : Option Addr) (len cap : Nat) (w : World) (hC : Cur w C a len cap) (hB : B ≤ C) (hcode : CodeOk w B a len) :
    Calls Tryz.prog 84 #[.pointer (some ⟨C, 0, none⟩)] w fun e w' => ∃ (v : Value) (xs : List (Int × Int)), e = .returned v ∧ xs.length ≤ 46 ∧ v ≠ .slice none 0 0 ∧ OwnI w' w.heap.size v xs ∧ Drawn w w' C B a len cap := by
  obtain ⟨i0, hi, hz0, hz1, hz2⟩ := info_parts infoR
  have hlt := cur_lt hC
  have HD0 : Hid (Drawn w (w.alloc (.cells #[] 106)) C B a len cap) := drawn_alloc ⟨hC, hcode, World.grownBy.refl _ _⟩ (by omega) _
  have HO0 : Hid (OwnI _ _ _ _) := ownI_empty w
  clear hC hcode
  go_enter Tryz.func84, Tryz.ntmps84
  go_wp2
  go_loopg [3, 4] 15 (fun gk v iv wr => ∃ (i : Nat) (xs : List (Int × Int)), i + gk = 15 ∧ iv = .int .i64 i ∧ xs.length ≤ 3 * i ∧ Hid (v ≠ .slice none 0 0) ∧ Hid (OwnI wr w.heap.size v xs) ∧ Hid (Drawn w wr C B a len cap))
  case atStart => exact ⟨0, [], by omega, rfl, by simp, (show Hid _ from fun e => by cases e), HO0, HD0⟩
  case round =>
    clear HD0 HO0
    obtain ⟨i, xs, hi16, rfl, hxl, HV, HO, HD⟩ := hrel
    go_wp2_with fail
    refine (below28 C B a len cap 16 (by omega) (by omega) _ HD.out.1 hB HD.out.2.1).mono ?_
    rintro e w2 ⟨x, rfl, x0, x1, hD⟩
    have HD2 : Hid (Drawn w w2 C B a len cap) := drawn_trans HD.out hD
    have HO2 : Hid (OwnI w2 w.heap.size _ xs) := own_gr HO.out hD.2.2 hlt
    clear hD HD HO

    by_cases hx : (i : Int) < x
    · have hi14 : i ≤ 14 := by omega
      go_wp2_with fail
      refine (below28 C B a len cap 6 (by omega) (by omega) _ HD2.out.1 hB HD2.out.2.1).mono ?_
      rintro e w3 ⟨y, rfl, y0, y1, hD⟩
      have HD3 : Hid (Drawn w w3 C B a len cap) := drawn_trans HD2.out hD
      have HO3 : Hid (OwnI w3 w.heap.size _ xs) := own_gr HO2.out hD.2.2 hlt
      clear hD HD2 HO2

      have ways : y = 0 ∨ y = 1 ∨ y = 2 ∨ ((y == 0) = false ∧ (y == 1) = false ∧ (y == 2) = false) := by
        by_cases h1 : y = 0
        · exact .inl h1
        · by_cases h2 : y = 1
          · exact .inr (.inl h2)
          · by_cases h3 : y = 2
            · exact .inr (.inr (.inl h3))
            · exact .inr (.inr (.inr ⟨by simpa using h1, by simpa using h2, by simpa using h3⟩))
      rcases ways with rfl | rfl | rfl | ⟨g1, g2, g3⟩
      · skip
        go_wp2_with fail
        refine (below28 C B a len cap 5 (by omega) (by omega) _ HD3.out.1 hB HD3.out.2.1).mono ?_
        rintro e w4 ⟨p, rfl, p0, p1, hD⟩
        have HD4 : Hid (Drawn w w4 C B a len cap) := drawn_trans HD3.out hD
        have HO4 : Hid (OwnI w4 w.heap.size _ xs) := own_gr HO3.out hD.2.2 hlt
        clear hD HD3 HO3
        go_wp2_with fail
        refine (below28 C B a len cap 9 (by omega) (by omega) _ HD4.out.1 hB HD4.out.2.1).mono ?_
        rintro e w5 ⟨q, rfl, q0, q1, hD⟩
        have HD5 : Hid (Drawn w w5 C B a len cap) := drawn_trans HD4.out hD
        have HO5 : Hid (OwnI w5 w.heap.size _ xs) := own_gr HO4.out hD.2.2 hlt
        clear hD HD4 HO4
        have hown : w5.ownsRow w.heap.size 106 2 _ xs.length (regsV xs) := HO5.out
        have sW := HD5.out.2.2.size
        go_wp2_with (at_builtin; refine wpList_append_own _ rfl _ _ 60 rfl w.heap.size 106 i0 (.agg #[.int .i64 0, .int .i64 0]) 2 16 Tryz.underlying60 hi hz0 hz1 hz2 rfl (by decide) _ _ _ rfl (hown.alloc _) ⟨w5.heap.size, 0, none⟩ 3 3 [.int .i64 1, .int .i64 p, .int .i64 1, .int .i64 q, .int .i64 3, .int .i64 0] rfl rfl ?c1a ?c2a ?c3a ?c4a ?c5a ?_)
        case c1a => exact World.news_of_block (cs := #[.int .i64 1, .int .i64 p, .int .i64 1, .int .i64 q, .int .i64 3, .int .i64 0]) (t := 106) (fr := (0, 0)) (heap_alloc_new w5 _)
        case c2a => simp [Value.oneCell']
        case c3a => unfold maxLen; omega
        case c4a => omega
        case c5a => simp; omega
        intro v' w9 hown9 hgrow hnil
        have HV' : Hid (v' ≠ .slice none 0 0) := by first | exact hnil | exact fun e => absurd (hnil.1 e).2 (by decide)
        have hR := app_drawn (ys := [(1, p), (1, q), (3, 0)]) HD5.out HO5.out hlt hB hown9 hgrow rfl rfl
        have HR : Hid (_ ∧ _) := hR
        have HLN : Hid ((xs ++ [(1, p), (1, q), (3, 0)]).length = xs.length + 3) := by show _ = _; simp
        clear hR hown9 hgrow hown hnil HD5 HO5
        go_wp2
        go_roundg (gk - 1)
        case measure => omega
        case rel => exact ⟨i + 1, xs ++ [(1, p), (1, q), (3, 0)], by omega, by go_num, by rw [HLN.out]; omega, HV', HR.out.1, HR.out.2⟩

      · skip
        go_wp2_with fail
        refine (below28 C B a len cap 5 (by omega) (by omega) _ HD3.out.1 hB HD3.out.2.1).mono ?_
        rintro e w4 ⟨p, rfl, p0, p1, hD⟩
        have HD4 : Hid (Drawn w w4 C B a len cap) := drawn_trans HD3.out hD
        have HO4 : Hid (OwnI w4 w.heap.size _ xs) := own_gr HO3.out hD.2.2 hlt
        clear hD HD3 HO3
        go_wp2_with fail
        refine (below28 C B a len cap 2 (by omega) (by omega) _ HD4.out.1 hB HD4.out.2.1).mono ?_
        rintro e w5 ⟨q, rfl, q0, q1, hD⟩
        have HD5 : Hid (Drawn w w5 C B a len cap) := drawn_trans HD4.out hD
        have HO5 : Hid (OwnI w5 w.heap.size _ xs) := own_gr HO4.out hD.2.2 hlt
        clear hD HD4 HO4
        have hown : w5.ownsRow w.heap.size 106 2 _ xs.length (regsV xs) := HO5.out
        have sW := HD5.out.2.2.size
        go_wp2_with (at_builtin; refine wpList_append_own _ rfl _ _ 60 rfl w.heap.size 106 i0 (.agg #[.int .i64 0, .int .i64 0]) 2 16 Tryz.underlying60 hi hz0 hz1 hz2 rfl (by decide) _ _ _ rfl (hown.alloc _) ⟨w5.heap.size, 0, none⟩ 3 3 [.int .i64 1, .int .i64 p, .int .i64 2, .int .i64 0, .int .i64 16, .int .i64 q] rfl rfl ?c1b ?c2b ?c3b ?c4b ?c5b ?_)
        case c1b => exact World.news_of_block (cs := #[.int .i64 1, .int .i64 p, .int .i64 2, .int .i64 0, .int .i64 16, .int .i64 q]) (t := 106) (fr := (0, 0)) (heap_alloc_new w5 _)
        case c2b => simp [Value.oneCell']
        case c3b => unfold maxLen; omega
        case c4b => omega
        case c5b => simp; omega
        intro v' w9 hown9 hgrow hnil
        have HV' : Hid (v' ≠ .slice none 0 0) := by first | exact hnil | exact fun e => absurd (hnil.1 e).2 (by decide)
        have hR := app_drawn (ys := [(1, p), (2, 0), (16, q)]) HD5.out HO5.out hlt hB hown9 hgrow rfl rfl
        have HR : Hid (_ ∧ _) := hR
        have HLN : Hid ((xs ++ [(1, p), (2, 0), (16, q)]).length = xs.length + 3) := by show _ = _; simp
        clear hR hown9 hgrow hown hnil HD5 HO5
        go_wp2
        go_roundg (gk - 1)
        case measure => omega
        case rel => exact ⟨i + 1, xs ++ [(1, p), (2, 0), (16, q)], by omega, by go_num, by rw [HLN.out]; omega, HV', HR.out.1, HR.out.2⟩

      · skip
        go_wp2_with fail
        refine (below28 C B a len cap 3 (by omega) (by omega) _ HD3.out.1 hB HD3.out.2.1).mono ?_
        rintro e w4 ⟨p, rfl, p0, p1, hD⟩
        have HD4 : Hid (Drawn w w4 C B a len cap) := drawn_trans HD3.out hD
        have HO4 : Hid (OwnI w4 w.heap.size _ xs) := own_gr HO3.out hD.2.2 hlt
        clear hD HD3 HO3
        go_wp2_with fail
        refine (below28 C B a len cap 3 (by omega) (by omega) _ HD4.out.1 hB HD4.out.2.1).mono ?_
        rintro e w5 ⟨q, rfl, q0, q1, hD⟩
        have HD5 : Hid (Drawn w w5 C B a len cap) := drawn_trans HD4.out hD
        have HO5 : Hid (OwnI w5 w.heap.size _ xs) := own_gr HO4.out hD.2.2 hlt
        clear hD HD4 HO4
        have hown : w5.ownsRow w.heap.size 106 2 _ xs.length (regsV xs) := HO5.out
        have sW := HD5.out.2.2.size
        go_wp2_with (at_builtin; refine wpList_append_own _ rfl _ _ 60 rfl w.heap.size 106 i0 (.agg #[.int .i64 0, .int .i64 0]) 2 16 Tryz.underlying60 hi hz0 hz1 hz2 rfl (by decide) _ _ _ rfl (hown.alloc _) ⟨w5.heap.size, 0, none⟩ 3 3 [.int .i64 15, .int .i64 p, .int .i64 13, .int .i64 q, .int .i64 12, .int .i64 0] rfl rfl ?c1c ?c2c ?c3c ?c4c ?c5c ?_)
        case c1c => exact World.news_of_block (cs := #[.int .i64 15, .int .i64 p, .int .i64 13, .int .i64 q, .int .i64 12, .int .i64 0]) (t := 106) (fr := (0, 0)) (heap_alloc_new w5 _)
        case c2c => simp [Value.oneCell']
        case c3c => unfold maxLen; omega
        case c4c => omega
        case c5c => simp; omega
        intro v' w9 hown9 hgrow hnil
        have HV' : Hid (v' ≠ .slice none 0 0) := by first | exact hnil | exact fun e => absurd (hnil.1 e).2 (by decide)
        have hR := app_drawn (ys := [(15, p), (13, q), (12, 0)]) HD5.out HO5.out hlt hB hown9 hgrow rfl rfl
        have HR : Hid (_ ∧ _) := hR
        have HLN : Hid ((xs ++ [(15, p), (13, q), (12, 0)]).length = xs.length + 3) := by show _ = _; simp
        clear hR hown9 hgrow hown hnil HD5 HO5
        go_wp2
        go_roundg (gk - 1)
        case measure => omega
        case rel => exact ⟨i + 1, xs ++ [(15, p), (13, q), (12, 0)], by omega, by go_num, by rw [HLN.out]; omega, HV', HR.out.1, HR.out.2⟩

      · go_wp2_with fail
        refine (instrD C B a len cap _ HD3.out.1 hB HD3.out.2.1).mono ?_
        rintro e w4 ⟨f, s, rfl, hD⟩
        have HD4 : Hid (Drawn w w4 C B a len cap) := drawn_trans HD3.out hD
        have HO4 : Hid (OwnI w4 w.heap.size _ xs) := own_gr HO3.out hD.2.2 hlt
        clear hD HD3 HO3
        have hown : w4.ownsRow w.heap.size 106 2 _ xs.length (regsV xs) := HO4.out
        have sW := HD4.out.2.2.size
        go_wp2_with (at_builtin; refine wpList_append_own _ rfl _ _ 60 rfl w.heap.size 106 i0 (.agg #[.int .i64 0, .int .i64 0]) 2 16 Tryz.underlying60 hi hz0 hz1 hz2 rfl (by decide) _ _ _ rfl (hown.alloc _) ⟨w4.heap.size, 0, none⟩ 1 1 [.int .i64 f, .int .i64 s] rfl rfl ?c1d ?c2d ?c3d ?c4d ?c5d ?_)
        case c1d => exact World.news_of_block (cs := #[.int .i64 f, .int .i64 s]) (t := 106) (fr := (0, 0)) (heap_alloc_new w4 _)
        case c2d => simp [Value.oneCell']
        case c3d => unfold maxLen; omega
        case c4d => omega
        case c5d => simp; omega
        intro v' w9 hown9 hgrow hnil
        have HV' : Hid (v' ≠ .slice none 0 0) := by first | exact hnil | exact fun e => absurd (hnil.1 e).2 (by decide)
        have hR := app_drawn (ys := [(f, s)]) HD4.out HO4.out hlt hB hown9 hgrow rfl rfl
        have HR : Hid (_ ∧ _) := hR
        have HLN : Hid ((xs ++ [(f, s)]).length = xs.length + 1) := by show _ = _; simp
        clear hR hown9 hgrow hown hnil HD4 HO4
        go_wp2
        go_roundg (gk - 1)
        case measure => omega
        case rel => exact ⟨i + 1, xs ++ [(f, s)], by omega, by go_num, by rw [HLN.out]; omega, HV', HR.out.1, HR.out.2⟩

    · go_wp2_with fail
      refine (onceR C B a len cap 2 (by omega) (by omega) _ HD2.out.1 hB HD2.out.2.1).mono ?_
      rintro e w3 ⟨b, rfl, hD⟩
      have HD3 : Hid (Drawn w w3 C B a len cap) := drawn_trans HD2.out hD
      have HO3 : Hid (OwnI w3 w.heap.size _ xs) := own_gr HO2.out hD.2.2 hlt
      have hx45 : xs.length ≤ 45 := by omega
      clear hD HD2 HO2
      cases b
      · go_wp2
        go_ret
        exact ⟨_, xs, rfl, by omega, HV.out, HO3.out, HD3.out⟩
      · skip
        have hown : w3.ownsRow w.heap.size 106 2 _ xs.length (regsV xs) := HO3.out
        have sW := HD3.out.2.2.size
        go_wp2_with (at_builtin; refine wpList_append_own _ rfl _ _ 60 rfl w.heap.size 106 i0 (.agg #[.int .i64 0, .int .i64 0]) 2 16 Tryz.underlying60 hi hz0 hz1 hz2 rfl (by decide) _ _ _ rfl (hown.alloc _) ⟨w3.heap.size, 0, none⟩ 1 1 [.int .i64 0, .int .i64 0] rfl rfl ?c1e ?c2e ?c3e ?c4e ?c5e ?_)
        case c1e => exact World.news_of_block (cs := #[.int .i64 0, .int .i64 0]) (t := 106) (fr := (0, 0)) (heap_alloc_new w3 _)
        case c2e => simp [Value.oneCell']
        case c3e => unfold maxLen; omega
        case c4e => omega
        case c5e => simp; omega
        intro v' w9 hown9 hgrow hnil
        have HV' : Hid (v' ≠ .slice none 0 0) := by first | exact hnil | exact fun e => absurd (hnil.1 e).2 (by decide)
        have hR := app_drawn (ys := [(0, 0)]) HD3.out HO3.out hlt hB hown9 hgrow rfl rfl
        have HR : Hid (_ ∧ _) := hR
        have HLN : Hid ((xs ++ [(0, 0)]).length = xs.length + 1) := by show _ = _; simp
        clear hR hown9 hgrow hown hnil HD3 HO3
        go_wp2
        go_ret
        exact ⟨_, xs ++ [(0, 0)], rfl, by rw [HLN.out]; omega, HV'.out, HR.out.1, HR.out.2⟩

end Go.Proofs.YtadbekhekggpkaaGreatDoor.I

namespace Go.Proofs.YtadbekhekggpkaaGreatDoor.I
open Go.RowKit Go.PlainAid
set_option linter.unusedVariables false

def bOf (x : Int) : UInt8 := UInt8.ofNat x.toNat
theorem bOf_nat {x : Int} (h : isB x) : ((bOf x).toNat : Int) = x := by
  unfold isB at h
  unfold bOf
  rw [UInt8.toNat_ofNat']
  omega
theorem bOf_back (c : UInt8) : bOf (c.toNat : Int) = c := by
  unfold bOf
  rw [Int.toNat_natCast, UInt8.ofNat_toNat]
/-- the bytes of code -/
def codeB : List (Int × Int) → List UInt8
  | [] => []
  | r :: t => bOf r.1 :: bOf r.2 :: codeB t
theorem codeB_len : ∀ rl : List (Int × Int), (codeB rl).length = 2 * rl.length
  | [] => rfl
  | r :: t => by simp [codeB, codeB_len t]; omega
theorem codeB_app : ∀ x y : List (Int × Int), codeB (x ++ y) = codeB x ++ codeB y
  | [], y => rfl
  | r :: t, y => by simp [codeB, codeB_app t y]
theorem codeB_take {rl : List (Int × Int)} {j : Nat} (h : j < rl.length) : codeB (rl.take (j + 1)) = codeB (rl.take j) ++ [bOf rl[j].1, bOf rl[j].2] := by
  rw [List.take_succ_eq_append_getElem h, codeB_app]; rfl
theorem codeB_all {rl : List (Int × Int)} {n : Nat} (h : rl.length = n) : codeB (rl.take n) = codeB rl := by rw [List.take_of_length_le (by omega)]
theorem two_news {f s : Int} (hf : isB f) (hs : isB s) : [Value.int .u8 f, .int .u8 s] = bytesV [bOf f, bOf s] := by
  simp [bytesV, bOf_nat hf, bOf_nat hs]
/-- what CodeText answers -/
def ctV (rl : List (Int × Int)) : Bool → Value
  | true => .tuple #[.string ⟨(codeB rl).toArray⟩, .bool true]
  | false => .tuple #[.string ⟨#[]⟩, .bool false]

end Go.Proofs.YtadbekhekggpkaaGreatDoor.I

namespace Go.Proofs.YtadbekhekggpkaaGreatDoor.I
open Go.RowKit Go.PlainAid
set_option linter.unusedVariables false

set_option maxRecDepth 100000 in
set_option maxHeartbeats 2000000 in
theorem codetextS (a : Option Addr) (rl : List (Int × Int)) (n cap : Nat) (b : Bool) (hl : rl.length = n) (hn : n ≤ 9223372036854775807) (hb : b = true ↔ CodeR rl) (w : World) (hr : RdR w a rl) :
    Calls Tryz.prog 83 #[.slice a n cap] w fun e w' => e = .returned (ctV rl b) ∧ Below w.heap.size w w' := by
  obtain ⟨i0, hi, hz0, hz1, hz2⟩ := info_parts info5
  cases b
  · go_enter Tryz.func83, Tryz.ntmps83
    go_wp2_with fail
    refine (codeokS a rl n cap false hl hn hb _ hr).mono ?_
    rintro e w1 ⟨rfl, rfl⟩
    clear hr hb
    go_wp2
    go_ret2
    exact ⟨rfl, Below.refl _ _⟩
  · have HC : Hid (CodeR rl) := hb.1 rfl
    have HL : Hid (rl.length = n) := hl
    have h60 : n ≤ 60 := by have := HC.out.1; omega
    have HR : Hid (RdR w a rl) := hr
    clear hl hr hb
    go_enter Tryz.func83, Tryz.ntmps83
    go_wp2_with fail
    refine (codeokS a rl n cap true HL.out hn ⟨fun _ => HC.out, fun _ => rfl⟩ _ HR.out).mono ?_
    rintro e w1 ⟨rfl, rfl⟩
    have how := own_empty5 w1
    have HB0 : Hid (Below w1.heap.size w1 (w1.alloc (.cells #[] 5))) := (Below.refl _ _).alloc (Nat.le_refl _) _
    by_cases hp : 0 < n
    · obtain ⟨g, off, rfl, hc⟩ := HR.out (by have := HL.out; omega)
      have HCC : Hid (∀ j (h : j < rl.length), w1.cell? ⟨g, off + j * 2, none⟩ = some (.int .i64 rl[j].1) ∧ w1.cell? ⟨g, off + j * 2 + 1, none⟩ = some (.int .i64 rl[j].2)) := hc
      have hgl : g < w1.heap.size := World.block_lt_of_cell? w1 ⟨g, off + 0 * 2, none⟩ (hc 0 (by have := HL.out; omega)).1
      clear HR hc
      go_wp2
      go_loopg [4, 5] n (fun gk v i wr => ∃ j : Nat, j + gk = n ∧ i = .int .i64 j ∧ Hid (wr.ownsRow w1.heap.size 5 1 v (codeB (rl.take j)).length (bytesV (codeB (rl.take j)))) ∧ Hid (Below w1.heap.size w1 wr))
      case atStart => exact ⟨0, by omega, rfl, how, HB0⟩
      case round =>
        clear how HB0
        obtain ⟨j, hj, rfl, HO, HW⟩ := hrel
        have hsz := HW.out.size
        by_cases hlt : j < n
        · have hjl : j < rl.length := by have := HL.out; omega
          have c0 := HCC.out j hjl
          have c1 := (HW.out.cell (p := ⟨g, off + j * 2, none⟩) hgl).trans c0.1
          have c2 := (HW.out.cell (p := ⟨g, off + j * 2 + 1, none⟩) hgl).trans c0.2
          have HT := codeB_take hjl
          have hf := (HC.out.2 j hjl).1
          have hs := (HC.out.2 j hjl).2
          clear c0
          generalize rl[j].1 = f at *
          generalize rl[j].2 = s at *
          have HT' : Hid (codeB (rl.take (j + 1)) = codeB (rl.take j) ++ [bOf f, bOf s]) := HT
          have HNW : Hid (_ = _) := two_news hf hs
          have hlen : (codeB (rl.take j)).length ≤ 120 := by rw [codeB_len, List.length_take]; omega
          have hown := HO.out
          clear HT HO
          generalize codeB (rl.take j) = xs at *
          obtain ⟨f0, f1⟩ := hf
          obtain ⟨q0, q1⟩ := hs
          have x0 : (0 : Int) ≤ (j : Int) := by omega
          have x1 : (j : Int) < (n : Int) := by omega
          have u1 : IntKind.u8.wrap f = f := IntWalk.u8_in _ (by omega)
          have u2 : IntKind.u8.wrap s = s := IntWalk.u8_in _ (by omega)
          go_wp2
          go_region_law (refine step_append_lies _ rfl _ _ _ rfl w1.heap.size 5 i0 _ 1 1 Tryz.underlying22 hi hz0 hz1 hz2 rfl (by omega) _ _ _ rfl ((hown.alloc _).drew) ⟨wr.heap.size, 0, none⟩ 2 2 [.int .u8 f, .int .u8 s] rfl rfl (World.news_of_block (cs := #[.int .u8 f, .int .u8 s]) (t := 5) (fr := (0, 0)) (heap_alloc_new wr _)) (by simp [Value.oneCell']) (by omega) (by unfold maxLen; omega) (by omega) (by simp; omega) (wr.heap.size + 1) (by simp) ?_; intro gg cp w3 hown3 hgrow hat hlt1)
          all_goals
            have R := rel_app (bs := [bOf f, bOf s]) ((HW.out.alloc hsz (.cells #[.int .u8 f, .int .u8 s] 5)).drew) (by simp; omega) (Nat.le_refl _) hown hown3 hgrow (by simp) HNW.out
            have HO' : Hid (_ ∧ _) := R
            clear R hown3 hgrow hown HW c1 c2 hat hlt1
            go_wp2
            go_roundg (gk - 1)
            case measure => omega
            case rel => exact ⟨j + 1, by omega, by go_num, by rw [HT'.out]; exact HO'.out.1, HO'.out.2⟩
        · obtain rfl : j = n := by omega
          have hown := HO.out
          rw [codeB_all HL.out] at hown
          obtain ⟨xs, hxs⟩ : ∃ xs, codeB rl = xs := ⟨_, rfl⟩
          have HX : Hid (codeB rl = xs) := hxs
          rw [hxs] at hown
          obtain ⟨ao, cp, hv, hcv⟩ := own_text hown
          clear HO hown hxs
          subst hv
          go_wp2
          go_ret2
          exact ⟨by unfold ctV; rw [HX.out]; rfl, HW.out⟩
    · obtain rfl : n = 0 := by omega
      have HX : Hid (codeB rl = []) := by have := HL.out; rw [List.length_eq_zero_iff.1 this]; rfl
      obtain ⟨ao, cp, hv, hcv⟩ := own_text (xs := []) how
      cases hv
      clear how HR
      go_wp2
      go_rounds 1
      go_wp2
      go_ret2
      exact ⟨by unfold ctV; rw [HX.out]; rfl, HB0.out⟩
end Go.Proofs.YtadbekhekggpkaaGreatDoor.I

namespace Go.Proofs.YtadbekhekggpkaaGreatDoor
open Go.RowKit Go.PlainAid
set_option linter.unusedVariables false

theorem infoP5 : (Tryz.prog.info? 52).map (fun i => (i.zero, i.size, i.bytes)) = some (some (.agg #[.int .i64 0, .int .i64 0, .int .i64 0, .int .i64 0, .int .i64 0]), 5, 40) := by kernel_rfl
theorem infoStr : (Tryz.prog.info? 9).map (fun i => (i.zero, i.size, i.bytes)) = some (some (.string ⟨#[]⟩), 1, 16) := by kernel_rfl

/-- two rows of unlike types share no block -/
theorem own_apart {W : World} {B B' t t' z z' n n' : Nat} {v v' : Value} {xs xs' : List Value} (h : W.ownsRow B t z v n xs) (h' : W.ownsRow B' t' z' v' n' xs') (ht : t ≠ t') : ∀ g, v.ownBlock = some g → v'.ownBlock ≠ some g := by
  intro g hg hg'
  rcases h.2 with ⟨rfl, _⟩ | ⟨a, c, cur, rfl, _, hh, _⟩
  · cases hg
  · cases hg
    rcases h'.2 with ⟨rfl, _⟩ | ⟨a', c', cur', rfl, _, hh', _⟩
    · cases hg'
    · cases hg'
      rw [hh] at hh'
      cases hh'
      exact ht rfl
theorem own_far {W : World} {B t z n k : Nat} {v : Value} {xs : List Value} {cs : Array Value} {t' : TypeId} (h : W.ownsRow B t z v n xs) (hk : W.heap[k]? = some (.cells cs t')) (ht : t ≠ t') : v.ownBlock ≠ some k := by
  intro hg
  rcases h.2 with ⟨rfl, _⟩ | ⟨a, c, cur, rfl, _, hh, _⟩
  · cases hg
  · cases hg
    rw [hh] at hk
    cases hk
    exact ht rfl
theorem own_set {w : World} {B t z n k i : Nat} {v x : Value} {xs : List Value} (h : w.ownsRow B t z v n xs) (hk : v.ownBlock ≠ some k) : (w.setCell ⟨k, i, none⟩ x).ownsRow B t z v n xs := by
  refine ⟨h.1, ?_⟩
  rcases h.2 with h2 | ⟨g, cap, cur, rfl, hg, hh, h3⟩
  · exact .inl h2
  · exact .inr ⟨g, cap, cur, rfl, hg, P.set_other hh (fun e => hk (by subst e; rfl)), h3⟩
theorem own_other {W W' : World} {B t z n : Nat} {v : Value} {xs : List Value} {e : Option Nat} (h : W.ownsRow B t z v n xs) (hg : W.grownBy W' e) (hne : ∀ g, v.ownBlock = some g → e ≠ some g) : W'.ownsRow B t z v n xs :=
  h.kept hg (by
    cases hv : v.ownBlock with
    | none => exact .inl rfl
    | some g => exact .inr (fun e' => hne g hv e'.symm))

abbrev nilV : Value := .slice none 0 0
/-- a set-up that is being drawn -/
structure SU (w W : World) (C B : Nat) (a : Option Addr) (len cap kS : Nat) (v0 v1 v2 v3 v4 : Value) (n0 n1 n2 n3 n4 : Nat) (x0 x1 x2 x3 x4 : List Value) : Prop where
  d : Drawn w W C B a len cap
  z : W.heap[w.heap.size]? = some (.cells #[nilV, nilV, nilV, nilV, nilV] 30)
  s : W.heap[kS]? = some (.cells #[v0, v1, v2, v3, v4] 30)
  o0 : W.ownsRow w.heap.size 48 2 v0 n0 x0
  o1 : W.ownsRow w.heap.size 50 2 v1 n1 x1
  o2 : W.ownsRow w.heap.size 52 5 v2 n2 x2
  o3 : W.ownsRow w.heap.size 54 3 v3 n3 x3
  o4 : W.ownsRow w.heap.size 9 1 v4 n4 x4
  hC : C < w.heap.size
  hB : B ≤ C
  hk : w.heap.size < kS
section
variable {w W W' : World} {C B : Nat} {a : Option Addr} {len cap kS : Nat} {v0 v1 v2 v3 v4 v' : Value} {n0 n1 n2 n3 n4 n' : Nat} {x0 x1 x2 x3 x4 x' : List Value}
theorem SU.on (h : SU w W C B a len cap kS v0 v1 v2 v3 v4 n0 n1 n2 n3 n4 x0 x1 x2 x3 x4) (hD : Drawn W W' C B a len cap) : SU w W' C B a len cap kS v0 v1 v2 v3 v4 n0 n1 n2 n3 n4 x0 x1 x2 x3 x4 :=
  have hC := h.hC
  have hk := h.hk
  ⟨drawn_trans h.d hD, P.row_drawn h.z hD.2.2 (by omega), P.row_drawn h.s hD.2.2 (by omega), own_gr h.o0 hD.2.2 hC, own_gr h.o1 hD.2.2 hC, own_gr h.o2 hD.2.2 hC, own_gr h.o3 hD.2.2 hC, own_gr h.o4 hD.2.2 hC, h.hC, h.hB, h.hk⟩
theorem SU.al (h : SU w W C B a len cap kS v0 v1 v2 v3 v4 n0 n1 n2 n3 n4 x0 x1 x2 x3 x4) (o : Obj) : SU w (W.alloc o) C B a len cap kS v0 v1 v2 v3 v4 n0 n1 n2 n3 n4 x0 x1 x2 x3 x4 :=
  ⟨drawn_alloc h.d (by have := h.d.2.2.size; have := h.hC; have := h.hB; omega) o, row_on h.z ((Below.refl _ _).alloc (Nat.le_refl _) _), row_on h.s ((Below.refl _ _).alloc (Nat.le_refl _) _), h.o0.alloc o, h.o1.alloc o, h.o2.alloc o, h.o3.alloc o, h.o4.alloc o, h.hC, h.hB, h.hk⟩
theorem SU.bel (h : SU w W C B a len cap kS v0 v1 v2 v3 v4 n0 n1 n2 n3 n4 x0 x1 x2 x3 x4) (hb : Below W.heap.size W W') : SU w W' C B a len cap kS v0 v1 v2 v3 v4 n0 n1 n2 n3 n4 x0 x1 x2 x3 x4 :=
  have hC := h.hC
  have hB := h.hB
  ⟨drawn_bel h.d hb (by omega), row_on h.z hb, row_on h.s hb, own_keep h.o0 hb (own_lt h.o0), own_keep h.o1 hb (own_lt h.o1), own_keep h.o2 hb (own_lt h.o2), own_keep h.o3 hb (own_lt h.o3), own_keep h.o4 hb (own_lt h.o4), h.hC, h.hB, h.hk⟩
theorem SU.cells (h : SU w W C B a len cap kS v0 v1 v2 v3 v4 n0 n1 n2 n3 n4 x0 x1 x2 x3 x4) : (W.cell? ⟨kS, 0, none⟩ = some v0 ∧ W.cell? ⟨kS, 1, none⟩ = some v1 ∧ W.cell? ⟨kS, 2, none⟩ = some v2 ∧ W.cell? ⟨kS, 3, none⟩ = some v3 ∧ W.cell? ⟨kS, 4, none⟩ = some v4) ∧ (W.frozen? ⟨kS, 0, none⟩ = false ∧ W.frozen? ⟨kS, 1, none⟩ = false ∧ W.frozen? ⟨kS, 2, none⟩ = false ∧ W.frozen? ⟨kS, 3, none⟩ = false ∧ W.frozen? ⟨kS, 4, none⟩ = false) := P.box5_cells h.s
theorem SU.far (h : SU w W C B a len cap kS v0 v1 v2 v3 v4 n0 n1 n2 n3 n4 x0 x1 x2 x3 x4) : v0.ownBlock ≠ some kS ∧ v1.ownBlock ≠ some kS ∧ v2.ownBlock ≠ some kS ∧ v3.ownBlock ≠ some kS ∧ v4.ownBlock ≠ some kS :=
  ⟨own_far h.o0 h.s (by decide), own_far h.o1 h.s (by decide), own_far h.o2 h.s (by decide), own_far h.o3 h.s (by decide), own_far h.o4 h.s (by decide)⟩
/-- behind a store into the set-up's block -/
theorem SU.st {i : Nat} {x : Value} (h : SU w W C B a len cap kS v0 v1 v2 v3 v4 n0 n1 n2 n3 n4 x0 x1 x2 x3 x4) {u0 u1 u2 u3 u4 : Value} (hs : (W.setCell ⟨kS, i, none⟩ x).heap[kS]? = some (.cells #[u0, u1, u2, u3, u4] 30)) {m0 m1 m2 m3 m4 : Nat} {y0 y1 y2 y3 y4 : List Value}
    (h0 : W.ownsRow w.heap.size 48 2 u0 m0 y0) (h1 : W.ownsRow w.heap.size 50 2 u1 m1 y1) (h2 : W.ownsRow w.heap.size 52 5 u2 m2 y2) (h3 : W.ownsRow w.heap.size 54 3 u3 m3 y3) (h4 : W.ownsRow w.heap.size 9 1 u4 m4 y4) :
    SU w (W.setCell ⟨kS, i, none⟩ x) C B a len cap kS u0 u1 u2 u3 u4 m0 m1 m2 m3 m4 y0 y1 y2 y3 y4 :=
  ⟨P.drawn_put h.d _ _ (Nat.le_of_lt h.hk) h.hC h.hB, P.set_other h.z (by have := h.hk; omega), hs, own_set h0 (own_far h0 h.s (by decide)), own_set h1 (own_far h1 h.s (by decide)), own_set h2 (own_far h2 h.s (by decide)), own_set h3 (own_far h3 h.s (by decide)), own_set h4 (own_far h4 h.s (by decide)), h.hC, h.hB, h.hk⟩
/-- behind an append to new memory of one type: the blocks of the others stand -/
theorem SU.gr {t : TypeId} {e : Option Nat} (h : SU w W C B a len cap kS v0 v1 v2 v3 v4 n0 n1 n2 n3 n4 x0 x1 x2 x3 x4) (hg : W.grownBy W' e) (he : ∀ b, e = some b → w.heap.size ≤ b ∧ b ≠ w.heap.size ∧ b ≠ kS) : Drawn w W' C B a len cap ∧ W'.heap[w.heap.size]? = some (.cells #[nilV, nilV, nilV, nilV, nilV] 30) ∧ W'.heap[kS]? = some (.cells #[v0, v1, v2, v3, v4] 30) := by
  have hC := h.hC
  have hB := h.hB
  refine ⟨⟨?_, ?_, ?_⟩, ?_, ?_⟩
  · obtain ⟨j, u, hj, hc⟩ := h.d.1
    refine ⟨j, u, hj, ?_⟩
    unfold CurAt at hc ⊢
    exact (hg.block C (row_lt hc) (fun e' => by have := (he C e'.symm).1; omega)).trans hc
  · refine code_below h.d.2.1 ((Below.refl _ _).grown hg ?_ (fun b hb => by have := (he b hb).1; omega))
    have := h.d.2.2.size; omega
  · have hd := h.d.2.2
    exact ⟨hg.os.trans hd.os, hg.tape.trans hd.tape, hg.output.trans hd.output, Nat.le_trans hd.size hg.size, fun i hi hne => (hg.block i (Nat.lt_of_lt_of_le hi hd.size) (fun e' => by have := (he i e'.symm).1; omega)).trans (hd.block i hi hne)⟩
  · exact (hg.block _ (row_lt h.z) (fun e' => (he _ e'.symm).2.1 rfl)).trans h.z
  · exact (hg.block _ (row_lt h.s) (fun e' => (he _ e'.symm).2.2 rfl)).trans h.s
theorem SU.app2 {m : Nat} {y : List Value} (h : SU w W C B a len cap kS v0 v1 v2 v3 v4 n0 n1 n2 n3 n4 x0 x1 x2 x3 x4) (hg : W.grownBy W' v2.ownBlock) (hn : W'.ownsRow w.heap.size 52 5 v' m y) :
    SU w (W'.setCell ⟨kS, 2, none⟩ v') C B a len cap kS v0 v1 v' v3 v4 n0 n1 m n3 n4 x0 x1 y x3 x4 := by
  obtain ⟨g1, g2, g3⟩ := h.gr (t := 0) hg (fun b hb => ⟨own_ge h.o2 b hb, fun e => own_far h.o2 h.z (by decide) (by rw [← e]; exact hb), fun e => h.far.2.2.1 (by rw [← e]; exact hb)⟩)
  have h0 := own_other h.o0 hg (fun g e e' => own_apart h.o0 h.o2 (by decide) g e e')
  have h1 := own_other h.o1 hg (fun g e e' => own_apart h.o1 h.o2 (by decide) g e e')
  have h3 := own_other h.o3 hg (fun g e e' => own_apart h.o3 h.o2 (by decide) g e e')
  have h4 := own_other h.o4 hg (fun g e e' => own_apart h.o4 h.o2 (by decide) g e e')
  exact ⟨P.drawn_put g1 _ _ (Nat.le_of_lt h.hk) h.hC h.hB, P.set_other g2 (by have := h.hk; omega), P.set1_row g3, own_set h0 (own_far h0 g3 (by decide)), own_set h1 (own_far h1 g3 (by decide)), own_set hn (own_far hn g3 (by decide)), own_set h3 (own_far h3 g3 (by decide)), own_set h4 (own_far h4 g3 (by decide)), h.hC, h.hB, h.hk⟩
theorem SU.app4 {m : Nat} {y : List Value} (h : SU w W C B a len cap kS v0 v1 v2 v3 v4 n0 n1 n2 n3 n4 x0 x1 x2 x3 x4) (hg : W.grownBy W' v4.ownBlock) (hn : W'.ownsRow w.heap.size 9 1 v' m y) :
    SU w (W'.setCell ⟨kS, 4, none⟩ v') C B a len cap kS v0 v1 v2 v3 v' n0 n1 n2 n3 m x0 x1 x2 x3 y := by
  obtain ⟨g1, g2, g3⟩ := h.gr (t := 0) hg (fun b hb => ⟨own_ge h.o4 b hb, fun e => own_far h.o4 h.z (by decide) (by rw [← e]; exact hb), fun e => h.far.2.2.2.2 (by rw [← e]; exact hb)⟩)
  have h0 := own_other h.o0 hg (fun g e e' => own_apart h.o0 h.o4 (by decide) g e e')
  have h1 := own_other h.o1 hg (fun g e e' => own_apart h.o1 h.o4 (by decide) g e e')
  have h2 := own_other h.o2 hg (fun g e e' => own_apart h.o2 h.o4 (by decide) g e e')
  have h3 := own_other h.o3 hg (fun g e e' => own_apart h.o3 h.o4 (by decide) g e e')
  exact ⟨P.drawn_put g1 _ _ (Nat.le_of_lt h.hk) h.hC h.hB, P.set_other g2 (by have := h.hk; omega), P.set1_row g3, own_set h0 (own_far h0 g3 (by decide)), own_set h1 (own_far h1 g3 (by decide)), own_set h2 (own_far h2 g3 (by decide)), own_set h3 (own_far h3 g3 (by decide)), own_set hn (own_far hn g3 (by decide)), h.hC, h.hB, h.hk⟩
end
end Go.Proofs.YtadbekhekggpkaaGreatDoor

namespace Go.Proofs.YtadbekhekggpkaaGreatDoor
open Go.RowKit Go.PlainAid
set_option linter.unusedVariables false

theorem five_cell (wr : World) (x y z u v : Value) (t : TypeId) (a : Addr) (ha : a = ⟨wr.heap.size, 0, none⟩) : ∀ j c, [x, y, z, u, v][j]? = some c → (wr.alloc (.cells #[x, y, z, u, v] t)).cell? (a.add j) = some c := by
  intro j c hj
  subst ha
  match j, hj with
  | 0, hj => simp at hj; subst hj; simp [Addr.add]
  | 1, hj => simp at hj; subst hj; simp [Addr.add]
  | 2, hj => simp at hj; subst hj; simp [Addr.add]
  | 3, hj => simp at hj; subst hj; simp [Addr.add]
  | 4, hj => simp at hj; subst hj; simp [Addr.add]
theorem one_cellS (wr : World) (x : Value) (t : TypeId) (a : Addr) (ha : a = ⟨wr.heap.size, 0, none⟩) : ∀ j c, [x][j]? = some c → (wr.alloc (.cells #[x] t)).cell? (a.add j) = some c := by
  intro j c hj
  subst ha
  match j, hj with
  | 0, hj => simp at hj; subst hj; simp [Addr.add]

theorem own_set5 {W : World} {B t z n k : Nat} {v a b c d e : Value} {xs : List Value} (h : W.ownsRow B t z v n xs) (hk : v.ownBlock ≠ some k) : (((((W.setCell ⟨k, 0, none⟩ a).setCell ⟨k, 1, none⟩ b).setCell ⟨k, 2, none⟩ c).setCell ⟨k, 3, none⟩ d).setCell ⟨k, 4, none⟩ e).ownsRow B t z v n xs :=
  own_set (own_set (own_set (own_set (own_set h hk) hk) hk) hk) hk
theorem drawn_put5 {w W : World} {C B : Nat} {ad : Option Addr} {len cap : Nat} {a b c d e : Value} (h : Drawn w W C B ad len cap) (hC : C < w.heap.size) (hB : B ≤ C) : Drawn w (((((W.setCell ⟨w.heap.size, 0, none⟩ a).setCell ⟨w.heap.size, 1, none⟩ b).setCell ⟨w.heap.size, 2, none⟩ c).setCell ⟨w.heap.size, 3, none⟩ d).setCell ⟨w.heap.size, 4, none⟩ e) C B ad len cap :=
  P.drawn_put (P.drawn_put (P.drawn_put (P.drawn_put (P.drawn_put h 0 _ (Nat.le_refl _) hC hB) 1 _ (Nat.le_refl _) hC hB) 2 _ (Nat.le_refl _) hC hB) 3 _ (Nat.le_refl _) hC hB) 4 _ (Nat.le_refl _) hC hB

/-- right ports of so many parts -/
def PrtsOf (n : Nat) (l : List Prt) : Prop := ∀ p ∈ l, prtR p ∧ p.2.1 ≤ (n : Int) ∧ p.2.2.1 ≤ (n : Int)
theorem prtsOf_add {n : Nat} {l : List Prt} {k f t m fr : Int} (h : PrtsOf n l) (hr : P.PortR k f t m fr) (hf : f ≤ (n : Int)) (ht : t ≤ (n : Int)) : PrtsOf n (l ++ [(k, f, t, m, fr)]) := fun p hp => by
  rcases List.mem_append.1 hp with hp | hp
  · exact h p hp
  · rw [List.mem_singleton.1 hp]
    exact ⟨hr, hf, ht⟩
theorem strV_snoc (l : List ByteArray) (x : ByteArray) : S.strV (l ++ [x]) = S.strV l ++ [.string x] := by simp [S.strV]
theorem own_capY {W : World} {B T z n cp : Nat} {q : Option Addr} {xs : List Value} (h : W.ownsRow B T z (.slice q n cp) n xs) : n ≤ cp := by
  rcases h.2 with ⟨e, e'⟩ | ⟨g, cap, cur, e, _, _, hnc, _⟩
  · cases e; omega
  · cases e; exact hnc
theorem ct_ok (xs : List (Int × Int)) (b : Bool) (h : xs.length ≤ 46) : ∃ tx, I.ctV xs b = .tuple #[.string tx, .bool b] ∧ I.RcOk tx := by
  cases b
  · exact ⟨_, rfl, by decide, by decide⟩
  · have hz : (⟨(I.codeB xs).toArray⟩ : ByteArray).size = 2 * xs.length := by
      show (I.codeB xs).toArray.size = _
      rw [List.size_toArray, I.codeB_len]
    exact ⟨_, rfl, by rw [hz]; omega, by rw [hz]; omega⟩
set_option maxRecDepth 100000 in
set_option maxHeartbeats 8000000 in
theorem setupD (C B : Nat) (a : Option Addr) (len cap : Nat) (w : World) (hC : Cur w C a len cap) (hB : B ≤ C) (hcode : CodeOk w B a len) :
    Calls Tryz.prog 49 #[.pointer (some ⟨C, 0, none⟩)] w fun e w' => ∃ (s : SH) (X : SX), e = .returned (SetV s) ∧ RightX X ∧ (1 ≤ X.W.length ∧ X.W.length ≤ 5) ∧ X.O.length ≤ 3 ∧ s.n0 ≤ s.c0 ∧ OwnX w' w.heap.size s X ∧ Drawn w w' C B a len cap := by
  have hlt := cur_lt hC
  have HD0 : Hid (Drawn w (w.alloc (.cells #[nilV, nilV, nilV, nilV, nilV] 30)) C B a len cap) := drawn_alloc ⟨hC, hcode, World.grownBy.refl _ _⟩ (by omega) _
  have HZ0 : Hid ((w.alloc (.cells #[nilV, nilV, nilV, nilV, nilV] 30)).heap[w.heap.size]? = some (.cells #[nilV, nilV, nilV, nilV, nilV] 30)) := heap_new w _
  clear hC hcode
  go_enter Tryz.func49, Tryz.ntmps49
  go_wp2_with fail
  refine (R.regions C B a len cap _ HD0.out.1 hB HD0.out.2.1).mono ?_
  rintro e w1 ⟨v0, rl, rfl, hrl, hown0, hD⟩
  have HD1 : Hid (Drawn w w1 C B a len cap) := drawn_trans HD0.out hD
  have HZ1 : Hid (w1.heap[w.heap.size]? = some (.cells #[nilV, nilV, nilV, nilV, nilV] 30)) := P.row_drawn HZ0.out hD.2.2 (by omega)
  have HO0 : Hid (w1.ownsRow w.heap.size 48 2 v0 rl.length (R.regsV rl)) := own_mono hown0 (by simp)
  have HRL : Hid (R.RegsOk rl) := hrl
  obtain ⟨q0, c0, hv0⟩ := own_shapeW hown0
  subst hv0
  obtain ⟨n, hn⟩ : ∃ n, rl.length = n := ⟨_, rfl⟩
  have hn1 : 1 ≤ n ∧ n ≤ 4 := by rw [← hn]; exact ⟨hrl.1, hrl.2.1⟩
  have HN : Hid (rl.length = n) := hn
  rw [hn] at HO0 ⊢
  clear hD HD0 HZ0 hrl hown0 hn
  have s1 := row_lt HZ1.out
  have HS1 : Hid (SU w (w1.alloc (.cells #[.slice q0 n c0, nilV, nilV, nilV, nilV] 30)) C B a len cap w1.heap.size (.slice q0 n c0) nilV nilV nilV nilV n 0 0 0 0 (R.regsV rl) [] [] [] []) :=
    ⟨drawn_alloc HD1.out (by omega) _, row_on HZ1.out ((Below.refl _ _).alloc (Nat.le_refl _) _), heap_new w1 _, HO0.out.alloc _, World.ownsRow_nil _ _ _ _, World.ownsRow_nil _ _ _ _, World.ownsRow_nil _ _ _ _, World.ownsRow_nil _ _ _ _, hlt, hB, s1⟩
  clear HD1 HZ1 HO0
  obtain ⟨kS, hkS⟩ : ∃ kS, w1.heap.size = kS := ⟨_, rfl⟩
  go_wp2_with fail
  rw [hkS] at HS1
  refine (planD C B a len cap n (by omega) (by omega) _ HS1.out.d.1 hB HS1.out.d.2.1).mono ?_
  rintro e w2 ⟨v1, pl, rfl, hpl, hpw, hown1, hD⟩
  have HS2 : Hid (SU w w2 C B a len cap kS (.slice q0 n c0) nilV nilV nilV nilV n 0 0 0 0 (R.regsV rl) [] [] [] []) := HS1.out.on hD
  have HO1 : Hid (w2.ownsRow w.heap.size 50 2 v1 pl.length (regsV pl)) := own_mono hown1 (by have := HS1.out.d.2.2.size; omega)
  have HPL : Hid ((1 ≤ pl.length ∧ pl.length ≤ 5) ∧ WinsOf n pl) := ⟨hpl, hpw⟩
  obtain ⟨q1, c1, hv1⟩ := own_shapeW hown1
  subst hv1
  obtain ⟨m1, hm1⟩ : ∃ m1, pl.length = m1 := ⟨_, rfl⟩
  have HM1 : Hid (pl.length = m1) := hm1
  rw [hm1] at HO1 ⊢
  clear hD HS1 hpl hpw hown1 hm1
  have k2 := HS2.out.cells
  have HS3 : Hid (SU w (w2.setCell ⟨kS, 1, none⟩ (.slice q1 m1 c1)) C B a len cap kS (.slice q0 n c0) (.slice q1 m1 c1) nilV nilV nilV n m1 0 0 0 (R.regsV rl) (regsV pl) [] [] []) :=
    HS2.out.st (P.set1_row HS2.out.s) HS2.out.o0 HO1.out HS2.out.o2 HS2.out.o3 HS2.out.o4
  clear HO1
  go_wp2_with fail
  clear k2
  refine (rulesD C B a len cap n (by omega) (by omega) _ HS3.out.d.1 hB HS3.out.d.2.1).mono ?_
  rintro e w4 ⟨v3, m3, us, rfl, hus, huo, hown3, hD⟩
  have HS4 : Hid (SU w w4 C B a len cap kS (.slice q0 n c0) (.slice q1 m1 c1) nilV nilV nilV n m1 0 0 0 (R.regsV rl) (regsV pl) [] [] []) := HS3.out.on hD
  have HO3 : Hid (w4.ownsRow w.heap.size 54 3 v3 m3 (rulV us)) := own_mono hown3 (by have := HS3.out.d.2.2.size; omega)
  have HUS : Hid (RulesR us ∧ RulesOf n us ∧ us.length = m3) := ⟨hus, huo, OwnU.len hown3⟩
  obtain ⟨q3, c3, hv3⟩ := own_shapeW hown3
  subst hv3
  clear hD HS3 HS2 hus huo hown3
  have k4 := HS4.out.cells
  have HS5 : Hid (SU w (w4.setCell ⟨kS, 3, none⟩ (.slice q3 m3 c3)) C B a len cap kS (.slice q0 n c0) (.slice q1 m1 c1) nilV (.slice q3 m3 c3) nilV n m1 0 m3 0 (R.regsV rl) (regsV pl) [] (rulV us) []) :=
    HS4.out.st (P.set1_row HS4.out.s) HS4.out.o0 HS4.out.o1 HS4.out.o2 HO3.out HS4.out.o4
  clear HO3
  go_wp2
  clear k4 HS4
  go_loopg [5] 3 (fun gk iv wr => ∃ (i n2 c2 : Nat) (q2 : Option Addr) (ol : List Prt), i + gk = 3 ∧ iv = .int .i64 i ∧ n2 ≤ i ∧ Hid (ol.length = n2 ∧ PrtsOf n ol) ∧ Hid (SU w wr C B a len cap kS (.slice q0 n c0) (.slice q1 m1 c1) (.slice q2 n2 c2) (.slice q3 m3 c3) nilV n m1 n2 m3 0 (R.regsV rl) (regsV pl) (prtV ol) (rulV us) []))
  case atStart => exact ⟨0, 0, 0, none, [], by omega, rfl, by omega, ⟨rfl, fun p h => by cases h⟩, HS5⟩
  case round =>
    clear HS5
    obtain ⟨i, n2, c2, q2, ol, hi3, rfl, hn2, HOL, HS⟩ := hrel
    go_wp2_with fail
    refine (below28 C B a len cap 4 (by omega) (by omega) _ HS.out.d.1 hB HS.out.d.2.1).mono ?_
    rintro e w6 ⟨x, rfl, x0, x1, hD⟩
    have HS6 : Hid (SU w w6 C B a len cap kS (.slice q0 n c0) (.slice q1 m1 c1) (.slice q2 n2 c2) (.slice q3 m3 c3) nilV n m1 n2 m3 0 (R.regsV rl) (regsV pl) (prtV ol) (rulV us) []) := HS.out.on hD
    clear hD HS
    by_cases hx : (i : Int) < x
    · go_wp2_with fail
      refine (P.portD C B a len cap _ HS6.out.d.1 hB HS6.out.d.2.1).mono ?_
      rintro e w7 ⟨k, f, t, m, fr, rfl, hpr, hD⟩
      have HPR : Hid (P.PortR k f t m fr) := hpr
      clear hpr
      have HS7 : Hid (SU w w7 C B a len cap kS (.slice q0 n c0) (.slice q1 m1 c1) (.slice q2 n2 c2) (.slice q3 m3 c3) nilV n m1 n2 m3 0 (R.regsV rl) (regsV pl) (prtV ol) (rulV us) []) := HS6.out.on hD
      clear hD HS6
      have HS8 : Hid (SU w (w7.alloc (.cells #[.int .i64 k, .int .i64 f, .int .i64 t, .int .i64 m, .int .i64 fr] 52)) C B a len cap kS (.slice q0 n c0) (.slice q1 m1 c1) (.slice q2 n2 c2) (.slice q3 m3 c3) nilV n m1 n2 m3 0 (R.regsV rl) (regsV pl) (prtV ol) (rulV us) []) := HS7.out.al _
      have HK8 : Hid ((w7.alloc (.cells #[.int .i64 k, .int .i64 f, .int .i64 t, .int .i64 m, .int .i64 fr] 52)).heap[w7.heap.size]? = some (.cells #[.int .i64 k, .int .i64 f, .int .i64 t, .int .i64 m, .int .i64 fr] 52)) := heap_new w7 _
      clear HS7
      by_cases hf : f ≤ (n : Int)
      · by_cases ht : t ≤ (n : Int)
        · have k8 := HS8.out.cells
          have p8 := P.box5_cells HK8.out
          have HS9 : Hid (SU w ((w7.alloc (.cells #[.int .i64 k, .int .i64 f, .int .i64 t, .int .i64 m, .int .i64 fr] 52)).alloc (.cells #[.int .i64 k, .int .i64 f, .int .i64 t, .int .i64 m, .int .i64 fr] 52)) C B a len cap kS (.slice q0 n c0) (.slice q1 m1 c1) (.slice q2 n2 c2) (.slice q3 m3 c3) nilV n m1 n2 m3 0 (R.regsV rl) (regsV pl) (prtV ol) (rulV us) []) := HS8.out.al _
          have hown := HS9.out.o2
          obtain ⟨i0, hi, hz0, hz1, hz2⟩ := info_parts infoP5
          have s9 := HS9.out.d.2.2.size
          have HF : Hid (_ ∧ _) := (⟨HS9.out.far, trivial⟩ : _ ∧ True)
          go_wp2_with (at_builtin; refine wpList_append_own _ rfl _ _ 26 rfl w.heap.size 52 i0 (.agg #[.int .i64 0, .int .i64 0, .int .i64 0, .int .i64 0, .int .i64 0]) 5 40 Tryz.underlying26 hi hz0 hz1 hz2 rfl (by decide) _ _ _ rfl hown ⟨w7.heap.size + 1, 0, none⟩ 1 1 [.int .i64 k, .int .i64 f, .int .i64 t, .int .i64 m, .int .i64 fr] rfl rfl ?c1 ?c2 ?c3 ?c4 ?c5 ?_)
          case c1 => exact five_cell _ _ _ _ _ _ _ _ (by simp)
          case c2 => intro u hu; simp at hu; rcases hu with rfl | rfl | rfl | rfl | rfl <;> rfl
          case c3 => unfold maxLen; omega
          case c4 => omega
          case c5 => exact s9
          intro v' w9 hown9 hgrow _
          obtain ⟨q', c', hv⟩ := own_shapeW hown9
          subst hv
          have HSa : Hid (SU w (w9.setCell ⟨kS, 2, none⟩ (.slice q' (n2 + 1) c')) C B a len cap kS (.slice q0 n c0) (.slice q1 m1 c1) (.slice q' (n2 + 1) c') (.slice q3 m3 c3) nilV n m1 (n2 + 1) m3 0 (R.regsV rl) (regsV pl) (prtV (ol ++ [(k, f, t, m, fr)])) (rulV us) []) := by
            show SU _ _ _ _ _ _ _ _ _ _ _ _ _ _ _ _ _ _ _ _ _ _ _
            rw [prtV_append]
            exact HS9.out.app2 hgrow hown9
          have HOL2 : Hid ((ol ++ [(k, f, t, m, fr)]).length = n2 + 1 ∧ PrtsOf n (ol ++ [(k, f, t, m, fr)])) := ⟨by rw [List.length_append, HOL.out.1]; rfl, prtsOf_add HOL.out.2 HPR.out hf ht⟩
          have ka := P.box5_cells (HS9.out.gr (t := 0) hgrow (fun b hb => ⟨own_ge HS9.out.o2 b hb, fun e => own_far HS9.out.o2 HS9.out.z (by decide) (by rw [← e]; exact hb), fun e => HS9.out.far.2.2.1 (by rw [← e]; exact hb)⟩)).2.2
          clear k8 p8 hown hown9 hgrow HS9 HS8 HK8 HF s9
          go_wp2
          clear ka
          go_roundg (gk - 1)
          case measure => omega
          case rel => exact ⟨i + 1, n2 + 1, c', q', ol ++ [(k, f, t, m, fr)], by omega, by go_num, by omega, HOL2, HSa⟩
        · have p8 := P.box5_cells HK8.out
          go_wp2
          clear p8
          go_roundg (gk - 1)
          case measure => omega
          case rel => exact ⟨i + 1, n2, c2, q2, ol, by omega, by go_num, by omega, HOL, HS8⟩
      · have p8 := P.box5_cells HK8.out
        go_wp2
        clear p8
        go_roundg (gk - 1)
        case measure => omega
        case rel => exact ⟨i + 1, n2, c2, q2, ol, by omega, by go_num, by omega, HOL, HS8⟩
    · go_wp2
      go_loopg [7] n (fun gk iv wr => ∃ (j n4 c4 : Nat) (q4 : Option Addr) (sl : List ByteArray), j + gk = n ∧ iv = .int .i64 j ∧ n4 = j ∧ Hid (sl.length = n4 ∧ ∀ x ∈ sl, I.RcOk x) ∧ Hid (SU w wr C B a len cap kS (.slice q0 n c0) (.slice q1 m1 c1) (.slice q2 n2 c2) (.slice q3 m3 c3) (.slice q4 n4 c4) n m1 n2 m3 n4 (R.regsV rl) (regsV pl) (prtV ol) (rulV us) (S.strV sl)))
      case atStart => exact ⟨0, 0, 0, none, [], by omega, rfl, by omega, ⟨rfl, fun x h => by cases h⟩, HS6⟩
      case round =>
        clear HS6
        obtain ⟨j, n4, c4, q4, sl, hj, rfl, hn4, HSL, HS⟩ := hrel
        subst hn4
        by_cases hlj : n4 < n
        · go_wp2_with fail
          refine (I.codeD C B a len cap _ HS.out.d.1 hB HS.out.d.2.1).mono ?_
          rintro e w10 ⟨vc, xs, rfl, hxs, _, hownc, hD⟩
          have HXS : Hid (xs.length ≤ 46) := hxs
          have HS10 : Hid (SU w w10 C B a len cap kS (.slice q0 n c0) (.slice q1 m1 c1) (.slice q2 n2 c2) (.slice q3 m3 c3) (.slice q4 n4 c4) n m1 n2 m3 n4 (R.regsV rl) (regsV pl) (prtV ol) (rulV us) (S.strV sl)) := HS.out.on hD
          obtain ⟨qc, cc, hvc, hrd⟩ := hownc.rd
          subst hvc
          obtain ⟨bc, hbc⟩ := I.code_bool xs
          have HRD : Hid (I.RdR w10 qc xs) := hrd
          have HBC : Hid (bc = true ↔ I.CodeR xs) := hbc
          obtain ⟨nx, hnx⟩ : ∃ nx, xs.length = nx := ⟨_, rfl⟩
          have HNX : Hid (xs.length = nx) := hnx
          rw [hnx] at hxs ⊢
          clear hD HS hrd hbc hownc hnx
          go_wp2_with fail
          refine (I.codetextS qc xs nx cc bc HNX.out (by omega) HBC.out _ HRD.out).mono ?_
          rintro e w11 ⟨rfl, hb11⟩
          have HS11 : Hid (SU w w11 C B a len cap kS (.slice q0 n c0) (.slice q1 m1 c1) (.slice q2 n2 c2) (.slice q3 m3 c3) (.slice q4 n4 c4) n m1 n2 m3 n4 (R.regsV rl) (regsV pl) (prtV ol) (rulV us) (S.strV sl)) := HS10.out.bel hb11
          clear hb11 HS10 HRD HBC
          obtain ⟨tx, hct, htx⟩ : ∃ tx, I.ctV xs bc = .tuple #[.string tx, .bool bc] ∧ I.RcOk tx := ct_ok xs bc HXS.out
          have HTX : Hid (I.RcOk tx) := htx
          clear htx
          rw [hct]
          clear hct
          have k11 := HS11.out.cells
          have HS12 : Hid (SU w (w11.alloc (.cells #[.string tx] 9)) C B a len cap kS (.slice q0 n c0) (.slice q1 m1 c1) (.slice q2 n2 c2) (.slice q3 m3 c3) (.slice q4 n4 c4) n m1 n2 m3 n4 (R.regsV rl) (regsV pl) (prtV ol) (rulV us) (S.strV sl)) := HS11.out.al _
          have hown := HS12.out.o4
          obtain ⟨i0, hi, hz0, hz1, hz2⟩ := info_parts infoStr
          have s12 := HS12.out.d.2.2.size
          go_wp2_with (at_builtin; refine wpList_append_own _ rfl _ _ 28 rfl w.heap.size 9 i0 (.string ⟨#[]⟩) 1 16 Tryz.underlying28 hi hz0 hz1 hz2 rfl (by decide) _ _ _ rfl hown ⟨w11.heap.size, 0, none⟩ 1 1 [.string tx] rfl rfl ?c1 ?c2 ?c3 ?c4 ?c5 ?_)
          case c1 => exact one_cellS _ _ _ _ (by simp)
          case c2 => intro u hu; simp at hu; subst hu; rfl
          case c3 => unfold maxLen; omega
          case c4 => omega
          case c5 => exact s12
          intro v' w13 hown13 hgrow _
          obtain ⟨q', c', hv⟩ := own_shapeW hown13
          subst hv
          have HSa : Hid (SU w (w13.setCell ⟨kS, 4, none⟩ (.slice q' (n4 + 1) c')) C B a len cap kS (.slice q0 n c0) (.slice q1 m1 c1) (.slice q2 n2 c2) (.slice q3 m3 c3) (.slice q' (n4 + 1) c') n m1 n2 m3 (n4 + 1) (R.regsV rl) (regsV pl) (prtV ol) (rulV us) (S.strV (sl ++ [tx]))) := by
            show SU _ _ _ _ _ _ _ _ _ _ _ _ _ _ _ _ _ _ _ _ _ _ _
            rw [strV_snoc]
            exact HS12.out.app4 hgrow hown13
          have HSL2 : Hid ((sl ++ [tx]).length = n4 + 1 ∧ ∀ x ∈ sl ++ [tx], I.RcOk x) := ⟨by rw [List.length_append, HSL.out.1]; rfl, fun x hx => by
            rcases List.mem_append.1 hx with hx | hx
            · exact HSL.out.2 x hx
            · rw [List.mem_singleton.1 hx]; exact HTX.out⟩
          have ka := P.box5_cells (HS12.out.gr (t := 0) hgrow (fun b hb => ⟨own_ge HS12.out.o4 b hb, fun e => own_far HS12.out.o4 HS12.out.z (by decide) (by rw [← e]; exact hb), fun e => HS12.out.far.2.2.2.2 (by rw [← e]; exact hb)⟩)).2.2
          clear k11 hown hown13 hgrow HS12 HS11 s12
          go_wp2
          clear ka
          go_roundg (gk - 1)
          case measure => omega
          case rel => exact ⟨n4 + 1, n4 + 1, c', q', sl ++ [tx], by omega, by go_num, rfl, HSL2, HSa⟩
        · have k14 := HS.out.cells
          have kz := P.box5_cells HS.out.z
          go_wp2
          have hjn : n4 = n := by omega
          have HXR : Hid (RightX ⟨rl, pl, ol, us, sl⟩) := by
            have hl := HN.out
            refine ⟨HRL.out, winsOf_plan HPL.out.2 (by omega) HPL.out.1.1 (Nat.le_trans HPL.out.1.2 (by decide)), ⟨by rw [HOL.out.1]; omega, fun i h => (HOL.out.2 _ (List.getElem_mem h)).1⟩, HUS.out.1, ⟨by rw [HSL.out.1, hjn, HN.out], fun i h => HSL.out.2 _ (List.getElem_mem h)⟩, ?_, ?_, ?_⟩
            · intro i h
              have := (HPL.out.2 _ (List.getElem_mem h)).1
              show _ ≤ ((rl.length : Nat) : Int)
              rw [HN.out]
              omega
            · intro i h
              have := (HOL.out.2 _ (List.getElem_mem h)).2
              show _ ≤ ((rl.length : Nat) : Int) ∧ _ ≤ ((rl.length : Nat) : Int)
              rw [HN.out]
              exact this
            · intro i h
              have := HUS.out.2.1 _ (List.getElem_mem h)
              show _ ≤ ((rl.length : Nat) : Int)
              rw [HN.out]
              exact this
          refine bodyPost_ret (v := .agg #[.slice q0 n c0, .slice q1 m1 c1, .slice q2 n2 c2, .slice q3 m3 c3, .slice q4 n4 c4]) (by simp [results, Tryz.results49, go_sem, kz]) rfl ⟨⟨q0, n, c0, q1, m1, c1, q2, n2, c2, q3, m3, c3, q4, n4, c4⟩, ⟨rl, pl, ol, us, sl⟩, rfl, HXR.out, HPL.out.1, by rw [HOL.out.1]; omega, own_capY HS.out.o0, ⟨?_, ?_, ?_, ?_, ?_⟩, drawn_put5 HS.out.d hlt hB⟩
          · exact own_set5 HS.out.o0 (own_far HS.out.o0 HS.out.z (by decide))
          · exact own_set5 HS.out.o1 (own_far HS.out.o1 HS.out.z (by decide))
          · exact own_set5 HS.out.o2 (own_far HS.out.o2 HS.out.z (by decide))
          · exact own_set5 HS.out.o3 (own_far HS.out.o3 HS.out.z (by decide))
          · exact own_set5 HS.out.o4 (own_far HS.out.o4 HS.out.z (by decide))
end Go.Proofs.YtadbekhekggpkaaGreatDoor

namespace Go.Proofs.YtadbekhekggpkaaGreatDoor.R
open Go.RowKit Go.PlainAid
set_option linter.unusedVariables false

theorem regsV_set0 : ∀ (rl : List (Int × Int)) (j : Nat) (h : j < rl.length) (f : Int), (regsV rl).set (j * 2) (.int .i64 f) = regsV (rl.set j (f, rl[j].2))
  | [], j, h, f => by simp at h
  | r :: t, 0, h, f => by simp [regsV]
  | r :: t, j + 1, h, f => by
    have := regsV_set0 t j (by simpa using h) f
    rw [show (j + 1) * 2 = j * 2 + 1 + 1 by omega]
    simpa [regsV] using this
theorem regsV_set1 : ∀ (rl : List (Int × Int)) (j : Nat) (h : j < rl.length) (s : Int), (regsV rl).set (j * 2 + 1) (.int .i64 s) = regsV (rl.set j (rl[j].1, s))
  | [], j, h, s => by simp at h
  | r :: t, 0, h, s => by simp [regsV]
  | r :: t, j + 1, h, s => by
    have := regsV_set1 t j (by simpa using h) s
    rw [show (j + 1) * 2 = j * 2 + 1 + 1 by omega]
    simpa [regsV] using this
theorem own_atR {w : World} {B n g c j : Nat} {rl : List (Int × Int)} (h : w.ownsRow B 48 2 (.slice (some ⟨g, 0, none⟩) n c) n (regsV rl)) (hj : j < rl.length) : w.cell? ⟨g, j * 2, none⟩ = some (.int .i64 rl[j].1) ∧ w.cell? ⟨g, j * 2 + 1, none⟩ = some (.int .i64 rl[j].2) := by
  have hc := h.cells rfl
  have ha := regsV_at rl j hj
  have h1 := hc _ _ ha.1
  have h2 := hc _ _ ha.2
  rw [add_at, Nat.zero_add] at h1 h2
  exact ⟨h1, h2⟩
theorem drawn_put {w W : World} {C B : Nat} {a : Option Addr} {len cap : Nat} (h : Drawn w W C B a len cap) {k : Nat} (i : Nat) (v : Value) (hk : w.heap.size ≤ k) (hC : C < w.heap.size) (hB : B ≤ C) : Drawn w (W.setCell ⟨k, i, none⟩ v) C B a len cap := by
  obtain ⟨⟨j, x, hj, hc⟩, hcode, hg⟩ := h
  refine ⟨⟨j, x, hj, ?_⟩, code_below hcode ((Below.refl _ _).setCell (by show _ ≤ k; omega) v), ?_⟩
  · unfold CurAt
    rw [Below.heap_setCell _ _ _ _ (by show C ≠ k; omega)]
    exact hc
  · have hs : (W.setCell ⟨k, i, none⟩ v).heap.size = W.heap.size := by simp
    exact ⟨hg.os, hg.tape, hg.output, by rw [hs]; exact hg.size, fun m hm hne => (Below.heap_setCell _ _ _ _ (show m ≠ k by omega)).trans (hg.block m hm hne)⟩

set_option maxRecDepth 100000 in
set_option maxHeartbeats 4000000 in
theorem anyR (C B : Nat) (a : Option Addr) (len cap : Nat) (w : World) (hC : Cur w C a len cap) (hB : B ≤ C) (hcode : CodeOk w B a len) :
    Calls Tryz.prog 51 #[.pointer (some ⟨C, 0, none⟩)] w fun e w' => ∃ (v : Value) (rl : List (Int × Int)), e = .returned v ∧ rl.length ≤ 5 ∧ w'.ownsRow w.heap.size 48 2 v rl.length (regsV rl) ∧ Drawn w w' C B a len cap := by
  obtain ⟨i0, hi, hz0, hz1, hz2⟩ := info_parts infoR
  have hlt := cur_lt hC
  have HCu : Hid (Cur w C a len cap) := hC
  have HCo : Hid (CodeOk w B a len) := hcode
  clear hC hcode
  go_enter Tryz.func51, Tryz.ntmps51
  go_wp2_with fail
  refine (regions C B a len cap _ HCu.out hB HCo.out).mono ?_
  rintro e w1 ⟨v, rl, rfl, hok, hown, hD⟩
  obtain ⟨q, c, hv⟩ := own_shape hown
  subst hv
  have hn1 := hok.1
  have hn4 := hok.2.1
  obtain ⟨g, rfl, hg⟩ : ∃ g, q = some ⟨g, 0, none⟩ ∧ w.heap.size ≤ g := by
    rcases hown.2 with ⟨e, e'⟩ | ⟨g, cp, cur, e, hg, _⟩
    · omega
    · cases e; exact ⟨g, rfl, hg⟩
  obtain ⟨n, HN⟩ : ∃ n, Hid (rl.length = n) := ⟨_, rfl⟩
  rw [HN.out] at hown hn1 hn4 ⊢
  have HO1 : Hid (w1.ownsRow w.heap.size 48 2 (.slice (some ⟨g, 0, none⟩) n c) n (regsV rl)) := hown
  have HD1 : Hid (Drawn w w1 C B a len cap) := hD
  clear hok hown hD HCu HCo
  go_wp2_with fail
  refine (below28 C B a len cap n (by omega) (by omega) _ HD1.out.1 hB HD1.out.2.1).mono ?_
  rintro e w2 ⟨k0, rfl, k0a, k0b, hD⟩
  obtain ⟨k, rfl⟩ := Int.eq_ofNat_of_zero_le k0a
  have hkl : k < rl.length := by have := HN.out; omega
  have HD2 : Hid (Drawn w w2 C B a len cap) := drawn_trans HD1.out hD
  have HO2 : Hid (w2.ownsRow w.heap.size 48 2 (.slice (some ⟨g, 0, none⟩) n c) n (regsV rl)) := own_gr HO1.out hD.2.2 hlt
  clear hD HD1 HO1
  go_wp2_with fail
  refine (below28 C B a len cap 12 (by omega) (by omega) _ HD2.out.1 hB HD2.out.2.1).mono ?_
  rintro e w3 ⟨y, rfl, y0, y1, hD⟩
  have HD3 : Hid (Drawn w w3 C B a len cap) := drawn_trans HD2.out hD
  have HO3 : Hid (w3.ownsRow w.heap.size 48 2 (.slice (some ⟨g, 0, none⟩) n c) n (regsV rl)) := own_gr HO2.out hD.2.2 hlt
  have s3 := HD3.out.2.2.size
  have lg := own_lt HO3.out g rfl
  clear hD HD2 HO2
  by_cases h0 : (y == 0) = true
  · have HDa : Hid (∀ o, Drawn w (w3.alloc o) C B a len cap) := fun o => drawn_alloc HD3.out (by omega) o
    have HOa : Hid (∀ o, (w3.alloc o).ownsRow w.heap.size 48 2 (.slice (some ⟨g, 0, none⟩) n c) n (regsV rl)) := fun o => HO3.out.alloc o
    have HLI : Hid _ := laid_ints w3 [-1, 0, 63, 64, -9223372036854775808]
    go_wp2_with fail
    refine (pick26' C B a len cap [-1, 0, 63, 64, -9223372036854775808] 5 _ _ rfl (by omega) (by omega) _ (HDa.out _).1 hB (HDa.out _).2.1 (by omega) (by simp) HLI.out).mono ?_
    rintro e w4 ⟨z, rfl, hz, hD⟩
    have HD4 : Hid (Drawn w w4 C B a len cap) := drawn_trans (HDa.out _) hD
    have HO4 : Hid (w4.ownsRow w.heap.size 48 2 (.slice (some ⟨g, 0, none⟩) n c) n (regsV rl)) := own_gr (HOa.out _) hD.2.2 hlt
    have hc := (own_atR HO4.out hkl).1
    have hfz := HO4.out.frozenAt (k * 2)
    have HO5 : Hid ((w4.setCell ⟨g, k * 2, none⟩ (.int .i64 z)).ownsRow w.heap.size 48 2 (.slice (some ⟨g, 0, none⟩) n c) n (regsV (rl.set k (z, rl[k].2)))) := by
      have := (HO4.out.stored (k * 2) (.int .i64 z)).1
      rw [regsV_set0 rl k hkl] at this
      exact this
    have HD5 : Hid (Drawn w (w4.setCell ⟨g, k * 2, none⟩ (.int .i64 z)) C B a len cap) := drawn_put HD4.out _ _ hg hlt hB
    have HL5 : Hid ((rl.set k (z, rl[k].2)).length = n) := by show _ = _; rw [List.length_set]; exact HN.out
    generalize rl[k].1 = old at hc
    clear hD hz HDa HOa HLI HD3 HO3 HD4 HO4
    go_wp2
    go_ret
    exact ⟨_, rl.set k (z, rl[k].2), rfl, by rw [HL5.out]; omega, by rw [HL5.out]; exact HO5.out, HD5.out⟩
  · have h0' : (y == 0) = false := by simpa using h0
    clear h0
    by_cases h1 : (y == 1) = true
    · have HDa : Hid (∀ o, Drawn w (w3.alloc o) C B a len cap) := fun o => drawn_alloc HD3.out (by omega) o
      have HOa : Hid (∀ o, (w3.alloc o).ownsRow w.heap.size 48 2 (.slice (some ⟨g, 0, none⟩) n c) n (regsV rl)) := fun o => HO3.out.alloc o
      have HLI : Hid _ := laid_ints w3 [0, 64, 65, 9223372036854775807]
      go_wp2_with fail
      refine (pick26' C B a len cap [0, 64, 65, 9223372036854775807] 4 _ _ rfl (by omega) (by omega) _ (HDa.out _).1 hB (HDa.out _).2.1 (by omega) (by simp) HLI.out).mono ?_
      rintro e w4 ⟨z, rfl, hz, hD⟩
      have HD4 : Hid (Drawn w w4 C B a len cap) := drawn_trans (HDa.out _) hD
      have HO4 : Hid (w4.ownsRow w.heap.size 48 2 (.slice (some ⟨g, 0, none⟩) n c) n (regsV rl)) := own_gr (HOa.out _) hD.2.2 hlt
      have hc := (own_atR HO4.out hkl).2
      have hfz := HO4.out.frozenAt (k * 2 + 1)
      have HO5 : Hid ((w4.setCell ⟨g, k * 2 + 1, none⟩ (.int .i64 z)).ownsRow w.heap.size 48 2 (.slice (some ⟨g, 0, none⟩) n c) n (regsV (rl.set k (rl[k].1, z)))) := by
        have := (HO4.out.stored (k * 2 + 1) (.int .i64 z)).1
        rw [regsV_set1 rl k hkl] at this
        exact this
      have HD5 : Hid (Drawn w (w4.setCell ⟨g, k * 2 + 1, none⟩ (.int .i64 z)) C B a len cap) := drawn_put HD4.out _ _ hg hlt hB
      have HL5 : Hid ((rl.set k (rl[k].1, z)).length = n) := by show _ = _; rw [List.length_set]; exact HN.out
      generalize rl[k].2 = old at hc
      clear hD hz HDa HOa HLI HD3 HO3 HD4 HO4
      go_wp2
      go_ret
      exact ⟨_, rl.set k (rl[k].1, z), rfl, by rw [HL5.out]; omega, by rw [HL5.out]; exact HO5.out, HD5.out⟩
    · have h1' : (y == 1) = false := by simpa using h1
      clear h1
      by_cases h2 : (y == 2) = true
      · have hc := own_atR HO3.out hkl
        obtain ⟨f, hf⟩ : ∃ f, rl[k].1 = f := ⟨_, rfl⟩
        obtain ⟨s, hs⟩ : ∃ s, rl[k].2 = s := ⟨_, rfl⟩
        rw [hf, hs] at hc
        clear hf hs
        have hown := HO3.out.alloc (.cells #[.int .i64 f, .int .i64 s] 48)
        go_wp2_with (at_builtin; refine wpList_append_own _ rfl _ _ 24 rfl w.heap.size 48 i0 (.agg #[.int .i64 0, .int .i64 0]) 2 16 Tryz.underlying24 hi hz0 hz1 hz2 rfl (by decide) _ _ _ rfl hown ⟨w3.heap.size, 0, none⟩ 1 1 [.int .i64 f, .int .i64 s] rfl rfl ?c1 ?c2 ?c3 ?c4 ?c5 ?_)
        case c1 => exact two_cellR _ _ _ _ rfl
        case c2 => intro u hu; simp at hu; rcases hu with rfl | rfl <;> rfl
        case c3 => unfold maxLen; omega
        case c4 => omega
        case c5 => simp; omega
        intro v' w5 hown5 hgrow _
        have HD5 : Hid (Drawn w w5 C B a len cap) := drawn_grown (drawn_alloc HD3.out (by omega) _) hgrow (own_ge HO3.out) hlt (by omega)
        obtain ⟨q', c', hv⟩ := own_shape hown5
        subst hv
        have HL5 : Hid ((rl ++ [(f, s)]).length = n + 1) := by show _ = _; simp; exact HN.out
        have HO5 : Hid (w5.ownsRow w.heap.size 48 2 (.slice q' (n + 1) c') (n + 1) (regsV (rl ++ [(f, s)]))) := by
          rw [regsV_append]
          exact hown5
        clear hown hown5 hgrow HD3 HO3
        go_wp2
        go_ret
        exact ⟨_, rl ++ [(f, s)], rfl, by rw [HL5.out]; omega, by rw [HL5.out]; exact HO5.out, HD5.out⟩
      · have h2' : (y == 2) = false := by simpa using h2
        clear h2
        by_cases h3 : (y == 3) = true
        · have HO5 : Hid (World.ownsRow _ _ _ _ _ _ _) := own_emptyR w3 w.heap.size s3
          have HD5 : Hid (Drawn w (w3.alloc (.cells #[] 48)) C B a len cap) := drawn_alloc HD3.out (by omega) _
          clear HD3 HO3
          go_wp2
          go_ret
          exact ⟨_, [], rfl, by simp, HO5.out, HD5.out⟩
        · have h3' : (y == 3) = false := by simpa using h3
          clear h3
          go_wp2
          go_ret
          exact ⟨_, rl, rfl, by rw [HN.out]; omega, by rw [HN.out]; exact HO3.out, HD3.out⟩

end Go.Proofs.YtadbekhekggpkaaGreatDoor.R

namespace Go.Proofs.YtadbekhekggpkaaGreatDoor
open Go.RowKit Go.PlainAid
set_option linter.unusedVariables false

theorem regsV_set0W : ∀ (rl : List (Int × Int)) (h : 0 < rl.length) (f : Int), (regsV rl).set 0 (.int .i64 f) = regsV (rl.set 0 (f, rl[0].2))
  | [], h, f => by simp at h
  | r :: t, h, f => by simp [regsV]
theorem regsV_set1W : ∀ (rl : List (Int × Int)) (h : 0 < rl.length) (f : Int), (regsV rl).set 1 (.int .i64 f) = regsV (rl.set 0 (rl[0].1, f))
  | [], h, f => by simp at h
  | r :: t, h, f => by simp [regsV]
theorem own_grW {W W' : World} {B C T z n : Nat} {v : Value} {xs : List Value} (h : W.ownsRow B T z v n xs) (hg : W.grownBy W' (some C)) (hC : C < B) : W'.ownsRow B T z v n xs :=
  h.kept hg (by
    cases hv : v.ownBlock with
    | none => exact .inl rfl
    | some g => exact .inr (fun e' => by
        cases e'
        rcases h.2 with ⟨rfl, e⟩ | ⟨g, cap, cur, rfl, hg', _⟩
        · simp [Value.ownBlock] at hv
        · simp [Value.ownBlock] at hv; omega))
theorem two_cellW (wr : World) (x y : Value) (T : TypeId) (a : Addr) (ha : a = ⟨wr.heap.size, 0, none⟩) : ∀ j u, [x, y][j]? = some u → (wr.alloc (.cells #[x, y] T)).cell? (a.add j) = some u := by
  intro j u hj
  subst ha
  match j, hj with
  | 0, hj => simp at hj; subst hj; simp [Addr.add]
  | 1, hj => simp at hj; subst hj; simp [Addr.add]
theorem own_emptyW (W : World) (B T k : Nat) (hB : B ≤ W.heap.size) : (W.alloc (.cells #[] T)).ownsRow B T k (.slice (some ⟨W.heap.size, 0, none⟩) 0 0) 0 [] :=
  ⟨by simp, Or.inr ⟨_, 0, #[], rfl, hB, by show (W.heap.push _)[W.heap.size]? = _; simp, Nat.le_refl _, by decide, by simp, by simp⟩⟩

set_option maxRecDepth 100000 in
set_option maxHeartbeats 4000000 in
theorem anyW (C B : Nat) (a : Option Addr) (len cap : Nat) (w : World) (hC : Cur w C a len cap) (hB : B ≤ C) (hcode : CodeOk w B a len) :
    Calls Tryz.prog 52 #[.pointer (some ⟨C, 0, none⟩)] w fun e w' => ∃ (v : Value) (n : Nat) (l : List (Int × Int)), e = .returned v ∧ n ≤ 13 ∧ w'.ownsRow w.heap.size 50 2 v n (regsV l) ∧ Drawn w w' C B a len cap := by
  obtain ⟨i0, hi, hz0, hz1, hz2⟩ := info_parts infoR
  have hlt := cur_lt hC
  have HCu : Hid (Cur w C a len cap) := hC
  have HCo : Hid (CodeOk w B a len) := hcode
  clear hC hcode
  go_enter Tryz.func52, Tryz.ntmps52
  go_wp2_with fail
  refine (planD C B a len cap 4 (by omega) (by omega) _ HCu.out hB HCo.out).mono ?_
  rintro e w1 ⟨v, rl, rfl, hok, _, hown, hD⟩
  obtain ⟨q, c, hv⟩ := own_shapeW hown
  subst hv
  have hown' : w1.ownsRow w.heap.size 50 2 (.slice q rl.length c) rl.length (regsV rl) := hown
  obtain ⟨g, rfl, hg⟩ : ∃ g, q = some ⟨g, 0, none⟩ ∧ w.heap.size ≤ g := by
    rcases hown'.2 with ⟨e, e'⟩ | ⟨g, cp, cur, e, hg, _⟩
    · omega
    · cases e; exact ⟨g, rfl, hg⟩
  obtain ⟨n, hn⟩ : ∃ n, rl.length = n := ⟨_, rfl⟩
  have HN : Hid (rl.length = n) := hn
  have hrl : 0 < rl.length := hok.1
  rw [hn] at hok hown' ⊢
  obtain ⟨hn1, hn5⟩ := hok
  have HO1 : Hid (w1.ownsRow w.heap.size 50 2 (.slice (some ⟨g, 0, none⟩) n c) n (regsV rl)) := hown'
  have HD1 : Hid (Drawn w w1 C B a len cap) := hD
  clear hown hown' hD HCu HCo hn
  go_wp2_with fail
  refine (below28 C B a len cap 12 (by omega) (by omega) _ HD1.out.1 hB HD1.out.2.1).mono ?_
  rintro e w3 ⟨y, rfl, y0, y1, hD⟩
  have HD3 : Hid (Drawn w w3 C B a len cap) := drawn_trans HD1.out hD
  have HO3 : Hid (w3.ownsRow w.heap.size 50 2 (.slice (some ⟨g, 0, none⟩) n c) n (regsV rl)) := own_grW HO1.out hD.2.2 hlt
  have s3 := HD3.out.2.2.size
  have lg := own_lt HO3.out g rfl
  clear hD HD1 HO1
  by_cases h0 : (y == 0) = true
  · have HDa : Hid (∀ o, Drawn w (w3.alloc o) C B a len cap) := fun o => drawn_alloc HD3.out (by omega) o
    have HOa : Hid (∀ o, (w3.alloc o).ownsRow w.heap.size 50 2 (.slice (some ⟨g, 0, none⟩) n c) n (regsV rl)) := fun o => HO3.out.alloc o
    have HLI : Hid _ := laid_ints w3 [0, 4, 5]
    go_wp2_with fail
    refine (pick26' C B a len cap [0, 4, 5] 3 _ _ rfl (by omega) (by omega) _ (HDa.out _).1 hB (HDa.out _).2.1 (by omega) (by simp) HLI.out).mono ?_
    rintro e w4 ⟨z, rfl, hz, hD⟩
    have HD4 : Hid (Drawn w w4 C B a len cap) := drawn_trans (HDa.out _) hD
    have HO4 : Hid (w4.ownsRow w.heap.size 50 2 (.slice (some ⟨g, 0, none⟩) n c) n (regsV rl)) := own_grW (HOa.out _) hD.2.2 hlt
    have hc : ∃ old, w4.cell? ⟨g, 0, none⟩ = some old := by
      have h1 := HO4.out.cellAt 0 (by omega)
      exact ⟨_, h1.trans (List.getElem?_eq_getElem (by have := HO4.out.1; omega))⟩
    obtain ⟨old, hc⟩ := hc
    have hfz := HO4.out.frozenAt 0
    have HO5 : Hid ((w4.setCell ⟨g, 0, none⟩ (.int .i64 z)).ownsRow w.heap.size 50 2 (.slice (some ⟨g, 0, none⟩) n c) n (regsV (rl.set 0 (z, rl[0].2)))) := by
      have := (HO4.out.stored 0 (.int .i64 z)).1
      rw [regsV_set0W rl hrl] at this
      exact this
    have HD5 : Hid (Drawn w (w4.setCell ⟨g, 0, none⟩ (.int .i64 z)) C B a len cap) := P.drawn_put HD4.out _ _ hg hlt hB
    have hn0 : 0 < n := by omega
    clear hD hz HDa HOa HLI HD3 HO3 HD4 HO4
    go_wp2
    go_ret
    exact ⟨_, n, _, rfl, by omega, HO5.out, HD5.out⟩
  · have h0' : (y == 0) = false := by simpa using h0
    clear h0
    by_cases h1 : (y == 1) = true
    · have HDa : Hid (∀ o, Drawn w (w3.alloc o) C B a len cap) := fun o => drawn_alloc HD3.out (by omega) o
      have HOa : Hid (∀ o, (w3.alloc o).ownsRow w.heap.size 50 2 (.slice (some ⟨g, 0, none⟩) n c) n (regsV rl)) := fun o => HO3.out.alloc o
      have HLI : Hid _ := laid_ints w3 [0, 200, 201]
      go_wp2_with fail
      refine (pick26' C B a len cap [0, 200, 201] 3 _ _ rfl (by omega) (by omega) _ (HDa.out _).1 hB (HDa.out _).2.1 (by omega) (by simp) HLI.out).mono ?_
      rintro e w4 ⟨z, rfl, hz, hD⟩
      have HD4 : Hid (Drawn w w4 C B a len cap) := drawn_trans (HDa.out _) hD
      have HO4 : Hid (w4.ownsRow w.heap.size 50 2 (.slice (some ⟨g, 0, none⟩) n c) n (regsV rl)) := own_grW (HOa.out _) hD.2.2 hlt
      have hc : ∃ old, w4.cell? ⟨g, 1, none⟩ = some old := by
        have h1 := HO4.out.cellAt 1 (by omega)
        exact ⟨_, h1.trans (List.getElem?_eq_getElem (by have := HO4.out.1; omega))⟩
      obtain ⟨old, hc⟩ := hc
      have hfz := HO4.out.frozenAt 1
      have HO5 : Hid ((w4.setCell ⟨g, 1, none⟩ (.int .i64 z)).ownsRow w.heap.size 50 2 (.slice (some ⟨g, 0, none⟩) n c) n (regsV (rl.set 0 (rl[0].1, z)))) := by
        have := (HO4.out.stored 1 (.int .i64 z)).1
        rw [regsV_set1W rl hrl] at this
        exact this
      have HD5 : Hid (Drawn w (w4.setCell ⟨g, 1, none⟩ (.int .i64 z)) C B a len cap) := P.drawn_put HD4.out _ _ hg hlt hB
      have hn0 : 0 < n := by omega
      clear hD hz HDa HOa HLI HD3 HO3 HD4 HO4
      go_wp2
      go_ret
      exact ⟨_, n, _, rfl, by omega, HO5.out, HD5.out⟩
    · have h1' : (y == 1) = false := by simpa using h1
      clear h1
      by_cases h2 : (y == 2) = true
      · have HO5 : Hid ((w3.alloc (.cells #[] 50)).ownsRow w.heap.size 50 2 (.slice (some ⟨w3.heap.size, 0, none⟩) 0 0) 0 (regsV [])) := own_emptyW w3 w.heap.size _ _ s3
        have HD5 : Hid (Drawn w (w3.alloc (.cells #[] 50)) C B a len cap) := drawn_alloc HD3.out (by omega) _
        clear HD3 HO3
        go_wp2
        go_ret
        exact ⟨_, 0, [], rfl, by omega, HO5.out, HD5.out⟩
      · have h2' : (y == 2) = false := by simpa using h2
        clear h2
        by_cases h3 : (y == 3) = true
        · go_wp2
          go_loopg [3] 13 (fun gk v wr => ∃ (m cp : Nat) (q : Option Addr) (l : List (Int × Int)), v = .slice q m cp ∧ m + gk = 13 + n ∧ m ≤ 13 ∧ Hid (wr.ownsRow w.heap.size 50 2 (.slice q m cp) m (regsV l)) ∧ Hid (Drawn w wr C B a len cap))
          case atStart => exact ⟨n, c, some ⟨g, 0, none⟩, rl, rfl, by omega, by omega, HO3, HD3⟩
          case round =>
            clear HO3 HD3 lg s3
            obtain ⟨m, cp, q, l, rfl, hmg, hm13, HO, HD⟩ := hrel
            go_wp2_with fail
            refine (below28 C B a len cap 2 (by omega) (by omega) _ HD.out.1 hB HD.out.2.1).mono ?_
            rintro e w5 ⟨x, rfl, x0, x1, hD⟩
            have HD5 : Hid (Drawn w w5 C B a len cap) := drawn_trans HD.out hD
            have HO5 : Hid (w5.ownsRow w.heap.size 50 2 (.slice q m cp) m (regsV l)) := own_grW HO.out hD.2.2 hlt
            clear hD HD HO
            have hw12 : IntKind.i64.wrap (12 + x) = 12 + x := IntWalk.i64_in _ (by omega)
            by_cases hmx : (m : Int) < 12 + x
            · have HDa : Hid (Drawn w (w5.alloc (.cells #[.int .i64 1, .int .i64 1] 50)) C B a len cap) := drawn_alloc HD5.out (by have := HD5.out.2.2.size; omega) _
              have hown := HO5.out.alloc (.cells #[.int .i64 1, .int .i64 1] 50)
              have s5 := HDa.out.2.2.size
              have hge := own_ge hown
              go_wp2_with (at_builtin; refine wpList_append_own _ rfl _ _ 25 rfl w.heap.size 50 i0 (.agg #[.int .i64 0, .int .i64 0]) 2 16 Tryz.underlying25 hi hz0 hz1 hz2 rfl (by decide) _ _ _ rfl hown ⟨w5.heap.size, 0, none⟩ 1 1 [.int .i64 1, .int .i64 1] rfl rfl ?c1 ?c2 ?c3 ?c4 ?c5 ?_)
              case c1 => exact two_cellW _ _ _ _ _ (by simp)
              case c2 => intro u hu; simp at hu; subst hu; rfl
              case c3 => unfold maxLen; omega
              case c4 => omega
              case c5 => exact s5
              intro v' w6 hown6 hgrow _
              obtain ⟨q', c', hv⟩ := own_shapeW hown6
              subst hv
              have HD6 : Hid (Drawn w w6 C B a len cap) := P.drawn_grown HDa.out hgrow hge hlt (by omega)
              have HO6 : Hid (w6.ownsRow w.heap.size 50 2 (.slice q' (m + 1) c') (m + 1) (regsV (l ++ [(1, 1)]))) := by show World.ownsRow _ _ _ _ _ _ _; rw [regsV_append]; exact hown6
              clear hown hown6 hgrow HDa HD5 HO5 s5 hge hw12
              go_wp2
              go_roundg (gk - 1)
              case measure => omega
              case rel => exact ⟨m + 1, c', q', _, rfl, by omega, by omega, HO6, HD6⟩
            · go_wp2
              go_ret
              exact ⟨_, m, l, rfl, hm13, HO5.out, HD5.out⟩
        · have h3' : (y == 3) = false := by simpa using h3
          clear h3
          go_wp2
          go_ret
          exact ⟨_, n, rl, rfl, by omega, HO3.out, HD3.out⟩
end Go.Proofs.YtadbekhekggpkaaGreatDoor

namespace Go.Proofs.YtadbekhekggpkaaGreatDoor
open Go.RowKit Go.PlainAid
set_option linter.unusedVariables false

/-- rules of small numbers -/
def SmU (l : List Rule) : Prop := ∀ r ∈ l, (0 ≤ r.1 ∧ r.1 ≤ 9) ∧ (0 ≤ r.2.1 ∧ r.2.1 ≤ 9) ∧ (0 ≤ r.2.2 ∧ r.2.2 ≤ 9)
theorem smU_of {l : List Rule} (h : RulesR l) : SmU l := fun r hr => by
  obtain ⟨i, hi, rfl⟩ := List.mem_iff_getElem.1 hr
  obtain ⟨h1, h2, h3, _⟩ := (h.1 i hi hi).1
  exact ⟨⟨by omega, by omega⟩, ⟨by omega, by omega⟩, ⟨by omega, by omega⟩⟩
theorem smU_add {l : List Rule} {x y z : Int} (h : SmU l) (hx : 0 ≤ x ∧ x ≤ 9) (hy : 0 ≤ y ∧ y ≤ 9) (hz : 0 ≤ z ∧ z ≤ 9) : SmU (l ++ [(x, y, z)]) := fun r hr => by
  rcases List.mem_append.1 hr with h' | h'
  · exact h r h'
  · simp at h'
    subst h'
    exact ⟨hx, hy, hz⟩
theorem wf_small {n : Int} (h : 0 ≤ n ∧ n ≤ 9) : wfI n := WalkArith.wf_i64 (by omega)
theorem SmU.wf {l : List Rule} (h : SmU l) : WfU l := fun j hj => by
  obtain ⟨h1, h2, h3⟩ := h l[j] (List.getElem_mem hj)
  exact ⟨wf_small h1, wf_small h2, wf_small h3⟩
theorem three_cellU (wr : World) (x y z : Value) (a : Addr) (ha : a = ⟨wr.heap.size, 0, none⟩) : ∀ j u, [x, y, z][j]? = some u → (wr.alloc (.cells #[x, y, z] 54)).cell? (a.add j) = some u := by
  intro j u hj
  subst ha
  match j, hj with
  | 0, hj => simp at hj; subst hj; simp [Addr.add]
  | 1, hj => simp at hj; subst hj; simp [Addr.add]
  | 2, hj => simp at hj; subst hj; simp [Addr.add]

set_option maxRecDepth 100000 in
set_option maxHeartbeats 2000000 in
theorem anyU (C B : Nat) (a : Option Addr) (len cap : Nat) (w : World) (hC : Cur w C a len cap) (hB : B ≤ C) (hcode : CodeOk w B a len) :
    Calls Tryz.prog 54 #[.pointer (some ⟨C, 0, none⟩)] w fun e w' => ∃ (v : Value) (n : Nat) (l : List Rule), e = .returned v ∧ n ≤ 9 ∧ SmU l ∧ OwnU w' w.heap.size v n l ∧ Drawn w w' C B a len cap := by
  obtain ⟨i0, hi, hz0, hz1, hz2⟩ := info_parts infoU
  have hlt := cur_lt hC
  go_enter Tryz.func54, Tryz.ntmps54
  go_wp2_with fail
  refine (rulesD C B a len cap 4 (by omega) (by omega) _ hC hB hcode).mono ?_
  rintro e w1 ⟨v, n, l, rfl, hR, _, hO, hD⟩
  have hn : n ≤ 8 := by have := hR.2; have := hO.len; omega
  have HS : Hid (SmU l) := smU_of hR
  have HD1 : Hid (Drawn w w1 C B a len cap) := hD
  obtain ⟨q, c, rfl⟩ := own_shapeW hO
  have HO1 : Hid (OwnU w1 w.heap.size (.slice q n c) n l) := hO
  clear hR hO hD hC hcode
  go_wp2_with fail
  refine (P.onceR C B a len cap 4 (by omega) (by omega) _ HD1.out.1 hB HD1.out.2.1).mono ?_
  rintro e w2 ⟨bo, rfl, hD⟩
  have HD2 : Hid (Drawn w w2 C B a len cap) := drawn_trans HD1.out hD
  have HO2 : Hid (OwnU w2 w.heap.size (.slice q n c) n l) := own_gr HO1.out hD.2.2 hlt
  clear hD HD1 HO1
  cases bo
  · go_wp2
    go_ret
    exact ⟨_, n, l, rfl, by omega, HS.out, HO2.out, HD2.out⟩
  · go_wp2_with fail
    refine (below28 C B a len cap 6 (by omega) (by omega) _ HD2.out.1 hB HD2.out.2.1).mono ?_
    rintro e w3 ⟨x, rfl, x0, x1, hD⟩
    have HD3 : Hid (Drawn w w3 C B a len cap) := drawn_trans HD2.out hD
    have HO3 : Hid (OwnU w3 w.heap.size (.slice q n c) n l) := own_gr HO2.out hD.2.2 hlt
    clear hD HD2 HO2
    go_wp2_with fail
    refine (below28 C B a len cap 4 (by omega) (by omega) _ HD3.out.1 hB HD3.out.2.1).mono ?_
    rintro e w4 ⟨y, rfl, y0, y1, hD⟩
    have HD4 : Hid (Drawn w w4 C B a len cap) := drawn_trans HD3.out hD
    have HO4 : Hid (OwnU w4 w.heap.size (.slice q n c) n l) := own_gr HO3.out hD.2.2 hlt
    clear hD HD3 HO3
    go_wp2_with fail
    refine (below28 C B a len cap 6 (by omega) (by omega) _ HD4.out.1 hB HD4.out.2.1).mono ?_
    rintro e w5 ⟨z, rfl, z0, z1, hD⟩
    have HD5 : Hid (Drawn w w5 C B a len cap) := drawn_trans HD4.out hD
    have HO5 : Hid (OwnU w5 w.heap.size (.slice q n c) n l) := own_gr HO4.out hD.2.2 hlt
    have s5 := HD5.out.2.2.size
    clear hD HD4 HO4
    have HDa : Hid (Drawn w (w5.alloc (.cells #[.int .i64 x, .int .i64 y, .int .i64 z] 54)) C B a len cap) := drawn_alloc HD5.out (by omega) _
    have hown : (w5.alloc (.cells #[.int .i64 x, .int .i64 y, .int .i64 z] 54)).ownsRow w.heap.size 54 3 (.slice q n c) n (rulV l) := World.ownsRow.alloc HO5.out _
    have HG : Hid (∀ g, (Value.slice q n c).ownBlock = some g → w.heap.size ≤ g) := own_ge HO5.out
    have HS' : Hid (SmU (l ++ [(x, y, z)])) := smU_add HS.out ⟨by omega, by omega⟩ ⟨by omega, by omega⟩ ⟨by omega, by omega⟩
    clear HD5 HO5 HS
    go_wp2_with (at_builtin; refine wpList_append_own _ rfl _ _ 27 rfl w.heap.size 54 i0 (.agg #[.int .i64 0, .int .i64 0, .int .i64 0]) 3 24 Tryz.underlying27 hi hz0 hz1 hz2 rfl (by decide) _ _ _ rfl hown ⟨w5.heap.size, 0, none⟩ 1 1 [.int .i64 x, .int .i64 y, .int .i64 z] rfl rfl ?c1 ?c2 ?c3 ?c4 ?c5 ?_)
    case c1 => exact three_cellU _ _ _ _ _ (by simp)
    case c2 => intro u hu; simp at hu; rcases hu with rfl | rfl | rfl <;> rfl
    case c3 => unfold maxLen; omega
    case c4 => omega
    case c5 => simp; omega
    intro v' w6 hown6 hgrow _
    have HD6 : Hid (Drawn w w6 C B a len cap) := drawn_grownW HDa.out hgrow HG.out hlt (by omega)
    obtain ⟨q', c', hv⟩ := own_shapeW hown6
    subst hv
    have HO6 : Hid (OwnU w6 w.heap.size (.slice q' (n + 1) c') (n + 1) (l ++ [(x, y, z)])) := by
      show World.ownsRow _ _ _ _ _ _ _
      rw [rulV_append]
      exact hown6
    clear hown hown6 hgrow HDa HG
    go_wp2
    go_ret
    exact ⟨_, n + 1, _, rfl, by omega, HS'.out, HO6.out, HD6.out⟩

end Go.Proofs.YtadbekhekggpkaaGreatDoor

namespace Go.Proofs.YtadbekhekggpkaaGreatDoor
open Go.RowKit Go.PlainAid
set_option linter.unusedVariables false
set_option linter.unusedSimpArgs false

theorem right_wfY {X : SX} (h : RightX X) : WfU X.U := fun j hj => by
  obtain ⟨a, b, c⟩ := h.num.u.2 j hj
  exact ⟨WalkArith.wf_i64 (by omega), WalkArith.wf_i64 (by omega), WalkArith.wf_i64 (by omega)⟩
theorem sm_wfY {l : List Rule} (h : SmU l) : WfU l := fun j hj => by
  obtain ⟨a, b, c⟩ := h _ (List.getElem_mem hj)
  exact ⟨WalkArith.wf_i64 (by omega), WalkArith.wf_i64 (by omega), WalkArith.wf_i64 (by omega)⟩
theorem bytes_leY : ∀ {l : List ByteArray} {k : Nat}, (∀ j (h : j < l.length), (l[j]).size ≤ k) → S.bytesS l ≤ k * l.length
  | [], k, _ => by simp [S.bytesS]
  | s :: t, k, h => by
    have h0 : s.size ≤ k := h 0 (by simp)
    have h1 := bytes_leY (l := t) (k := k) (fun j hj => h (j + 1) (by simp; omega))
    have h2 : S.bytesS (s :: t) = s.size + S.bytesS t := rfl
    rw [h2, List.length_cons, Nat.mul_add, Nat.mul_one]
    omega
theorem bytes_addY (l : List ByteArray) (x : ByteArray) : S.bytesS (l ++ [x]) = S.bytesS l + x.size := by
  induction l with
  | nil => simp [S.bytesS]
  | cons s t ih => simp only [List.cons_append, S.bytesS, ih]; omega
theorem strV_set0 (x : ByteArray) : ∀ (l : List ByteArray), (S.strV l).set 0 (.string x) = S.strV (l.set 0 x)
  | [] => rfl
  | a :: t => rfl
/-- small set-ups -/
structure AnyX (s : SH) (X : SX) : Prop where
  n0 : s.n0 ≤ 20
  n1 : s.n1 ≤ 20
  n2 : s.n2 ≤ 20
  n3 : s.n3 ≤ 20
  n4 : s.n4 ≤ 20
  b : S.bytesS X.S ≤ 1000
  u : WfU X.U
theorem AnyX.sm {s : SH} {X : SX} (h : AnyX s X) : SmX s X := by
  obtain ⟨a, b, c, d, e, f, g⟩ := h
  exact ⟨by omega, by omega, by omega, by omega, by omega, by omega⟩
theorem SU.drew {w W : World} {C B : Nat} {a : Option Addr} {len cap kS : Nat} {v0 v1 v2 v3 v4 : Value} {n0 n1 n2 n3 n4 : Nat} {x0 x1 x2 x3 x4 : List Value} (h : SU w W C B a len cap kS v0 v1 v2 v3 v4 n0 n1 n2 n3 n4 x0 x1 x2 x3 x4) : SU w W.drew C B a len cap kS v0 v1 v2 v3 v4 n0 n1 n2 n3 n4 x0 x1 x2 x3 x4 :=
  ⟨P.drawn_drew h.d, h.z, h.s, h.o0, h.o1, h.o2, h.o3, h.o4, h.hC, h.hB, h.hk⟩
theorem wpP5 {o : Oper} {ac : Act} {K : Act → World → Prop} {Q : Exit → Act → World → Prop} {W : World} (s x : Operand)
    (ho : o.op = .call { callee := .builtin .append, args := #[s, x], argTypes := #[26, 26] }) (B r n c : Nat) (q : Option Addr) (k f t m fr : Int) (l : List Prt)
    (hs : ac.eval s = .slice q n c) (hx : ac.eval x = .slice (some ⟨r, 0, none⟩) 1 1)
    (hown : W.ownsRow B 52 5 (.slice q n c) n (prtV l)) (hr : W.heap[r]? = some (.cells #[.int .i64 k, .int .i64 f, .int .i64 t, .int .i64 m, .int .i64 fr] 52)) (hn : n ≤ 20) (hB : B ≤ W.heap.size)
    (h : ∀ g' cap w', w'.ownsRow B 52 5 (.slice (some ⟨g', 0, none⟩) (n + 1) cap) (n + 1) (prtV (l ++ [(k, f, t, m, fr)])) → W.grownBy w' (Value.slice q n c).ownBlock → K (ac.put o.dst (.slice (some ⟨g', 0, none⟩) (n + 1) cap)) w') :
    o.wp Tryz.prog ac W K Q := by
  obtain ⟨i0, hi, hz0, hz1, hz2⟩ := info_parts infoP5
  refine wp_append_lies W s x 26 ho B 52 i0 (.agg #[.int .i64 0, .int .i64 0, .int .i64 0, .int .i64 0, .int .i64 0]) 5 40 Tryz.underlying26 hi hz0 hz1 hz2 rfl (by decide) _ n _ hs hown ⟨r, 0, none⟩ 1 1 [.int .i64 k, .int .i64 f, .int .i64 t, .int .i64 m, .int .i64 fr] hx rfl (World.news_of_block (cs := #[.int .i64 k, .int .i64 f, .int .i64 t, .int .i64 m, .int .i64 fr]) hr) (by intro u hu; simp at hu; rcases hu with rfl | rfl | rfl | rfl | rfl <;> rfl) (by omega) (by unfold maxLen; omega) (by omega) hB _ rfl ?_
  intro g' cap w' h1 h2 _ _
  refine h g' cap w' ?_ h2
  rw [prtV_append]
  exact h1
section
variable {w W W' : World} {C B : Nat} {a : Option Addr} {len cap kS : Nat} {v0 v1 v2 v3 v4 v' : Value} {n0 n1 n2 n3 n4 n' : Nat} {x0 x1 x2 x3 x4 x' : List Value}
theorem SU.g2 (h : SU w W C B a len cap kS v0 v1 v2 v3 v4 n0 n1 n2 n3 n4 x0 x1 x2 x3 x4) (hg : W.grownBy W' v2.ownBlock) : W'.heap[kS]? = some (.cells #[v0, v1, v2, v3, v4] 30) :=
  (h.gr (t := 0) hg (fun b hb => ⟨own_ge h.o2 b hb, fun e => own_far h.o2 h.z (by decide) (by rw [← e]; exact hb), fun e => h.far.2.2.1 (by rw [← e]; exact hb)⟩)).2.2
theorem SU.g4 (h : SU w W C B a len cap kS v0 v1 v2 v3 v4 n0 n1 n2 n3 n4 x0 x1 x2 x3 x4) (hg : W.grownBy W' v4.ownBlock) : W'.heap[kS]? = some (.cells #[v0, v1, v2, v3, v4] 30) :=
  (h.gr (t := 0) hg (fun b hb => ⟨own_ge h.o4 b hb, fun e => own_far h.o4 h.z (by decide) (by rw [← e]; exact hb), fun e => h.far.2.2.2.2 (by rw [← e]; exact hb)⟩)).2.2
theorem SU.conj2 (h : SU w W C B a len cap kS v0 v1 v2 v3 v4 n0 n1 n2 n3 n4 x0 x1 x2 x3 x4) : W.cell? ⟨kS, 2, none⟩ = some v2 ∧ SU w W C B a len cap kS v0 v1 v2 v3 v4 n0 n1 n2 n3 n4 x0 x1 x2 x3 x4 := ⟨h.cells.1.2.2.1, h⟩
theorem su_keep (hD : Drawn W W' C B a len cap) (h : W.cell? ⟨kS, 2, none⟩ = some v2 ∧ SU w W C B a len cap kS v0 v1 v2 v3 v4 n0 n1 n2 n3 n4 x0 x1 x2 x3 x4) : W'.cell? ⟨kS, 2, none⟩ = some v2 ∧ SU w W' C B a len cap kS v0 v1 v2 v3 v4 n0 n1 n2 n3 n4 x0 x1 x2 x3 x4 := (h.2.on hD).conj2
theorem su_of {Q : Prop} (h : Q ∧ SU w W C B a len cap kS v0 v1 v2 v3 v4 n0 n1 n2 n3 n4 x0 x1 x2 x3 x4) : SU w W C B a len cap kS v0 v1 v2 v3 v4 n0 n1 n2 n3 n4 x0 x1 x2 x3 x4 := h.2
/-- behind a store into the first code -/
theorem SU.put4 {g n c : Nat} {l : List ByteArray} (y : ByteArray) (h : SU w W C B a len cap kS v0 v1 v2 v3 (.slice (some ⟨g, 0, none⟩) n c) n0 n1 n2 n3 n x0 x1 x2 x3 (S.strV l)) :
    SU w (W.setCell ⟨g, 0, none⟩ (.string y)) C B a len cap kS v0 v1 v2 v3 (.slice (some ⟨g, 0, none⟩) n c) n0 n1 n2 n3 n x0 x1 x2 x3 (S.strV (l.set 0 y)) := by
  have hge := own_ge h.o4 g rfl
  have hne : g ≠ kS := fun e => h.far.2.2.2.2 (by rw [← e]; rfl)
  have hnz : g ≠ w.heap.size := fun e => own_far h.o4 h.z (by decide) (by rw [← e]; rfl)
  have h4 : (W.setCell ⟨g, 0, none⟩ (.string y)).ownsRow w.heap.size 9 1 (.slice (some ⟨g, 0, none⟩) n c) n (S.strV (l.set 0 y)) := by
    have := (h.o4.stored 0 (.string y)).1
    rw [strV_set0] at this
    exact this
  exact ⟨P.drawn_put h.d _ _ hge h.hC h.hB, P.set_other h.z (Ne.symm hnz), P.set_other h.s (Ne.symm hne), own_set h.o0 (fun e => own_apart h.o0 h.o4 (by decide) g e rfl), own_set h.o1 (fun e => own_apart h.o1 h.o4 (by decide) g e rfl), own_set h.o2 (fun e => own_apart h.o2 h.o4 (by decide) g e rfl), own_set h.o3 (fun e => own_apart h.o3 h.o4 (by decide) g e rfl), h4, h.hC, h.hB, h.hk⟩
end
set_option maxRecDepth 100000 in
set_option maxHeartbeats 8000000 in
theorem anySet (C B : Nat) (a : Option Addr) (len cap : Nat) (w : World) (hC : Cur w C a len cap) (hB : B ≤ C) (hcode : CodeOk w B a len) :
    Calls Tryz.prog 16 #[.pointer (some ⟨C, 0, none⟩)] w fun e w' => ∃ (s : SH) (X : SX), e = .returned (SetV s) ∧ AnyX s X ∧ s.n0 ≤ s.c0 ∧ OwnX w' w.heap.size s X ∧ Drawn w w' C B a len cap := by
  have hlt := cur_lt hC
  have HD0 : Hid (Drawn w (w.alloc (.cells #[nilV, nilV, nilV, nilV, nilV] 30)) C B a len cap) := drawn_alloc ⟨hC, hcode, World.grownBy.refl _ _⟩ (by omega) _
  have HZ0 : Hid ((w.alloc (.cells #[nilV, nilV, nilV, nilV, nilV] 30)).heap[w.heap.size]? = some (.cells #[nilV, nilV, nilV, nilV, nilV] 30)) := heap_new w _
  clear hC hcode
  go_enter Tryz.func16, Tryz.ntmps16
  go_wp2_with fail
  refine (setupD C B a len cap _ HD0.out.1 hB HD0.out.2.1).mono ?_
  rintro e w1 ⟨s, X, rfl, hX, hWl, hOl, hnc, hown, hD⟩
  obtain ⟨q0, n0, c0, q1, n1, c1, q2, n2, c2, q3, n3, c3, q4, n4, c4⟩ := s
  obtain ⟨rl, pl, ol, us, sl⟩ := X
  have HD1 : Hid (Drawn w w1 C B a len cap) := drawn_trans HD0.out hD
  have HZ1 : Hid (w1.heap[w.heap.size]? = some (.cells #[nilV, nilV, nilV, nilV, nilV] 30)) := P.row_drawn HZ0.out hD.2.2 (by omega)
  have hB0 : w.heap.size ≤ (w.alloc (.cells #[nilV, nilV, nilV, nilV, nilV] 30)).heap.size := by simp
  have hrd := hown.rd
  have l0 : rl.length = n0 := hrd.l0
  have l1 : pl.length = n1 := hrd.l1
  have l2 : ol.length = n2 := hrd.l2
  have l3 : us.length = n3 := hrd.l3
  have l4 : sl.length = n4 := hrd.l4
  have nm := hX.num
  have m0 : n0 ≤ 4 := by rw [← l0]; exact nm.r.1
  have m1 : n1 ≤ 12 := by rw [← l1]; exact nm.w.1
  have m2 : n2 ≤ 3 := by rw [← l2]; exact hOl
  have m3 : n3 ≤ 8 := by rw [← l3]; exact nm.u.1
  have m4 : n4 ≤ 4 := by rw [← l4]; exact nm.s.1
  have HP4 : Hid (0 < sl.length) := by
    have h1 : sl.length = rl.length := hX.2.2.2.2.1.1
    have h2 : 1 ≤ rl.length := hX.1.1
    show 0 < sl.length
    omega
  have hp4 : 0 < n4 := by rw [← l4]; exact HP4.out
  have HBY : Hid (S.bytesS sl ≤ 480) := by
    have := bytes_leY (l := sl) (k := 120) nm.s.2
    show S.bytesS sl ≤ 480
    omega
  have HWF : Hid (WfU us) := right_wfY hX
  have s1 := row_lt HZ1.out
  obtain ⟨kS, hkS⟩ : ∃ kS, w1.heap.size = kS := ⟨_, rfl⟩
  have HS1 : Hid (SU w (w1.alloc (.cells #[.slice q0 n0 c0, .slice q1 n1 c1, .slice q2 n2 c2, .slice q3 n3 c3, .slice q4 n4 c4] 30)) C B a len cap kS (.slice q0 n0 c0) (.slice q1 n1 c1) (.slice q2 n2 c2) (.slice q3 n3 c3) (.slice q4 n4 c4) n0 n1 n2 n3 n4 (R.regsV rl) (regsV pl) (prtV ol) (rulV us) (S.strV sl)) :=
    ⟨drawn_alloc HD1.out (by omega) _, row_on HZ1.out ((Below.refl _ _).alloc (Nat.le_refl _) _), by rw [← hkS]; exact heap_new w1 _, World.ownsRow.alloc (own_mono hown.o0 hB0) _, World.ownsRow.alloc (own_mono hown.o1 hB0) _, World.ownsRow.alloc (own_mono hown.o2 hB0) _, World.ownsRow.alloc (own_mono hown.o3 hB0) _, World.ownsRow.alloc (own_mono hown.o4 hB0) _, hlt, hB, by omega⟩
  clear hD HD0 HZ0 HD1 HZ1 hown hrd nm hX hWl hOl hnc hB0 l0 l1 l2 l3 s1
  unfold SetV
  dsimp only
  go_wp2_with fail
  refine (below28 C B a len cap 16 (by omega) (by omega) _ HS1.out.d.1 hB HS1.out.d.2.1).mono ?_
  rintro e w2 ⟨y, rfl, y0, y1, hD⟩
  have HS2 : Hid (SU w w2 C B a len cap kS (.slice q0 n0 c0) (.slice q1 n1 c1) (.slice q2 n2 c2) (.slice q3 n3 c3) (.slice q4 n4 c4) n0 n1 n2 n3 n4 (R.regsV rl) (regsV pl) (prtV ol) (rulV us) (S.strV sl)) := HS1.out.on hD
  clear hD HS1 hkS
  have ways : y = 0 ∨ y = 1 ∨ y = 2 ∨ y = 3 ∨ y = 4 ∨ y = 5 ∨ y = 6 ∨ ((y == 0) = false ∧ (y == 1) = false ∧ (y == 2) = false ∧ (y == 3) = false ∧ (y == 4) = false ∧ (y == 5) = false ∧ (y == 6) = false) := by
    by_cases g0 : y = 0
    · exact .inl g0
    by_cases g1 : y = 1
    · exact .inr (.inl g1)
    by_cases g2 : y = 2
    · exact .inr (.inr (.inl g2))
    by_cases g3 : y = 3
    · exact .inr (.inr (.inr (.inl g3)))
    by_cases g4 : y = 4
    · exact .inr (.inr (.inr (.inr (.inl g4))))
    by_cases g5 : y = 5
    · exact .inr (.inr (.inr (.inr (.inr (.inl g5)))))
    by_cases g6 : y = 6
    · exact .inr (.inr (.inr (.inr (.inr (.inr (.inl g6))))))
    exact .inr (.inr (.inr (.inr (.inr (.inr (.inr ⟨by simpa using g0, by simpa using g1, by simpa using g2, by simpa using g3, by simpa using g4, by simpa using g5, by simpa using g6⟩))))))
  clear y0 y1
  rcases ways with rfl | rfl | rfl | rfl | rfl | rfl | rfl | ⟨g0, g1, g2, g3, g4, g5, g6⟩
  · go_wp2_with fail
    refine (R.anyR C B a len cap _ HS2.out.d.1 hB HS2.out.d.2.1).mono ?_
    rintro e w3 ⟨v, rl2, rfl, hnl, hown, hD⟩
    have HS3 : Hid (SU w w3 C B a len cap kS (.slice q0 n0 c0) (.slice q1 n1 c1) (.slice q2 n2 c2) (.slice q3 n3 c3) (.slice q4 n4 c4) n0 n1 n2 n3 n4 (R.regsV rl) (regsV pl) (prtV ol) (rulV us) (S.strV sl)) := HS2.out.on hD
    have HO : Hid (w3.ownsRow w.heap.size 48 2 v rl2.length (R.regsV rl2)) := own_mono hown HS2.out.d.2.2.size
    obtain ⟨n', hn'⟩ : ∃ n', rl2.length = n' := ⟨_, rfl⟩
    rw [hn'] at HO hnl
    obtain ⟨q', c', hv⟩ := own_shapeW HO.out
    subst hv
    clear hD HS2 hown hn'
    have k3 := HS3.out.cells
    go_upto_region 18 with fail
    clear k3
    have HS4 : Hid (SU w (w3.setCell ⟨kS, 0, none⟩ (.slice q' n' c')) C B a len cap kS (.slice q' n' c') (.slice q1 n1 c1) (.slice q2 n2 c2) (.slice q3 n3 c3) (.slice q4 n4 c4) n' n1 n2 n3 n4 (R.regsV rl2) (regsV pl) (prtV ol) (rulV us) (S.strV sl)) :=
      HS3.out.st (P.set1_row HS3.out.s) HO.out HS3.out.o1 HS3.out.o2 HS3.out.o3 HS3.out.o4
    obtain ⟨w4, hw4⟩ : ∃ w4, w3.setCell ⟨kS, 0, none⟩ (.slice q' n' c') = w4 := ⟨_, rfl⟩
    rw [hw4] at HS4 ⊢
    clear hw4 HS3 HO
    have k9 := HS4.out.cells
    have kz := P.box5_cells HS4.out.z
    go_wp2
    refine bodyPost_ret (v := .agg #[.slice q' n' c', .slice q1 n1 c1, .slice q2 n2 c2, .slice q3 n3 c3, .slice q4 n4 c4]) (by simp [results, Tryz.results16, go_sem, kz]) rfl ⟨⟨q', n', c', q1, n1, c1, q2, n2, c2, q3, n3, c3, q4, n4, c4⟩, ⟨rl2, pl, ol, us, sl⟩, rfl, ⟨by show _ ≤ 20; dsimp only; omega, by show _ ≤ 20; dsimp only; omega, by show _ ≤ 20; dsimp only; omega, by show _ ≤ 20; dsimp only; omega, by show _ ≤ 20; dsimp only; omega, Nat.le_trans HBY.out (by decide), HWF.out⟩, own_capY HS4.out.o0, ⟨?_, ?_, ?_, ?_, ?_⟩, drawn_put5 HS4.out.d hlt hB⟩
    · exact own_set5 HS4.out.o0 (own_far HS4.out.o0 HS4.out.z (by decide))
    · exact own_set5 HS4.out.o1 (own_far HS4.out.o1 HS4.out.z (by decide))
    · exact own_set5 HS4.out.o2 (own_far HS4.out.o2 HS4.out.z (by decide))
    · exact own_set5 HS4.out.o3 (own_far HS4.out.o3 HS4.out.z (by decide))
    · exact own_set5 HS4.out.o4 (own_far HS4.out.o4 HS4.out.z (by decide))
  · go_wp2_with fail
    refine (anyW C B a len cap _ HS2.out.d.1 hB HS2.out.d.2.1).mono ?_
    rintro e w3 ⟨v, n, l, rfl, hnl, hown, hD⟩
    have HS3 : Hid (SU w w3 C B a len cap kS (.slice q0 n0 c0) (.slice q1 n1 c1) (.slice q2 n2 c2) (.slice q3 n3 c3) (.slice q4 n4 c4) n0 n1 n2 n3 n4 (R.regsV rl) (regsV pl) (prtV ol) (rulV us) (S.strV sl)) := HS2.out.on hD
    have HO : Hid (w3.ownsRow w.heap.size 50 2 v n (regsV l)) := own_mono hown HS2.out.d.2.2.size
    obtain ⟨n', hn'⟩ : ∃ n', n = n' := ⟨_, rfl⟩
    rw [hn'] at HO hnl
    obtain ⟨q', c', hv⟩ := own_shapeW HO.out
    subst hv
    clear hD HS2 hown hn'
    have k3 := HS3.out.cells
    go_upto_region 18 with fail
    clear k3
    have HS4 : Hid (SU w (w3.setCell ⟨kS, 1, none⟩ (.slice q' n' c')) C B a len cap kS (.slice q0 n0 c0) (.slice q' n' c') (.slice q2 n2 c2) (.slice q3 n3 c3) (.slice q4 n4 c4) n0 n' n2 n3 n4 (R.regsV rl) (regsV l) (prtV ol) (rulV us) (S.strV sl)) :=
      HS3.out.st (P.set1_row HS3.out.s) HS3.out.o0 HO.out HS3.out.o2 HS3.out.o3 HS3.out.o4
    obtain ⟨w4, hw4⟩ : ∃ w4, w3.setCell ⟨kS, 1, none⟩ (.slice q' n' c') = w4 := ⟨_, rfl⟩
    rw [hw4] at HS4 ⊢
    clear hw4 HS3 HO
    have k9 := HS4.out.cells
    have kz := P.box5_cells HS4.out.z
    go_wp2
    refine bodyPost_ret (v := .agg #[.slice q0 n0 c0, .slice q' n' c', .slice q2 n2 c2, .slice q3 n3 c3, .slice q4 n4 c4]) (by simp [results, Tryz.results16, go_sem, kz]) rfl ⟨⟨q0, n0, c0, q', n', c', q2, n2, c2, q3, n3, c3, q4, n4, c4⟩, ⟨rl, l, ol, us, sl⟩, rfl, ⟨by show _ ≤ 20; dsimp only; omega, by show _ ≤ 20; dsimp only; omega, by show _ ≤ 20; dsimp only; omega, by show _ ≤ 20; dsimp only; omega, by show _ ≤ 20; dsimp only; omega, Nat.le_trans HBY.out (by decide), HWF.out⟩, own_capY HS4.out.o0, ⟨?_, ?_, ?_, ?_, ?_⟩, drawn_put5 HS4.out.d hlt hB⟩
    · exact own_set5 HS4.out.o0 (own_far HS4.out.o0 HS4.out.z (by decide))
    · exact own_set5 HS4.out.o1 (own_far HS4.out.o1 HS4.out.z (by decide))
    · exact own_set5 HS4.out.o2 (own_far HS4.out.o2 HS4.out.z (by decide))
    · exact own_set5 HS4.out.o3 (own_far HS4.out.o3 HS4.out.z (by decide))
    · exact own_set5 HS4.out.o4 (own_far HS4.out.o4 HS4.out.z (by decide))
  · have HSd : Hid (SU w w2.drew C B a len cap kS (.slice q0 n0 c0) (.slice q1 n1 c1) (.slice q2 n2 c2) (.slice q3 n3 c3) (.slice q4 n4 c4) n0 n1 n2 n3 n4 (R.regsV rl) (regsV pl) (prtV ol) (rulV us) (S.strV sl)) := HS2.out.drew
    clear HS2
    go_wp2_with fail
    refine wp_region_held_drew (S := fun w' => True) (by kernel_rfl) trivial (fun hHeld => ?_)
    refine wpAnyH_take (i := 0) (v := ?_) rfl (by kernel_rfl) (by kernel_rfl) (by kernel_rfl) (fun _ _ _ h => h) (Or.inl ⟨by rfl, ?_⟩) (by assumption) ?_
    rotate_left
    · intro w_ hSw; go_simp <;> with_reducible rfl
    try simp only [Act.put, List.setIfInBounds_toArray, List.set_cons_zero, List.set_cons_succ, List.getElem_toArray, List.getElem_cons_zero, List.getElem_cons_succ]
    refine wpAnyH_take (i := 2) (v := ?_) rfl (by kernel_rfl) (by kernel_rfl) (by kernel_rfl) (fun _ _ _ h => h) (Or.inl ⟨by rfl, ?_⟩) (by assumption) ?_
    rotate_left
    · intro w_ hSw; go_simp <;> with_reducible rfl
    try simp only [Act.put, List.setIfInBounds_toArray, List.set_cons_zero, List.set_cons_succ, List.getElem_toArray, List.getElem_cons_zero, List.getElem_cons_succ]
    refine wpAnyH_ready (rs := [1, 3]) (by kernel_rfl) (by simp) ?_
    refine AllReadyH.cons rfl (fun K hK => ?_) (AllReadyH.cons rfl (fun K hK => ?_) (AllReadyH.nil))
    · have kb := HSd.out.cells
      go_simp
      refine hK.out _ _ trivial (fun hHeld1 => ?_)
      clear hK K kb
      try simp only [Act.put, List.setIfInBounds_toArray, List.set_cons_zero, List.set_cons_succ, List.getElem_toArray, List.getElem_cons_zero, List.getElem_cons_succ]
      refine wpAnyH_ready (rs := [3]) (by kernel_rfl) (by simp) ?_
      refine AllReadyH.cons rfl (fun K hK => ?_) (AllReadyH.nil)
      go_simp
      go_at_call 53
      refine (P.anyD C B a len cap _ HSd.out.d.1 hB HSd.out.d.2.1).mono ?_
      rintro e w3 ⟨k, f, t, m, fr, rfl, hD⟩
      go_wp2_with fail
      refine hK.out _ _ trivial (fun hHeld3 => ?_)
      have HS3 : Hid (SU w w3 C B a len cap kS (.slice q0 n0 c0) (.slice q1 n1 c1) (.slice q2 n2 c2) (.slice q3 n3 c3) (.slice q4 n4 c4) n0 n1 n2 n3 n4 (R.regsV rl) (regsV pl) (prtV ol) (rulV us) (S.strV sl)) := HSd.out.on hD
      clear hK K hD HSd
      try simp only [Act.put, List.setIfInBounds_toArray, List.set_cons_zero, List.set_cons_succ, List.getElem_toArray, List.getElem_cons_zero, List.getElem_cons_succ]
      refine wpAnyH_ready (rs := [4]) (by kernel_rfl) (by simp) ?_
      refine AllReadyH.cons rfl (fun K hK => ?_) (AllReadyH.nil)
      go_simp
      refine hK.out _ _ trivial (fun hHeld4 => ?_)
      have HR : Hid ((w3.alloc (.cells #[.int .i64 k, .int .i64 f, .int .i64 t, .int .i64 m, .int .i64 fr] 52)).heap[w3.heap.size]? = some (.cells #[.int .i64 k, .int .i64 f, .int .i64 t, .int .i64 m, .int .i64 fr] 52)) := heap_new w3 _
      have HS5 : Hid (SU w (w3.alloc (.cells #[.int .i64 k, .int .i64 f, .int .i64 t, .int .i64 m, .int .i64 fr] 52)) C B a len cap kS (.slice q0 n0 c0) (.slice q1 n1 c1) (.slice q2 n2 c2) (.slice q3 n3 c3) (.slice q4 n4 c4) n0 n1 n2 n3 n4 (R.regsV rl) (regsV pl) (prtV ol) (rulV us) (S.strV sl)) := HS3.out.al _
      clear hK K HS3
      try simp only [Act.put, List.setIfInBounds_toArray, List.set_cons_zero, List.set_cons_succ, List.getElem_toArray, List.getElem_cons_zero, List.getElem_cons_succ]
      refine wpAnyH_ready (rs := [5]) (by kernel_rfl) (by simp) ?_
      refine AllReadyH.cons rfl (fun K hK => ?_) (AllReadyH.nil)
      refine wpP5 (.tmp 21) (.tmp 24) rfl w.heap.size w3.heap.size n2 c2 q2 k f t m fr ol rfl rfl HS5.out.o2 HR.out (by omega) HS5.out.d.2.2.size ?_
      intro g' cap' w6 hown6 hgr6
      have HS6 : Hid (SU w (w6.setCell ⟨kS, 2, none⟩ (.slice (some ⟨g', 0, none⟩) (n2 + 1) cap')) C B a len cap kS (.slice q0 n0 c0) (.slice q1 n1 c1) (.slice (some ⟨g', 0, none⟩) (n2 + 1) cap') (.slice q3 n3 c3) (.slice q4 n4 c4) n0 n1 (n2 + 1) n3 n4 (R.regsV rl) (regsV pl) (prtV (ol ++ [(k, f, t, m, fr)])) (rulV us) (S.strV sl)) := HS5.out.app2 hgr6 hown6
      have k6 := P.box5_cells (HS5.out.g2 hgr6)
      refine hK.out _ _ trivial (fun hHeld5 => ?_)
      clear hK K hown6 hgr6
      try simp only [Act.put, List.setIfInBounds_toArray, List.set_cons_zero, List.set_cons_succ, List.getElem_toArray, List.getElem_cons_zero, List.getElem_cons_succ]
      refine wpAnyH_take (i := 6) (v := ?_) rfl (by kernel_rfl) (by kernel_rfl) (by kernel_rfl) (fun _ _ _ h => h) (Or.inl ⟨by rfl, ?_⟩) (by assumption) ?_
      rotate_left
      · intro w_ hSw; go_simp <;> with_reducible rfl
      try simp only [Act.put, List.setIfInBounds_toArray, List.set_cons_zero, List.set_cons_succ, List.getElem_toArray, List.getElem_cons_zero, List.getElem_cons_succ]
      refine wpAnyH_ready (rs := [7]) (by kernel_rfl) (by simp) ?_
      refine AllReadyH.cons rfl (fun K hK => ?_) (AllReadyH.nil)
      go_simp
      refine hK.out _ _ trivial (fun hHeld7 => ?_)
      clear hK K k6
      obtain ⟨w7, hw7⟩ : ∃ w7, w6.setCell ⟨kS, 2, none⟩ (.slice (some ⟨g', 0, none⟩) (n2 + 1) cap') = w7 := ⟨_, rfl⟩
      rw [hw7] at HS6 ⊢
      clear hw7 HS5 HR
      refine wpAnyH_done (by kernel_rfl) ?_ _
      have k9 := HS6.out.cells
      have kz := P.box5_cells HS6.out.z
      go_wp2
      refine bodyPost_ret (v := .agg #[.slice q0 n0 c0, .slice q1 n1 c1, .slice (some ⟨g', 0, none⟩) (n2 + 1) cap', .slice q3 n3 c3, .slice q4 n4 c4]) (by simp [results, Tryz.results16, go_sem, kz]) rfl ⟨⟨q0, n0, c0, q1, n1, c1, some ⟨g', 0, none⟩, n2 + 1, cap', q3, n3, c3, q4, n4, c4⟩, ⟨rl, pl, ol ++ [(k, f, t, m, fr)], us, sl⟩, rfl, ⟨by show _ ≤ 20; dsimp only; omega, by show _ ≤ 20; dsimp only; omega, by show _ ≤ 20; dsimp only; omega, by show _ ≤ 20; dsimp only; omega, by show _ ≤ 20; dsimp only; omega, Nat.le_trans HBY.out (by decide), HWF.out⟩, own_capY HS6.out.o0, ⟨?_, ?_, ?_, ?_, ?_⟩, drawn_put5 HS6.out.d hlt hB⟩
      · exact own_set5 HS6.out.o0 (own_far HS6.out.o0 HS6.out.z (by decide))
      · exact own_set5 HS6.out.o1 (own_far HS6.out.o1 HS6.out.z (by decide))
      · exact own_set5 HS6.out.o2 (own_far HS6.out.o2 HS6.out.z (by decide))
      · exact own_set5 HS6.out.o3 (own_far HS6.out.o3 HS6.out.z (by decide))
      · exact own_set5 HS6.out.o4 (own_far HS6.out.o4 HS6.out.z (by decide))
    · go_simp
      go_at_call 53
      refine (P.anyD C B a len cap _ HSd.out.d.1 hB HSd.out.d.2.1).mono ?_
      rintro e w3 ⟨k, f, t, m, fr, rfl, hD⟩
      go_wp2_with fail
      refine hK.out _ _ trivial (fun hHeld3 => ?_)
      have HS3 : Hid (SU w w3 C B a len cap kS (.slice q0 n0 c0) (.slice q1 n1 c1) (.slice q2 n2 c2) (.slice q3 n3 c3) (.slice q4 n4 c4) n0 n1 n2 n3 n4 (R.regsV rl) (regsV pl) (prtV ol) (rulV us) (S.strV sl)) := HSd.out.on hD
      clear hK K hD HSd
      try simp only [Act.put, List.setIfInBounds_toArray, List.set_cons_zero, List.set_cons_succ, List.getElem_toArray, List.getElem_cons_zero, List.getElem_cons_succ]
      refine wpAnyH_ready (rs := [1, 4]) (by kernel_rfl) (by simp) ?_
      refine AllReadyH.cons rfl (fun K hK => ?_) (AllReadyH.cons rfl (fun K hK => ?_) (AllReadyH.nil))
      · have kb := HS3.out.cells
        go_simp
        refine hK.out _ _ trivial (fun hHeld1 => ?_)
        clear hK K kb
        try simp only [Act.put, List.setIfInBounds_toArray, List.set_cons_zero, List.set_cons_succ, List.getElem_toArray, List.getElem_cons_zero, List.getElem_cons_succ]
        refine wpAnyH_ready (rs := [4]) (by kernel_rfl) (by simp) ?_
        refine AllReadyH.cons rfl (fun K hK => ?_) (AllReadyH.nil)
        go_simp
        refine hK.out _ _ trivial (fun hHeld4 => ?_)
        have HR : Hid ((w3.alloc (.cells #[.int .i64 k, .int .i64 f, .int .i64 t, .int .i64 m, .int .i64 fr] 52)).heap[w3.heap.size]? = some (.cells #[.int .i64 k, .int .i64 f, .int .i64 t, .int .i64 m, .int .i64 fr] 52)) := heap_new w3 _
        have HS5 : Hid (SU w (w3.alloc (.cells #[.int .i64 k, .int .i64 f, .int .i64 t, .int .i64 m, .int .i64 fr] 52)) C B a len cap kS (.slice q0 n0 c0) (.slice q1 n1 c1) (.slice q2 n2 c2) (.slice q3 n3 c3) (.slice q4 n4 c4) n0 n1 n2 n3 n4 (R.regsV rl) (regsV pl) (prtV ol) (rulV us) (S.strV sl)) := HS3.out.al _
        clear hK K HS3
        try simp only [Act.put, List.setIfInBounds_toArray, List.set_cons_zero, List.set_cons_succ, List.getElem_toArray, List.getElem_cons_zero, List.getElem_cons_succ]
        refine wpAnyH_ready (rs := [5]) (by kernel_rfl) (by simp) ?_
        refine AllReadyH.cons rfl (fun K hK => ?_) (AllReadyH.nil)
        refine wpP5 (.tmp 21) (.tmp 24) rfl w.heap.size w3.heap.size n2 c2 q2 k f t m fr ol rfl rfl HS5.out.o2 HR.out (by omega) HS5.out.d.2.2.size ?_
        intro g' cap' w6 hown6 hgr6
        have HS6 : Hid (SU w (w6.setCell ⟨kS, 2, none⟩ (.slice (some ⟨g', 0, none⟩) (n2 + 1) cap')) C B a len cap kS (.slice q0 n0 c0) (.slice q1 n1 c1) (.slice (some ⟨g', 0, none⟩) (n2 + 1) cap') (.slice q3 n3 c3) (.slice q4 n4 c4) n0 n1 (n2 + 1) n3 n4 (R.regsV rl) (regsV pl) (prtV (ol ++ [(k, f, t, m, fr)])) (rulV us) (S.strV sl)) := HS5.out.app2 hgr6 hown6
        have k6 := P.box5_cells (HS5.out.g2 hgr6)
        refine hK.out _ _ trivial (fun hHeld5 => ?_)
        clear hK K hown6 hgr6
        try simp only [Act.put, List.setIfInBounds_toArray, List.set_cons_zero, List.set_cons_succ, List.getElem_toArray, List.getElem_cons_zero, List.getElem_cons_succ]
        refine wpAnyH_take (i := 6) (v := ?_) rfl (by kernel_rfl) (by kernel_rfl) (by kernel_rfl) (fun _ _ _ h => h) (Or.inl ⟨by rfl, ?_⟩) (by assumption) ?_
        rotate_left
        · intro w_ hSw; go_simp <;> with_reducible rfl
        try simp only [Act.put, List.setIfInBounds_toArray, List.set_cons_zero, List.set_cons_succ, List.getElem_toArray, List.getElem_cons_zero, List.getElem_cons_succ]
        refine wpAnyH_ready (rs := [7]) (by kernel_rfl) (by simp) ?_
        refine AllReadyH.cons rfl (fun K hK => ?_) (AllReadyH.nil)
        go_simp
        refine hK.out _ _ trivial (fun hHeld7 => ?_)
        clear hK K k6
        obtain ⟨w7, hw7⟩ : ∃ w7, w6.setCell ⟨kS, 2, none⟩ (.slice (some ⟨g', 0, none⟩) (n2 + 1) cap') = w7 := ⟨_, rfl⟩
        rw [hw7] at HS6 ⊢
        clear hw7 HS5 HR
        refine wpAnyH_done (by kernel_rfl) ?_ _
        have k9 := HS6.out.cells
        have kz := P.box5_cells HS6.out.z
        go_wp2
        refine bodyPost_ret (v := .agg #[.slice q0 n0 c0, .slice q1 n1 c1, .slice (some ⟨g', 0, none⟩) (n2 + 1) cap', .slice q3 n3 c3, .slice q4 n4 c4]) (by simp [results, Tryz.results16, go_sem, kz]) rfl ⟨⟨q0, n0, c0, q1, n1, c1, some ⟨g', 0, none⟩, n2 + 1, cap', q3, n3, c3, q4, n4, c4⟩, ⟨rl, pl, ol ++ [(k, f, t, m, fr)], us, sl⟩, rfl, ⟨by show _ ≤ 20; dsimp only; omega, by show _ ≤ 20; dsimp only; omega, by show _ ≤ 20; dsimp only; omega, by show _ ≤ 20; dsimp only; omega, by show _ ≤ 20; dsimp only; omega, Nat.le_trans HBY.out (by decide), HWF.out⟩, own_capY HS6.out.o0, ⟨?_, ?_, ?_, ?_, ?_⟩, drawn_put5 HS6.out.d hlt hB⟩
        · exact own_set5 HS6.out.o0 (own_far HS6.out.o0 HS6.out.z (by decide))
        · exact own_set5 HS6.out.o1 (own_far HS6.out.o1 HS6.out.z (by decide))
        · exact own_set5 HS6.out.o2 (own_far HS6.out.o2 HS6.out.z (by decide))
        · exact own_set5 HS6.out.o3 (own_far HS6.out.o3 HS6.out.z (by decide))
        · exact own_set5 HS6.out.o4 (own_far HS6.out.o4 HS6.out.z (by decide))
      · go_simp
        refine hK.out _ _ trivial (fun hHeld4 => ?_)
        have HR : Hid ((w3.alloc (.cells #[.int .i64 k, .int .i64 f, .int .i64 t, .int .i64 m, .int .i64 fr] 52)).heap[w3.heap.size]? = some (.cells #[.int .i64 k, .int .i64 f, .int .i64 t, .int .i64 m, .int .i64 fr] 52)) := heap_new w3 _
        have HS5 : Hid (SU w (w3.alloc (.cells #[.int .i64 k, .int .i64 f, .int .i64 t, .int .i64 m, .int .i64 fr] 52)) C B a len cap kS (.slice q0 n0 c0) (.slice q1 n1 c1) (.slice q2 n2 c2) (.slice q3 n3 c3) (.slice q4 n4 c4) n0 n1 n2 n3 n4 (R.regsV rl) (regsV pl) (prtV ol) (rulV us) (S.strV sl)) := HS3.out.al _
        clear hK K HS3
        try simp only [Act.put, List.setIfInBounds_toArray, List.set_cons_zero, List.set_cons_succ, List.getElem_toArray, List.getElem_cons_zero, List.getElem_cons_succ]
        refine wpAnyH_ready (rs := [1]) (by kernel_rfl) (by simp) ?_
        refine AllReadyH.cons rfl (fun K hK => ?_) (AllReadyH.nil)
        have kb := HS5.out.cells
        go_simp
        refine hK.out _ _ trivial (fun hHeld1 => ?_)
        clear hK K kb
        try simp only [Act.put, List.setIfInBounds_toArray, List.set_cons_zero, List.set_cons_succ, List.getElem_toArray, List.getElem_cons_zero, List.getElem_cons_succ]
        refine wpAnyH_ready (rs := [5]) (by kernel_rfl) (by simp) ?_
        refine AllReadyH.cons rfl (fun K hK => ?_) (AllReadyH.nil)
        refine wpP5 (.tmp 21) (.tmp 24) rfl w.heap.size w3.heap.size n2 c2 q2 k f t m fr ol rfl rfl HS5.out.o2 HR.out (by omega) HS5.out.d.2.2.size ?_
        intro g' cap' w6 hown6 hgr6
        have HS6 : Hid (SU w (w6.setCell ⟨kS, 2, none⟩ (.slice (some ⟨g', 0, none⟩) (n2 + 1) cap')) C B a len cap kS (.slice q0 n0 c0) (.slice q1 n1 c1) (.slice (some ⟨g', 0, none⟩) (n2 + 1) cap') (.slice q3 n3 c3) (.slice q4 n4 c4) n0 n1 (n2 + 1) n3 n4 (R.regsV rl) (regsV pl) (prtV (ol ++ [(k, f, t, m, fr)])) (rulV us) (S.strV sl)) := HS5.out.app2 hgr6 hown6
        have k6 := P.box5_cells (HS5.out.g2 hgr6)
        refine hK.out _ _ trivial (fun hHeld5 => ?_)
        clear hK K hown6 hgr6
        try simp only [Act.put, List.setIfInBounds_toArray, List.set_cons_zero, List.set_cons_succ, List.getElem_toArray, List.getElem_cons_zero, List.getElem_cons_succ]
        refine wpAnyH_take (i := 6) (v := ?_) rfl (by kernel_rfl) (by kernel_rfl) (by kernel_rfl) (fun _ _ _ h => h) (Or.inl ⟨by rfl, ?_⟩) (by assumption) ?_
        rotate_left
        · intro w_ hSw; go_simp <;> with_reducible rfl
        try simp only [Act.put, List.setIfInBounds_toArray, List.set_cons_zero, List.set_cons_succ, List.getElem_toArray, List.getElem_cons_zero, List.getElem_cons_succ]
        refine wpAnyH_ready (rs := [7]) (by kernel_rfl) (by simp) ?_
        refine AllReadyH.cons rfl (fun K hK => ?_) (AllReadyH.nil)
        go_simp
        refine hK.out _ _ trivial (fun hHeld7 => ?_)
        clear hK K k6
        obtain ⟨w7, hw7⟩ : ∃ w7, w6.setCell ⟨kS, 2, none⟩ (.slice (some ⟨g', 0, none⟩) (n2 + 1) cap') = w7 := ⟨_, rfl⟩
        rw [hw7] at HS6 ⊢
        clear hw7 HS5 HR
        refine wpAnyH_done (by kernel_rfl) ?_ _
        have k9 := HS6.out.cells
        have kz := P.box5_cells HS6.out.z
        go_wp2
        refine bodyPost_ret (v := .agg #[.slice q0 n0 c0, .slice q1 n1 c1, .slice (some ⟨g', 0, none⟩) (n2 + 1) cap', .slice q3 n3 c3, .slice q4 n4 c4]) (by simp [results, Tryz.results16, go_sem, kz]) rfl ⟨⟨q0, n0, c0, q1, n1, c1, some ⟨g', 0, none⟩, n2 + 1, cap', q3, n3, c3, q4, n4, c4⟩, ⟨rl, pl, ol ++ [(k, f, t, m, fr)], us, sl⟩, rfl, ⟨by show _ ≤ 20; dsimp only; omega, by show _ ≤ 20; dsimp only; omega, by show _ ≤ 20; dsimp only; omega, by show _ ≤ 20; dsimp only; omega, by show _ ≤ 20; dsimp only; omega, Nat.le_trans HBY.out (by decide), HWF.out⟩, own_capY HS6.out.o0, ⟨?_, ?_, ?_, ?_, ?_⟩, drawn_put5 HS6.out.d hlt hB⟩
        · exact own_set5 HS6.out.o0 (own_far HS6.out.o0 HS6.out.z (by decide))
        · exact own_set5 HS6.out.o1 (own_far HS6.out.o1 HS6.out.z (by decide))
        · exact own_set5 HS6.out.o2 (own_far HS6.out.o2 HS6.out.z (by decide))
        · exact own_set5 HS6.out.o3 (own_far HS6.out.o3 HS6.out.z (by decide))
        · exact own_set5 HS6.out.o4 (own_far HS6.out.o4 HS6.out.z (by decide))
  · go_wp2_with fail
    refine (anyU C B a len cap _ HS2.out.d.1 hB HS2.out.d.2.1).mono ?_
    rintro e w3 ⟨v, n, l, rfl, hnl, hsu, hown0, hD⟩
    have hown : w3.ownsRow w2.heap.size 54 3 v n (rulV l) := hown0
    clear hown0
    have HSU : Hid (SmU l) := hsu
    clear hsu
    have HS3 : Hid (SU w w3 C B a len cap kS (.slice q0 n0 c0) (.slice q1 n1 c1) (.slice q2 n2 c2) (.slice q3 n3 c3) (.slice q4 n4 c4) n0 n1 n2 n3 n4 (R.regsV rl) (regsV pl) (prtV ol) (rulV us) (S.strV sl)) := HS2.out.on hD
    have HO : Hid (w3.ownsRow w.heap.size 54 3 v n (rulV l)) := own_mono hown HS2.out.d.2.2.size
    obtain ⟨n', hn'⟩ : ∃ n', n = n' := ⟨_, rfl⟩
    rw [hn'] at HO hnl
    obtain ⟨q', c', hv⟩ := own_shapeW HO.out
    subst hv
    clear hD HS2 hown hn'
    have k3 := HS3.out.cells
    go_upto_region 18 with fail
    clear k3
    have HS4 : Hid (SU w (w3.setCell ⟨kS, 3, none⟩ (.slice q' n' c')) C B a len cap kS (.slice q0 n0 c0) (.slice q1 n1 c1) (.slice q2 n2 c2) (.slice q' n' c') (.slice q4 n4 c4) n0 n1 n2 n' n4 (R.regsV rl) (regsV pl) (prtV ol) (rulV l) (S.strV sl)) :=
      HS3.out.st (P.set1_row HS3.out.s) HS3.out.o0 HS3.out.o1 HS3.out.o2 HO.out HS3.out.o4
    obtain ⟨w4, hw4⟩ : ∃ w4, w3.setCell ⟨kS, 3, none⟩ (.slice q' n' c') = w4 := ⟨_, rfl⟩
    rw [hw4] at HS4 ⊢
    clear hw4 HS3 HO
    have k9 := HS4.out.cells
    have kz := P.box5_cells HS4.out.z
    go_wp2
    refine bodyPost_ret (v := .agg #[.slice q0 n0 c0, .slice q1 n1 c1, .slice q2 n2 c2, .slice q' n' c', .slice q4 n4 c4]) (by simp [results, Tryz.results16, go_sem, kz]) rfl ⟨⟨q0, n0, c0, q1, n1, c1, q2, n2, c2, q', n', c', q4, n4, c4⟩, ⟨rl, pl, ol, l, sl⟩, rfl, ⟨by show _ ≤ 20; dsimp only; omega, by show _ ≤ 20; dsimp only; omega, by show _ ≤ 20; dsimp only; omega, by show _ ≤ 20; dsimp only; omega, by show _ ≤ 20; dsimp only; omega, Nat.le_trans HBY.out (by decide), sm_wfY HSU.out⟩, own_capY HS4.out.o0, ⟨?_, ?_, ?_, ?_, ?_⟩, drawn_put5 HS4.out.d hlt hB⟩
    · exact own_set5 HS4.out.o0 (own_far HS4.out.o0 HS4.out.z (by decide))
    · exact own_set5 HS4.out.o1 (own_far HS4.out.o1 HS4.out.z (by decide))
    · exact own_set5 HS4.out.o2 (own_far HS4.out.o2 HS4.out.z (by decide))
    · exact own_set5 HS4.out.o3 (own_far HS4.out.o3 HS4.out.z (by decide))
    · exact own_set5 HS4.out.o4 (own_far HS4.out.o4 HS4.out.z (by decide))
  · have HSa : Hid (SU w (w2.alloc (.cells #[.string ⟨#[120]⟩] 9)) C B a len cap kS (.slice q0 n0 c0) (.slice q1 n1 c1) (.slice q2 n2 c2) (.slice q3 n3 c3) (.slice q4 n4 c4) n0 n1 n2 n3 n4 (R.regsV rl) (regsV pl) (prtV ol) (rulV us) (S.strV sl)) := HS2.out.al _
    have k2 := HS2.out.cells
    have hown := HSa.out.o4
    obtain ⟨i0, hi, hz0, hz1, hz2⟩ := info_parts infoStr
    have s12 := HSa.out.d.2.2.size
    go_wp2_with (at_builtin; refine wpList_append_own _ rfl _ _ 28 rfl w.heap.size 9 i0 (.string ⟨#[]⟩) 1 16 Tryz.underlying28 hi hz0 hz1 hz2 rfl (by decide) _ _ _ rfl hown ⟨w2.heap.size, 0, none⟩ 1 1 [.string ⟨#[120]⟩] rfl rfl ?c1 ?c2 ?c3 ?c4 ?c5 ?_)
    case c1 => exact one_cellS _ _ _ _ (by simp)
    case c2 => intro u hu; simp at hu; subst hu; rfl
    case c3 => unfold maxLen; omega
    case c4 => omega
    case c5 => exact s12
    intro v' w3 hown3 hgrow _
    obtain ⟨q', c', hv⟩ := own_shapeW hown3
    subst hv
    have HS4 : Hid (SU w (w3.setCell ⟨kS, 4, none⟩ (.slice q' (n4 + 1) c')) C B a len cap kS (.slice q0 n0 c0) (.slice q1 n1 c1) (.slice q2 n2 c2) (.slice q3 n3 c3) (.slice q' (n4 + 1) c') n0 n1 n2 n3 (n4 + 1) (R.regsV rl) (regsV pl) (prtV ol) (rulV us) (S.strV (sl ++ [(⟨#[120]⟩ : ByteArray)]))) := by
      show SU _ _ _ _ _ _ _ _ _ _ _ _ _ _ _ _ _ _ _ _ _ _ _
      rw [strV_snoc]
      exact HSa.out.app4 hgrow hown3
    have k3 := P.box5_cells (HSa.out.g4 hgrow)
    have HBX : Hid (S.bytesS (sl ++ [(⟨#[120]⟩ : ByteArray)]) ≤ 481) := by
      have := HBY.out
      show S.bytesS _ ≤ 481
      rw [bytes_addY]
      show S.bytesS sl + 1 ≤ 481
      omega
    clear k2 hown hown3 hgrow HSa HS2 s12
    go_upto_region 18 with fail
    clear k3
    obtain ⟨w4, hw4⟩ : ∃ w4, w3.setCell ⟨kS, 4, none⟩ (.slice q' (n4 + 1) c') = w4 := ⟨_, rfl⟩
    rw [hw4] at HS4 ⊢
    clear hw4
    have k9 := HS4.out.cells
    have kz := P.box5_cells HS4.out.z
    go_wp2
    refine bodyPost_ret (v := .agg #[.slice q0 n0 c0, .slice q1 n1 c1, .slice q2 n2 c2, .slice q3 n3 c3, .slice q' (n4 + 1) c']) (by simp [results, Tryz.results16, go_sem, kz]) rfl ⟨⟨q0, n0, c0, q1, n1, c1, q2, n2, c2, q3, n3, c3, q', n4 + 1, c'⟩, ⟨rl, pl, ol, us, sl ++ [(⟨#[120]⟩ : ByteArray)]⟩, rfl, ⟨by show _ ≤ 20; dsimp only; omega, by show _ ≤ 20; dsimp only; omega, by show _ ≤ 20; dsimp only; omega, by show _ ≤ 20; dsimp only; omega, by show _ ≤ 20; dsimp only; omega, Nat.le_trans HBX.out (by decide), HWF.out⟩, own_capY HS4.out.o0, ⟨?_, ?_, ?_, ?_, ?_⟩, drawn_put5 HS4.out.d hlt hB⟩
    · exact own_set5 HS4.out.o0 (own_far HS4.out.o0 HS4.out.z (by decide))
    · exact own_set5 HS4.out.o1 (own_far HS4.out.o1 HS4.out.z (by decide))
    · exact own_set5 HS4.out.o2 (own_far HS4.out.o2 HS4.out.z (by decide))
    · exact own_set5 HS4.out.o3 (own_far HS4.out.o3 HS4.out.z (by decide))
    · exact own_set5 HS4.out.o4 (own_far HS4.out.o4 HS4.out.z (by decide))
  · obtain ⟨g4, hq4⟩ : ∃ g, q4 = some ⟨g, 0, none⟩ := by
      rcases HS2.out.o4.2 with ⟨e, e'⟩ | ⟨g, cp, cur, e, _⟩
      · omega
      · cases e; exact ⟨g, rfl⟩
    subst hq4
    obtain ⟨x0, hx0⟩ : ∃ x0, sl[0]'HP4.out = x0 := ⟨_, rfl⟩
    have HSd : Hid (SU w w2.drew C B a len cap kS (.slice q0 n0 c0) (.slice q1 n1 c1) (.slice q2 n2 c2) (.slice q3 n3 c3) (.slice (some ⟨g4, 0, none⟩) n4 c4) n0 n1 n2 n3 n4 (R.regsV rl) (regsV pl) (prtV ol) (rulV us) (S.strV sl)) := HS2.out.drew
    have HX0 : Hid (x0.size ≤ 480) := by
      have h1 := S.size_le_bytes HP4.out
      have h2 := HBY.out
      rw [hx0] at h1
      show x0.size ≤ 480
      omega
    have hc4 : w2.drew.cell? ⟨g4, 0, none⟩ = some (.string x0) := by
      have h1 := HSd.out.o4.cellAt 0 (by omega)
      rw [S.strV, List.getElem?_map, List.getElem?_eq_getElem HP4.out, hx0] at h1
      exact h1
    have hf4 := HSd.out.o4.frozenAt 0
    have hcS := HSd.out.cells
    have HSn : Hid (SU w (w2.setCell ⟨g4, 0, none⟩ (.string (x0 ++ (⟨#[120]⟩ : ByteArray)))).drew C B a len cap kS (.slice q0 n0 c0) (.slice q1 n1 c1) (.slice q2 n2 c2) (.slice q3 n3 c3) (.slice (some ⟨g4, 0, none⟩) n4 c4) n0 n1 n2 n3 n4 (R.regsV rl) (regsV pl) (prtV ol) (rulV us) (S.strV (sl.set 0 (x0 ++ (⟨#[120]⟩ : ByteArray))))) := (HS2.out.put4 _).drew
    have HBX : Hid (S.bytesS (sl.set 0 (x0 ++ (⟨#[120]⟩ : ByteArray))) ≤ 481) := by
      have h1 := HBY.out
      have h2 := HP4.out
      show S.bytesS _ ≤ 481
      cases sl with
      | nil => simp at h2
      | cons s0 t0 =>
        have h3 : s0 = x0 := hx0
        subst h3
        show (s0 ++ (⟨#[120]⟩ : ByteArray)).size + S.bytesS t0 ≤ 481
        have h4 : s0.size + S.bytesS t0 ≤ 480 := h1
        rw [ByteArray.size_append]
        show s0.size + 1 + S.bytesS t0 ≤ 481
        omega
    have hxs : x0.size ≤ 480 := HX0.out
    have hnp : (0 : Int) < (n4 : Int) := by omega
    clear HS2 hx0
    go_upto_region 14 with fail
    go_region
    obtain ⟨w7, hw7⟩ : ∃ w7, (w2.setCell ⟨g4, 0, none⟩ (.string (x0 ++ (⟨#[120]⟩ : ByteArray)))).drew = w7 := ⟨_, rfl⟩
    rw [hw7] at HSn ⊢
    clear hw7 HSd hc4 hf4 hcS
    have k9 := HSn.out.cells
    have kz := P.box5_cells HSn.out.z
    go_wp2
    refine bodyPost_ret (v := .agg #[.slice q0 n0 c0, .slice q1 n1 c1, .slice q2 n2 c2, .slice q3 n3 c3, .slice (some ⟨g4, 0, none⟩) n4 c4]) (by simp [results, Tryz.results16, go_sem, kz]) rfl ⟨⟨q0, n0, c0, q1, n1, c1, q2, n2, c2, q3, n3, c3, some ⟨g4, 0, none⟩, n4, c4⟩, ⟨rl, pl, ol, us, sl.set 0 (x0 ++ (⟨#[120]⟩ : ByteArray))⟩, rfl, ⟨by show _ ≤ 20; dsimp only; omega, by show _ ≤ 20; dsimp only; omega, by show _ ≤ 20; dsimp only; omega, by show _ ≤ 20; dsimp only; omega, by show _ ≤ 20; dsimp only; omega, Nat.le_trans HBX.out (by decide), HWF.out⟩, own_capY HSn.out.o0, ⟨?_, ?_, ?_, ?_, ?_⟩, drawn_put5 HSn.out.d hlt hB⟩
    · exact own_set5 HSn.out.o0 (own_far HSn.out.o0 HSn.out.z (by decide))
    · exact own_set5 HSn.out.o1 (own_far HSn.out.o1 HSn.out.z (by decide))
    · exact own_set5 HSn.out.o2 (own_far HSn.out.o2 HSn.out.z (by decide))
    · exact own_set5 HSn.out.o3 (own_far HSn.out.o3 HSn.out.z (by decide))
    · exact own_set5 HSn.out.o4 (own_far HSn.out.o4 HSn.out.z (by decide))
  · go_upto_region 16 with fail
    go_loopg [] 7 (fun gk wr => ∃ (m c2' : Nat) (q2' : Option Addr) (l : List Prt), m + gk = n2 + 7 ∧ m ≤ 7 ∧ Hid (SU w wr C B a len cap kS (.slice q0 n0 c0) (.slice q1 n1 c1) (.slice q2' m c2') (.slice q3 n3 c3) (.slice q4 n4 c4) n0 n1 m n3 n4 (R.regsV rl) (regsV pl) (prtV l) (rulV us) (S.strV sl)))
    case atStart => exact ⟨n2, c2, q2, ol, by omega, by omega, HS2⟩
    case round =>
      clear HS2
      obtain ⟨m, c2', q2', l, hmg, hm7, HS⟩ := hrel
      have HSd : Hid (SU w wr.drew C B a len cap kS (.slice q0 n0 c0) (.slice q1 n1 c1) (.slice q2' m c2') (.slice q3 n3 c3) (.slice q4 n4 c4) n0 n1 m n3 n4 (R.regsV rl) (regsV pl) (prtV l) (rulV us) (S.strV sl)) := HS.out.drew
      go_wp2_with fail
      go_region_held3 (fun w' => w'.cell? ⟨kS, 2, none⟩ = some (.slice q2' m c2') ∧ SU w w' C B a len cap kS (.slice q0 n0 c0) (.slice q1 n1 c1) (.slice q2' m c2') (.slice q3 n3 c3) (.slice q4 n4 c4) n0 n1 m n3 n4 (R.regsV rl) (regsV pl) (prtV l) (rulV us) (S.strV sl)) (first | (with_reducible exact HSd.out.conj2) | (refine su_keep (by assumption) ?_; assumption)) (first | (go_at_call 50; refine (below28 C B a len cap 2 (by omega) (by omega) _ ?_ hB ?_).mono ?_; (exact (su_of (by assumption)).d.1); (exact (su_of (by assumption)).d.2.1); rintro e w5 ⟨x, rfl, x0, x1, hD⟩; have q6 : IntKind.i64.wrap (6 + x) = 6 + x := wrap_in (by omega) (by omega)))
      rename_i HH
      have HS5 : Hid (SU w w5 C B a len cap kS (.slice q0 n0 c0) (.slice q1 n1 c1) (.slice q2' m c2') (.slice q3 n3 c3) (.slice q4 n4 c4) n0 n1 m n3 n4 (R.regsV rl) (regsV pl) (prtV l) (rulV us) (S.strV sl)) := su_of HH
      clear HH hD HS HSd
      by_cases hmx : (m : Int) < 6 + x
      · have k5 := HS5.out.cells
        have HS6 : Hid (SU w (w5.alloc (.cells #[.int .i64 1, .int .i64 1, .int .i64 2, .int .i64 1, .int .i64 0] 52)) C B a len cap kS (.slice q0 n0 c0) (.slice q1 n1 c1) (.slice q2' m c2') (.slice q3 n3 c3) (.slice q4 n4 c4) n0 n1 m n3 n4 (R.regsV rl) (regsV pl) (prtV l) (rulV us) (S.strV sl)) := HS5.out.al _
        have hown := HS6.out.o2
        have s6 := HS6.out.d.2.2.size
        obtain ⟨i0, hi, hz0, hz1, hz2⟩ := info_parts infoP5
        go_wp2_with (at_builtin; refine wpList_append_own _ rfl _ _ 26 rfl w.heap.size 52 i0 (.agg #[.int .i64 0, .int .i64 0, .int .i64 0, .int .i64 0, .int .i64 0]) 5 40 Tryz.underlying26 hi hz0 hz1 hz2 rfl (by decide) _ _ _ rfl hown ⟨w5.heap.size, 0, none⟩ 1 1 [.int .i64 1, .int .i64 1, .int .i64 2, .int .i64 1, .int .i64 0] rfl rfl ?c1 ?c2 ?c3 ?c4 ?c5 ?_)
        case c1 => exact five_cell _ _ _ _ _ _ _ _ (by simp)
        case c2 => intro u hu; simp only [List.mem_cons, List.not_mem_nil, or_false] at hu; rcases hu with rfl | rfl | rfl | rfl | rfl <;> rfl
        case c3 => unfold maxLen; omega
        case c4 => omega
        case c5 => exact s6
        intro v' w7 hown7 hgrow _
        obtain ⟨q', c', hv⟩ := own_shapeW hown7
        subst hv
        have HS8 : Hid (SU w (w7.setCell ⟨kS, 2, none⟩ (.slice q' (m + 1) c')) C B a len cap kS (.slice q0 n0 c0) (.slice q1 n1 c1) (.slice q' (m + 1) c') (.slice q3 n3 c3) (.slice q4 n4 c4) n0 n1 (m + 1) n3 n4 (R.regsV rl) (regsV pl) (prtV (l ++ [(1, 1, 2, 1, 0)])) (rulV us) (S.strV sl)) := by
          show SU _ _ _ _ _ _ _ _ _ _ _ _ _ _ _ _ _ _ _ _ _ _ _
          rw [prtV_append]
          exact HS6.out.app2 hgrow hown7
        have k7 := P.box5_cells (HS6.out.g2 hgrow)
        clear k5 hown hown7 hgrow HS6 HS5 s6
        go_wp2
        clear k7
        go_roundg (gk - 1)
        case measure => omega
        case rel => exact ⟨m + 1, c', q', l ++ [(1, 1, 2, 1, 0)], by omega, by omega, HS8⟩
      · go_upto_region 18 with fail
        have k9 := HS5.out.cells
        have kz := P.box5_cells HS5.out.z
        go_wp2
        refine bodyPost_ret (v := .agg #[.slice q0 n0 c0, .slice q1 n1 c1, .slice q2' m c2', .slice q3 n3 c3, .slice q4 n4 c4]) (by simp [results, Tryz.results16, go_sem, kz]) rfl ⟨⟨q0, n0, c0, q1, n1, c1, q2', m, c2', q3, n3, c3, q4, n4, c4⟩, rfl, ⟨rl, pl, l, us, sl⟩, ⟨by show _ ≤ 20; dsimp only; omega, by show _ ≤ 20; dsimp only; omega, by show _ ≤ 20; dsimp only; omega, by show _ ≤ 20; dsimp only; omega, by show _ ≤ 20; dsimp only; omega, Nat.le_trans HBY.out (by decide), HWF.out⟩, own_capY HS5.out.o0, ⟨?_, ?_, ?_, ?_, ?_⟩, drawn_put5 HS5.out.d hlt hB⟩
        · exact own_set5 HS5.out.o0 (own_far HS5.out.o0 HS5.out.z (by decide))
        · exact own_set5 HS5.out.o1 (own_far HS5.out.o1 HS5.out.z (by decide))
        · exact own_set5 HS5.out.o2 (own_far HS5.out.o2 HS5.out.z (by decide))
        · exact own_set5 HS5.out.o3 (own_far HS5.out.o3 HS5.out.z (by decide))
        · exact own_set5 HS5.out.o4 (own_far HS5.out.o4 HS5.out.z (by decide))
  · have k9 := HS2.out.cells
    have kz := P.box5_cells HS2.out.z
    go_wp2
    refine bodyPost_ret (v := .agg #[.slice q0 n0 c0, .slice q1 n1 c1, .slice q2 n2 c2, .slice q3 n3 c3, .slice q4 n4 c4]) (by simp [results, Tryz.results16, go_sem, kz]) rfl ⟨⟨q0, n0, c0, q1, n1, c1, q2, n2, c2, q3, n3, c3, q4, n4, c4⟩, ⟨rl, pl, ol, us, sl⟩, rfl, ⟨by show _ ≤ 20; dsimp only; omega, by show _ ≤ 20; dsimp only; omega, by show _ ≤ 20; dsimp only; omega, by show _ ≤ 20; dsimp only; omega, by show _ ≤ 20; dsimp only; omega, Nat.le_trans HBY.out (by decide), HWF.out⟩, own_capY HS2.out.o0, ⟨?_, ?_, ?_, ?_, ?_⟩, drawn_put5 HS2.out.d hlt hB⟩
    · exact own_set5 HS2.out.o0 (own_far HS2.out.o0 HS2.out.z (by decide))
    · exact own_set5 HS2.out.o1 (own_far HS2.out.o1 HS2.out.z (by decide))
    · exact own_set5 HS2.out.o2 (own_far HS2.out.o2 HS2.out.z (by decide))
    · exact own_set5 HS2.out.o3 (own_far HS2.out.o3 HS2.out.z (by decide))
    · exact own_set5 HS2.out.o4 (own_far HS2.out.o4 HS2.out.z (by decide))
end Go.Proofs.YtadbekhekggpkaaGreatDoor

namespace Go.Proofs.YtadbekhekggpkaaGreatDoor
open Go.RowKit Go.PlainAid
set_option linter.unusedVariables false

theorem sp_keep {w W W' : World} {C B : Nat} {a : Option Addr} {len cap : Nat} (hD : Drawn W W' C B a len cap) (h : Drawn w W C B a len cap) : Drawn w W' C B a len cap := drawn_trans h hD

set_option maxRecDepth 100000 in
set_option maxHeartbeats 4000000 in
theorem spoiltD (C B : Nat) (a : Option Addr) (len cap : Nat) (s : ByteArray) (hs : s.size ≤ 500000) (w : World) (hC : Cur w C a len cap) (hB : B ≤ C) (hcode : CodeOk w B a len) :
    Calls Tryz.prog 31 #[.pointer (some ⟨C, 0, none⟩), .string s] w fun e w' => ∃ t : ByteArray, e = .returned (.string t) ∧ t.size ≤ s.size + 1 ∧ Drawn w w' C B a len cap := by
  have HD0 : Hid (Drawn w w C B a len cap) := ⟨hC, hcode, World.grownBy.refl _ _⟩
  clear hC hcode
  go_enter Tryz.func31, Tryz.ntmps31
  go_wp2_with fail
  refine (below28 C B a len cap 12 (by omega) (by omega) _ HD0.out.1 hB HD0.out.2.1).mono ?_
  rintro e w1 ⟨y, rfl, y0, y1, hD⟩
  have HD1 : Hid (Drawn w w1 C B a len cap) := hD
  clear hD HD0
  have ways : y = 0 ∨ y = 1 ∨ y = 2 ∨ y = 3 ∨ ((y == 0) = false ∧ (y == 1) = false ∧ (y == 2) = false ∧ (y == 3) = false) := by
    by_cases h1 : y = 0
    · exact .inl h1
    · by_cases h2 : y = 1
      · exact .inr (.inl h2)
      · by_cases h3 : y = 2
        · exact .inr (.inr (.inl h3))
        · by_cases h4 : y = 3
          · exact .inr (.inr (.inr (.inl h4)))
          · exact .inr (.inr (.inr (.inr ⟨by simpa using h1, by simpa using h2, by simpa using h3, by simpa using h4⟩)))
  rcases ways with rfl | rfl | rfl | rfl | ⟨g1, g2, g3, g4⟩
  · go_wp2_with fail
    refine (I.textD C B a len cap 1 (by omega) _ HD1.out.1 hB HD1.out.2.1).mono ?_
    rintro e w2 ⟨t, rfl, ht, hD⟩
    have HD2 : Hid (Drawn w w2 C B a len cap) := drawn_trans HD1.out hD
    clear hD HD1
    go_wp2
    go_ret
    exact ⟨_, rfl, by rw [ByteArray.size_append]; omega, HD2.out⟩
  · go_wp2_with fail
    refine (below28 C B a len cap ((s.size : Int) + 1) (by omega) (by omega) _ HD1.out.1 hB HD1.out.2.1).mono ?_
    rintro e w2 ⟨x, rfl, x0, x1, hD⟩
    obtain ⟨n, rfl⟩ := Int.eq_ofNat_of_zero_le x0
    have hn : n ≤ s.size := by omega
    have HD2 : Hid (Drawn w w2 C B a len cap) := drawn_trans HD1.out hD
    clear hD HD1
    go_wp2
    go_ret
    exact ⟨_, rfl, by rw [ByteArray.size_extract]; omega, HD2.out⟩
  · by_cases hp : 0 < s.size
    · have hp' : (0 : Int) < (s.size : Int) := by omega
      go_wp2_with fail
      refine (below28 C B a len cap (s.size : Int) (by omega) (by omega) _ HD1.out.1 hB HD1.out.2.1).mono ?_
      rintro e w2 ⟨x, rfl, x0, x1, hD⟩
      obtain ⟨n, rfl⟩ := Int.eq_ofNat_of_zero_le x0
      have hn : n < s.size := by omega
      have HD2 : Hid (Drawn w w2 C B a len cap) := drawn_trans HD1.out hD
      have hw0 : IntKind.i64.wrap ((n : Int) + 1) = (n : Int) + 1 := IntWalk.i64_in _ (by omega)
      have a0 : (0 : Int) ≤ (n : Int) := by omega
      have a1 : (n : Int) ≤ (s.size : Int) := by omega
      have a2 : (n : Int) + 1 ≤ (s.size : Int) := by omega
      have a3 : (0 : Int) ≤ (n : Int) + 1 := by omega
      have hz1 : (s.extract 0 n).size ≤ 500000 := by rw [ByteArray.size_extract]; omega
      have hz2 : (s.extract (n + 1) s.size).size ≤ 500000 := by rw [ByteArray.size_extract]; omega
      have b1 : ¬9223372036854775807 < min n s.size + 1 := by omega
      have b2 : ¬9223372036854775807 < min n s.size + 1 + (s.size - (n + 1)) := by omega
      clear hD HD1
      go_wp2_with fail
      go_region_held3 (fun w' => Drawn w w' C B a len cap) (first | assumption | (exact P.drawn_drew HD2.out) | (refine sp_keep (by assumption) ?_; assumption)) (first | (go_at_call 71; refine (I.textD C B a len cap 1 (by omega) _ ?_ hB ?_).mono ?_; (exact (show Drawn _ _ _ _ _ _ _ by assumption).1); (exact (show Drawn _ _ _ _ _ _ _ by assumption).2.1); rintro e w3 ⟨t, rfl, ht, hD⟩))
      rename_i HH
      have HD3 : Hid (Drawn w w3 C B a len cap) := HH
      clear HH hD HD2
      go_wp2
      go_ret
      exact ⟨_, rfl, by simp only [ByteArray.size_append, ByteArray.size_extract]; omega, HD3.out⟩
    · have hp' : ¬ (0 : Int) < (s.size : Int) := by omega
      go_wp2
      go_ret
      exact ⟨s, rfl, by omega, HD1.out⟩
  · by_cases hp : 0 < s.size
    · have hp' : (0 : Int) < (s.size : Int) := by omega
      go_wp2_with fail
      refine (below28 C B a len cap (s.size : Int) (by omega) (by omega) _ HD1.out.1 hB HD1.out.2.1).mono ?_
      rintro e w2 ⟨x, rfl, x0, x1, hD⟩
      obtain ⟨n, rfl⟩ := Int.eq_ofNat_of_zero_le x0
      have hn : n < s.size := by omega
      have HD2 : Hid (Drawn w w2 C B a len cap) := drawn_trans HD1.out hD
      have hw0 : IntKind.i64.wrap ((n : Int) + 1) = (n : Int) + 1 := IntWalk.i64_in _ (by omega)
      have a0 : (0 : Int) ≤ (n : Int) := by omega
      have a1 : (n : Int) ≤ (s.size : Int) := by omega
      have a2 : (n : Int) + 1 ≤ (s.size : Int) := by omega
      have a3 : (0 : Int) ≤ (n : Int) + 1 := by omega
      have hz1 : (s.extract 0 n).size ≤ 500000 := by rw [ByteArray.size_extract]; omega
      have hz2 : (s.extract (n + 1) s.size).size ≤ 500000 := by rw [ByteArray.size_extract]; omega
      have b1 : ¬9223372036854775807 < min n s.size + 1 := by omega
      have b2 : ¬9223372036854775807 < min n s.size + 1 + (s.size - (n + 1)) := by omega
      clear hD HD1
      go_wp2_with fail
      go_region_held3 (fun w' => Drawn w w' C B a len cap) (first | assumption | (exact P.drawn_drew HD2.out) | (refine sp_keep (by assumption) ?_; assumption)) (first | (go_at_call 71; refine (I.textD C B a len cap 1 (by omega) _ ?_ hB ?_).mono ?_; (exact (show Drawn _ _ _ _ _ _ _ by assumption).1); (exact (show Drawn _ _ _ _ _ _ _ by assumption).2.1); rintro e w3 ⟨t, rfl, ht, hD⟩))
      rename_i HH
      have HD3 : Hid (Drawn w w3 C B a len cap) := HH
      clear HH hD HD2
      go_wp2
      go_ret
      exact ⟨_, rfl, by simp only [ByteArray.size_append, ByteArray.size_extract]; omega, HD3.out⟩
    · have hp' : ¬ (0 : Int) < (s.size : Int) := by omega
      go_wp2
      go_ret
      exact ⟨s, rfl, by omega, HD1.out⟩
  · go_wp2
    go_ret
    exact ⟨s, rfl, by omega, HD1.out⟩
end Go.Proofs.YtadbekhekggpkaaGreatDoor
