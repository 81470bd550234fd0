/-
  The lists of a set-up: how much they hold, as they came in, marked and asked.
-/
import Derived.Test.YtfdhcchakoldpaaPrt
import Derived.Test.YtfdhcchakoldpaaRu10
import Derived.Test.YtfdhcchakoldpaaRegB
namespace Go.Proofs.Ytfdhcchakoldpaa
open Go.ChangeShapes Go.WideShapes Go.ChangeAt Go.RowKit Go.PlainAid
set_option linter.unusedVariables false

theorem grown_setc {w W : World} {g i : Nat} (h : w.grownBy W (some g)) (u : Value) : w.grownBy (W.setCell ⟨g, i, none⟩ u) (some g) := by
  have hs : (W.setCell ⟨g, i, none⟩ u).heap.size = W.heap.size := by simp
  exact ⟨h.os, h.tape, h.output, by rw [hs]; exact h.size, fun m hm hne => (Below.heap_setCell _ _ _ _ (show m ≠ g from fun e => hne (by rw [e]))).trans (h.block m hm hne)⟩
theorem storeC_run {w : World} (g i : Nat) (z : Int) {v : Value} (hc : w.cell? ⟨g, i, none⟩ = some v) (hf : w.frozen? ⟨g, i, none⟩ = false) :
    (Instr.storeAt 3 (.pointer (some ⟨g, i, none⟩)) (.int .i64 z)).run Try.prog w = .ok () (w.setCell ⟨g, i, none⟩ (.int .i64 z)) := by
  simp [go_sem, Instr.storeAt, hc, hf]
/-- a number stored into a cell: the world behind it as a letter -/
theorem listStoreC {ops : Array Oper} {rest : List Oper} {o : Oper} {a : Act} {Q : Exit → Act → World → Prop} {w : World} (hgd : o.guard = none) (hd : o.dst = none) (x y : Operand) (ty : TypeId) (ho : o.op = .store ty x y) (hty : ty = 3)
    (g i : Nat) (z : Int) (hx : a.eval x = .pointer (some ⟨g, i, none⟩)) (hy : a.eval y = .int .i64 z) (hc : ∃ v, w.cell? ⟨g, i, none⟩ = some v) (hf : w.frozen? ⟨g, i, none⟩ = false)
    (h : ∀ w', w' = w.setCell ⟨g, i, none⟩ (.int .i64 z) → wpList Try.prog ops Q rest a w') : wpList Try.prog ops Q (o :: rest) a w := by
  obtain ⟨v, hc⟩ := hc
  subst hty
  refine wpList_plain hgd fun _ hK => ?_
  unfold Oper.wp
  simp [execOp, ho, hx, hy, storeC_run g i z hc hf, Result.andThen]
  exact hK _ _ (by rw [hd]; exact h _ rfl)
/-- a list that is being written -/
structure MkS (w W : World) (B : Nat) (T : TypeId) (K g n cap : Nat) (xs : List Value) : Prop where
  o : W.ownsRow B T K (.slice (some ⟨g, 0, none⟩) n cap) n xs
  b : Below B w W
  g : w.grownBy W (some g)
theorem listStoreM {ops : Array Oper} {rest : List Oper} {o : Oper} {a : Act} {Q : Exit → Act → World → Prop} {w w0 : World} {B : Nat} {T : TypeId} {K n cap : Nat} {xs : List Value} (hgd : o.guard = none) (hd : o.dst = none) (x y : Operand) (ty : TypeId) (ho : o.op = .store ty x y) (hty : ty = 3)
    (g i : Nat) (z : Int) (hx : a.eval x = .pointer (some ⟨g, i, none⟩)) (hy : a.eval y = .int .i64 z) (hs : MkS w0 w B T K g n cap xs) (hi : i < n * K)
    (h : ∀ w', MkS w0 w' B T K g n cap (xs.set i (.int .i64 z)) → wpList Try.prog ops Q rest a w') : wpList Try.prog ops Q (o :: rest) a w := by
  have hB : B ≤ g := own_ge hs.o g rfl
  have hc := hs.o.cellAt i hi
  rw [List.getElem?_eq_getElem (by rw [hs.o.1]; exact hi)] at hc
  refine listStoreC hgd hd x y ty ho hty g i z hx hy ⟨_, hc⟩ (hs.o.frozenAt i) ?_
  rintro w' rfl
  exact h _ ⟨(hs.o.stored i _).1, hs.b.setCell hB _, grown_setc hs.g _⟩
def OwnRn (w : World) (B : Nat) (v : Value) (n : Nat) (l : List (Int × Int)) : Prop := w.ownsRow B 185 2 v n (R.regsV l)
def OwnWn (w : World) (B : Nat) (v : Value) (n : Nat) (l : List (Int × Int)) : Prop := w.ownsRow B 43 2 v n (regsV l)
theorem szR11 (a : Option Addr) (n cap : Nat) (m : Int) (m0 : 0 ≤ m) (m1 : m ≤ 1048576) (hn : n ≤ 9223372036854775807) (w : World) : Calls Try.prog 111 #[.slice a n cap, .int .i64 m] w fun e w' => e = .returned (.int .i64 (if (n : Int) ≤ m then m - (n : Int) else -1)) ∧ w' = w := by
  have hw : IntKind.i64.wrap (m - (n : Int)) = m - (n : Int) := wrap_in (by omega) (by omega)
  by_cases h : (n : Int) ≤ m
  · rw [if_pos h]
    have h0 : ¬ m - (n : Int) < 0 := by omega
    go_enter Try.func111, Try.ntmps111
    go_wp2
    go_ret
    exact ⟨rfl, rfl⟩
  · rw [if_neg h]
    have h0 : m - (n : Int) < 0 := by omega
    go_enter Try.func111, Try.ntmps111
    go_wp2
    go_ret
    exact ⟨rfl, rfl⟩
theorem szW11 (a : Option Addr) (n cap : Nat) (m : Int) (m0 : 0 ≤ m) (m1 : m ≤ 1048576) (hn : n ≤ 9223372036854775807) (w : World) : Calls Try.prog 112 #[.slice a n cap, .int .i64 m] w fun e w' => e = .returned (.int .i64 (if (n : Int) ≤ m then m - (n : Int) else -1)) ∧ w' = w := by
  have hw : IntKind.i64.wrap (m - (n : Int)) = m - (n : Int) := wrap_in (by omega) (by omega)
  by_cases h : (n : Int) ≤ m
  · rw [if_pos h]
    have h0 : ¬ m - (n : Int) < 0 := by omega
    go_enter Try.func112, Try.ntmps112
    go_wp2
    go_ret
    exact ⟨rfl, rfl⟩
  · rw [if_neg h]
    have h0 : m - (n : Int) < 0 := by omega
    go_enter Try.func112, Try.ntmps112
    go_wp2
    go_ret
    exact ⟨rfl, rfl⟩
theorem szO11 (a : Option Addr) (n cap : Nat) (m : Int) (m0 : 0 ≤ m) (m1 : m ≤ 1048576) (hn : n ≤ 9223372036854775807) (w : World) : Calls Try.prog 113 #[.slice a n cap, .int .i64 m] w fun e w' => e = .returned (.int .i64 (if (n : Int) ≤ m then m - (n : Int) else -1)) ∧ w' = w := by
  have hw : IntKind.i64.wrap (m - (n : Int)) = m - (n : Int) := wrap_in (by omega) (by omega)
  by_cases h : (n : Int) ≤ m
  · rw [if_pos h]
    have h0 : ¬ m - (n : Int) < 0 := by omega
    go_enter Try.func113, Try.ntmps113
    go_wp2
    go_ret
    exact ⟨rfl, rfl⟩
  · rw [if_neg h]
    have h0 : m - (n : Int) < 0 := by omega
    go_enter Try.func113, Try.ntmps113
    go_wp2
    go_ret
    exact ⟨rfl, rfl⟩
theorem szU11 (a : Option Addr) (n cap : Nat) (m : Int) (m0 : 0 ≤ m) (m1 : m ≤ 1048576) (hn : n ≤ 9223372036854775807) (w : World) : Calls Try.prog 114 #[.slice a n cap, .int .i64 m] w fun e w' => e = .returned (.int .i64 (if (n : Int) ≤ m then m - (n : Int) else -1)) ∧ w' = w := by
  have hw : IntKind.i64.wrap (m - (n : Int)) = m - (n : Int) := wrap_in (by omega) (by omega)
  by_cases h : (n : Int) ≤ m
  · rw [if_pos h]
    have h0 : ¬ m - (n : Int) < 0 := by omega
    go_enter Try.func114, Try.ntmps114
    go_wp2
    go_ret
    exact ⟨rfl, rfl⟩
  · rw [if_neg h]
    have h0 : m - (n : Int) < 0 := by omega
    go_enter Try.func114, Try.ntmps114
    go_wp2
    go_ret
    exact ⟨rfl, rfl⟩
theorem openR11_cells : Try.prog.cellsOf 267 = 2 := by kernel_rfl
set_option maxRecDepth 100000 in
theorem openR11 {H : Type} {enc : TypeId × Value → H} {W : World} {held : Bool} {v : Value} {x : DataW H × List MemPlace} {bs fuel : Nat}
    (hf : DataW.trod enc Try.prog W bs (fun _ => true) held fuel 75 [v] = some x) :
    ∃ a len cap, ∃ l : List (Int × Int), v = .slice a len cap ∧ l.length = len ∧ len ≤ cap ∧ len ≤ 9223372036854775807 ∧ R.RdR W a l ∧ ∀ j (h : j < l.length), (Lit.int .i64 l[j].1).wf = true ∧ (Lit.int .i64 l[j].2).wf = true := by
  rcases Go.Deep.open_slice Try.underlying75 hf with ⟨hcs, _⟩ | ⟨ad, l, c, m, k, D, Pl, hcs, _, hl, hm, hmm, _, hcell⟩
  · simp at hcs
    subst hcs
    exact ⟨none, 0, 0, [], rfl, rfl, Nat.le_refl _, by omega, fun h => by simp at h, fun j h => by simp at h⟩
  · simp at hcs
    subst hcs
    simp at hmm
    subst hmm
    unfold maxLen at hm
    have each : ∀ i, i < l → ∃ r : Int × Int, W.cell? (ad.add (i * 2)) = some (.int .i64 r.1) ∧ W.cell? (ad.add (i * 2 + 1)) = some (.int .i64 r.2) ∧ (Lit.int .i64 r.1).wf = true ∧ (Lit.int .i64 r.2).wf = true := by
      intro i hi
      obtain ⟨cs', h1, h2⟩ := hcell i (by omega)
      rw [openR11_cells] at h1
      obtain ⟨_, hlen, hc⟩ := World.cells?_some h1
      obtain ⟨xs, kk, hk, hxy, _, hxl, hf⟩ := DataW.trod_struct Try.underlying267 h2
      match xs, hxl, cs', hlen with
      | [y0, y1], _, [v0, v1], _ =>
        have g0 := hf 0 _ rfl
        have g1 := hf 1 _ rfl
        simp [cells3] at g0 g1
        have e0 := hc 0 (by omega)
        have e1 := hc 1 (by omega)
        rw [Go.Deep.add_add] at e0 e1
        obtain ⟨z0, q0, _, u0⟩ := DataW.trod_int Try.underlying3 g0
        obtain ⟨z1, q1, _, u1⟩ := DataW.trod_int Try.underlying3 g1
        simp at q0 q1
        subst q0 q1
        exact ⟨(z0, z1), by simpa using e0, by simpa using e1, u0, u1⟩
    obtain ⟨q, hq⟩ := Go.Deep.choose_lt each
    refine ⟨some ad, l, _, (List.range l).map q, rfl, by simp, hl, by omega, fun h0 => ?_, fun j hj => ?_⟩
    · have h0' : 0 < l := by simpa using h0
      obtain ⟨b, off, spot⟩ := ad
      have hspot : spot = none := by simpa [Addr.add] using World.cell?_spot (hq 0 (by omega)).1
      subst hspot
      refine ⟨b, off, rfl, fun j hj => ?_⟩
      have hj' : j < l := by simpa using hj
      obtain ⟨h0, h1, _⟩ := hq j hj'
      rw [add_at] at h0 h1
      simp only [List.getElem_map, List.getElem_range]
      exact ⟨h0, h1⟩
    · have hj' : j < l := by simpa using hj
      simp only [List.getElem_map, List.getElem_range]
      exact (hq j hj').2.2
theorem openW11_cells : Try.prog.cellsOf 269 = 2 := by kernel_rfl
set_option maxRecDepth 100000 in
theorem openW11 {H : Type} {enc : TypeId × Value → H} {W : World} {held : Bool} {v : Value} {x : DataW H × List MemPlace} {bs fuel : Nat}
    (hf : DataW.trod enc Try.prog W bs (fun _ => true) held fuel 76 [v] = some x) :
    ∃ a len cap, ∃ l : List (Int × Int), v = .slice a len cap ∧ l.length = len ∧ len ≤ cap ∧ len ≤ 9223372036854775807 ∧ RdR W a l ∧ ∀ j (h : j < l.length), (Lit.int .i64 l[j].1).wf = true ∧ (Lit.int .i64 l[j].2).wf = true := by
  rcases Go.Deep.open_slice Try.underlying76 hf with ⟨hcs, _⟩ | ⟨ad, l, c, m, k, D, Pl, hcs, _, hl, hm, hmm, _, hcell⟩
  · simp at hcs
    subst hcs
    exact ⟨none, 0, 0, [], rfl, rfl, Nat.le_refl _, by omega, fun h => by simp at h, fun j h => by simp at h⟩
  · simp at hcs
    subst hcs
    simp at hmm
    subst hmm
    unfold maxLen at hm
    have each : ∀ i, i < l → ∃ r : Int × Int, W.cell? (ad.add (i * 2)) = some (.int .i64 r.1) ∧ W.cell? (ad.add (i * 2 + 1)) = some (.int .i64 r.2) ∧ (Lit.int .i64 r.1).wf = true ∧ (Lit.int .i64 r.2).wf = true := by
      intro i hi
      obtain ⟨cs', h1, h2⟩ := hcell i (by omega)
      rw [openW11_cells] at h1
      obtain ⟨_, hlen, hc⟩ := World.cells?_some h1
      obtain ⟨xs, kk, hk, hxy, _, hxl, hf⟩ := DataW.trod_struct Try.underlying269 h2
      match xs, hxl, cs', hlen with
      | [y0, y1], _, [v0, v1], _ =>
        have g0 := hf 0 _ rfl
        have g1 := hf 1 _ rfl
        simp [cells3] at g0 g1
        have e0 := hc 0 (by omega)
        have e1 := hc 1 (by omega)
        rw [Go.Deep.add_add] at e0 e1
        obtain ⟨z0, q0, _, u0⟩ := DataW.trod_int Try.underlying3 g0
        obtain ⟨z1, q1, _, u1⟩ := DataW.trod_int Try.underlying3 g1
        simp at q0 q1
        subst q0 q1
        exact ⟨(z0, z1), by simpa using e0, by simpa using e1, u0, u1⟩
    obtain ⟨q, hq⟩ := Go.Deep.choose_lt each
    refine ⟨some ad, l, _, (List.range l).map q, rfl, by simp, hl, by omega, fun h0 => ?_, fun j hj => ?_⟩
    · have h0' : 0 < l := by simpa using h0
      obtain ⟨b, off, spot⟩ := ad
      have hspot : spot = none := by simpa [Addr.add] using World.cell?_spot (hq 0 (by omega)).1
      subst hspot
      refine ⟨b, off, rfl, fun j hj => ?_⟩
      have hj' : j < l := by simpa using hj
      obtain ⟨h0, h1, _⟩ := hq j hj'
      rw [add_at] at h0 h1
      simp only [List.getElem_map, List.getElem_range]
      exact ⟨h0, h1⟩
    · have hj' : j < l := by simpa using hj
      simp only [List.getElem_map, List.getElem_range]
      exact (hq j hj').2.2
theorem openO11_cells : Try.prog.cellsOf 271 = 5 := by kernel_rfl
set_option maxRecDepth 100000 in
theorem openO11 {H : Type} {enc : TypeId × Value → H} {W : World} {held : Bool} {v : Value} {x : DataW H × List MemPlace} {bs fuel : Nat}
    (hf : DataW.trod enc Try.prog W bs (fun _ => true) held fuel 77 [v] = some x) :
    ∃ a len cap, ∃ l : List (Int × Int × Int × Int × Int), v = .slice a len cap ∧ l.length = len ∧ len ≤ cap ∧ len ≤ 9223372036854775807 ∧ RdO W a l ∧ ∀ j (h : j < l.length), (Lit.int .i64 l[j].1).wf = true ∧ (Lit.int .i64 l[j].2.1).wf = true ∧ (Lit.int .i64 l[j].2.2.1).wf = true ∧ (Lit.int .i64 l[j].2.2.2.1).wf = true ∧ (Lit.int .i64 l[j].2.2.2.2).wf = true := by
  rcases Go.Deep.open_slice Try.underlying77 hf with ⟨hcs, _⟩ | ⟨ad, l, c, m, k, D, Pl, hcs, _, hl, hm, hmm, _, hcell⟩
  · simp at hcs
    subst hcs
    exact ⟨none, 0, 0, [], rfl, rfl, Nat.le_refl _, by omega, fun h => by simp at h, fun j h => by simp at h⟩
  · simp at hcs
    subst hcs
    simp at hmm
    subst hmm
    unfold maxLen at hm
    have each : ∀ i, i < l → ∃ r : Int × Int × Int × Int × Int, W.cell? (ad.add (i * 5)) = some (.int .i64 r.1) ∧ W.cell? (ad.add (i * 5 + 1)) = some (.int .i64 r.2.1) ∧ W.cell? (ad.add (i * 5 + 2)) = some (.int .i64 r.2.2.1) ∧ W.cell? (ad.add (i * 5 + 3)) = some (.int .i64 r.2.2.2.1) ∧ W.cell? (ad.add (i * 5 + 4)) = some (.int .i64 r.2.2.2.2) ∧ (Lit.int .i64 r.1).wf = true ∧ (Lit.int .i64 r.2.1).wf = true ∧ (Lit.int .i64 r.2.2.1).wf = true ∧ (Lit.int .i64 r.2.2.2.1).wf = true ∧ (Lit.int .i64 r.2.2.2.2).wf = true := by
      intro i hi
      obtain ⟨cs', h1, h2⟩ := hcell i (by omega)
      rw [openO11_cells] at h1
      obtain ⟨_, hlen, hc⟩ := World.cells?_some h1
      obtain ⟨xs, kk, hk, hxy, _, hxl, hf⟩ := DataW.trod_struct Try.underlying271 h2
      match xs, hxl, cs', hlen with
      | [y0, y1, y2, y3, y4], _, [v0, v1, v2, v3, v4], _ =>
        have g0 := hf 0 _ rfl
        have g1 := hf 1 _ rfl
        have g2 := hf 2 _ rfl
        have g3 := hf 3 _ rfl
        have g4 := hf 4 _ rfl
        simp [cells3] at g0 g1 g2 g3 g4
        have e0 := hc 0 (by omega)
        have e1 := hc 1 (by omega)
        have e2 := hc 2 (by omega)
        have e3 := hc 3 (by omega)
        have e4 := hc 4 (by omega)
        rw [Go.Deep.add_add] at e0 e1 e2 e3 e4
        obtain ⟨z0, q0, _, u0⟩ := DataW.trod_int Try.underlying3 g0
        obtain ⟨z1, q1, _, u1⟩ := DataW.trod_int Try.underlying3 g1
        obtain ⟨z2, q2, _, u2⟩ := DataW.trod_int Try.underlying3 g2
        obtain ⟨z3, q3, _, u3⟩ := DataW.trod_int Try.underlying3 g3
        obtain ⟨z4, q4, _, u4⟩ := DataW.trod_int Try.underlying3 g4
        simp at q0 q1 q2 q3 q4
        subst q0 q1 q2 q3 q4
        exact ⟨(z0, z1, z2, z3, z4), by simpa using e0, by simpa using e1, by simpa using e2, by simpa using e3, by simpa using e4, u0, u1, u2, u3, u4⟩
    obtain ⟨q, hq⟩ := Go.Deep.choose_lt each
    refine ⟨some ad, l, _, (List.range l).map q, rfl, by simp, hl, by omega, fun h0 => ?_, fun j hj => ?_⟩
    · have h0' : 0 < l := by simpa using h0
      obtain ⟨b, off, spot⟩ := ad
      have hspot : spot = none := by simpa [Addr.add] using World.cell?_spot (hq 0 (by omega)).1
      subst hspot
      refine ⟨b, off, rfl, fun j hj => ?_⟩
      have hj' : j < l := by simpa using hj
      obtain ⟨h0, h1, h2, h3, h4, _⟩ := hq j hj'
      rw [add_at] at h0 h1 h2 h3 h4
      simp only [List.getElem_map, List.getElem_range]
      exact ⟨h0, h1, h2, h3, h4⟩
    · have hj' : j < l := by simpa using hj
      simp only [List.getElem_map, List.getElem_range]
      exact (hq j hj').2.2.2.2.2
theorem openU11_cells : Try.prog.cellsOf 273 = 3 := by kernel_rfl
set_option maxRecDepth 100000 in
theorem openU11 {H : Type} {enc : TypeId × Value → H} {W : World} {held : Bool} {v : Value} {x : DataW H × List MemPlace} {bs fuel : Nat}
    (hf : DataW.trod enc Try.prog W bs (fun _ => true) held fuel 78 [v] = some x) :
    ∃ a len cap, ∃ l : List (Int × Int × Int), v = .slice a len cap ∧ l.length = len ∧ len ≤ cap ∧ len ≤ 9223372036854775807 ∧ RdU W a l ∧ ∀ j (h : j < l.length), (Lit.int .i64 l[j].1).wf = true ∧ (Lit.int .i64 l[j].2.1).wf = true ∧ (Lit.int .i64 l[j].2.2).wf = true := by
  rcases Go.Deep.open_slice Try.underlying78 hf with ⟨hcs, _⟩ | ⟨ad, l, c, m, k, D, Pl, hcs, _, hl, hm, hmm, _, hcell⟩
  · simp at hcs
    subst hcs
    exact ⟨none, 0, 0, [], rfl, rfl, Nat.le_refl _, by omega, fun h => by simp at h, fun j h => by simp at h⟩
  · simp at hcs
    subst hcs
    simp at hmm
    subst hmm
    unfold maxLen at hm
    have each : ∀ i, i < l → ∃ r : Int × Int × Int, W.cell? (ad.add (i * 3)) = some (.int .i64 r.1) ∧ W.cell? (ad.add (i * 3 + 1)) = some (.int .i64 r.2.1) ∧ W.cell? (ad.add (i * 3 + 2)) = some (.int .i64 r.2.2) ∧ (Lit.int .i64 r.1).wf = true ∧ (Lit.int .i64 r.2.1).wf = true ∧ (Lit.int .i64 r.2.2).wf = true := by
      intro i hi
      obtain ⟨cs', h1, h2⟩ := hcell i (by omega)
      rw [openU11_cells] at h1
      obtain ⟨_, hlen, hc⟩ := World.cells?_some h1
      obtain ⟨xs, kk, hk, hxy, _, hxl, hf⟩ := DataW.trod_struct Try.underlying273 h2
      match xs, hxl, cs', hlen with
      | [y0, y1, y2], _, [v0, v1, v2], _ =>
        have g0 := hf 0 _ rfl
        have g1 := hf 1 _ rfl
        have g2 := hf 2 _ rfl
        simp [cells3] at g0 g1 g2
        have e0 := hc 0 (by omega)
        have e1 := hc 1 (by omega)
        have e2 := hc 2 (by omega)
        rw [Go.Deep.add_add] at e0 e1 e2
        obtain ⟨z0, q0, _, u0⟩ := DataW.trod_int Try.underlying3 g0
        obtain ⟨z1, q1, _, u1⟩ := DataW.trod_int Try.underlying3 g1
        obtain ⟨z2, q2, _, u2⟩ := DataW.trod_int Try.underlying3 g2
        simp at q0 q1 q2
        subst q0 q1 q2
        exact ⟨(z0, z1, z2), by simpa using e0, by simpa using e1, by simpa using e2, u0, u1, u2⟩
    obtain ⟨q, hq⟩ := Go.Deep.choose_lt each
    refine ⟨some ad, l, _, (List.range l).map q, rfl, by simp, hl, by omega, fun h0 => ?_, fun j hj => ?_⟩
    · have h0' : 0 < l := by simpa using h0
      obtain ⟨b, off, spot⟩ := ad
      have hspot : spot = none := by simpa [Addr.add] using World.cell?_spot (hq 0 (by omega)).1
      subst hspot
      refine ⟨b, off, rfl, fun j hj => ?_⟩
      have hj' : j < l := by simpa using hj
      obtain ⟨h0, h1, h2, _⟩ := hq j hj'
      rw [add_at] at h0 h1 h2
      simp only [List.getElem_map, List.getElem_range]
      exact ⟨h0, h1, h2⟩
    · have hj' : j < l := by simpa using hj
      simp only [List.getElem_map, List.getElem_range]
      exact (hq j hj').2.2.2
end Go.Proofs.Ytfdhcchakoldpaa
