/-
  A list of ticks copied by the program.
-/
import Derived.Test.YtfhhnelffldggaaGreatDoorRqAM
import Derived.Laws.CopyRow
import Derived.Laws.IdiomCopy
import Derived.Test.YtfhhnelffldggaaGreatDoorRqAK
import Derived.Test.YtfhhnelffldggaaGreatDoorRqBB
import Derived.Test.YtfhhnelffldggaaGreatDoorRqAB
import Derived.Test.YtfhhnelffldggaaGreatDoorRqAL
import Derived.Test.YtfhhnelffldggaaGreatDoorRqAO
import Derived.Test.YtfhhnelffldggaaGreatDoorRqAF
import Derived.Test.YtfhhnelffldggaaGreatDoorRqAE
set_option maxRecDepth 100000
set_option maxHeartbeats 16000000
namespace Go.Proofs.YtfhhnelffldggaaGreatDoor
open Go.RowKit Go.PlainAid
set_option linter.unusedVariables false
set_option linter.unusedSimpArgs false
theorem run_copy_rowY (w : World) (Kn : Nat) (dT sT ty elem : TypeId) (g o n dCap : Nat) (a : Addr) (sCap : Nat) (cur : Array Value) (t : TypeId) (cs : List Value)
    (hu : Tryz.prog.underlying dT = some (.slice elem)) (hs : (Tryz.prog.info? elem).map (·.size) = some Kn)
    (hg : w.heap[g]? = some (.cells cur t (0, 0))) (hn : cs.length = n * Kn)
    (hsrc : ∀ j v, cs[j]? = some v → w.cell? (a.add j) = some v) (hfit : o + cs.length ≤ cur.size) (h1 : ∀ v ∈ cs, v.oneCell' = true) :
    (Builtin.copy_ #[dT, sT] ty #[.slice (some ⟨g, o, none⟩) n dCap, .slice (some a) n sCap]).run Tryz.prog w =
      .ok (goInt n) (w.setRow g (cur.toList.take o ++ cs ++ cur.toList.drop (o + cs.length)).toArray) := by
  have hl := run_loadCells_list (P := Tryz.prog) w a cs hsrc
  have hst := run_storeCells_at Tryz.prog g o t cs 0 cur w hg (by simpa using hfit) h1
  cases hq : Tryz.prog.info? elem with
  | none => simp [hq] at hs
  | some i =>
    have hi : i.size = Kn := by simpa [hq] using hs
    rw [hn] at hl hst
    rw [hn]
    simp [Builtin.copy_, run_underlying hu, Builtin.lenOf, Builtin.firstCells, sizeOf, typeInfo, hq, hi, hl, hst]
theorem run_copy_noneY (w : World) (Kn : Nat) (dT sT ty elem : TypeId) (d a : Option Addr) (dCap sCap : Nat) (hu : Tryz.prog.underlying dT = some (.slice elem)) (hs : (Tryz.prog.info? elem).map (·.size) = some Kn) :
    (Builtin.copy_ #[dT, sT] ty #[.slice d 0 dCap, .slice a 0 sCap]).run Tryz.prog w = .ok (goInt 0) w := by
  cases hq : Tryz.prog.info? elem with
  | none => simp [hq] at hs
  | some i =>
    have hl : ∀ (x : Addr), (loadCells x 0).run Tryz.prog w = .ok #[] w := fun x => by simpa using run_loadCells_list (P := Tryz.prog) w x [] (by simp)
    cases d <;> cases a <;> simp [Builtin.copy_, run_underlying hu, Builtin.lenOf, Builtin.firstCells, sizeOf, typeInfo, hq, storeCells, hl]
theorem sizeY18 : (Tryz.prog.info? 64).map (·.size) = some 3 := by kernel_rfl
theorem run_cpY (w : World) (a : Option Addr) (l : List Tk3) (n cap : Nat) (hl : l.length = n) (hr : RdY (w.alloc (.cells (tkV (List.replicate n (0, 0, 0))).toArray 64)) a l) :
    (Builtin.copy_ #[35, 35] 3 #[.slice (some ⟨w.heap.size, 0, none⟩) n n, .slice a n cap]).run Tryz.prog (w.alloc (.cells (tkV (List.replicate n (0, 0, 0))).toArray 64)) = .ok (.int .i64 n) (w.alloc (.cells (tkV l).toArray 64)) := by
  by_cases h0 : n = 0
  · subst h0
    obtain rfl : l = [] := List.eq_nil_of_length_eq_zero hl
    rw [run_copy_noneY _ 3 35 35 3 64 _ _ 0 cap Tryz.underlying35 sizeY18]
    rfl
  · obtain ⟨g, off, rfl, hc⟩ := hr (by omega)
    have hlen : (tkV l).length = n * 3 := by rw [tkV_len, hl]
    have hcell : ∀ j v, (tkV l)[j]? = some v → (w.alloc (.cells (tkV (List.replicate n (0, 0, 0))).toArray 64)).cell? ((⟨g, off, none⟩ : Addr).add j) = some v := by
      intro j v hv
      have hj : j < n * 3 := by
        rcases Nat.lt_or_ge j (n * 3) with h' | h'
        · exact h'
        · rw [List.getElem?_eq_none (by omega)] at hv; cases hv
      have ha := tkV_at l (j / 3) (by omega)
      have hb := hc (j / 3) (by omega)
      rw [add_at]
      have h3 : j % 3 = 0 ∨ j % 3 = 1 ∨ j % 3 = 2 := by omega
      rcases h3 with e | e | e
      · have h1 := ha.1
        have h2 := hb.1
        rw [show j / 3 * 3 = j by omega, hv] at h1
        rw [show off + j / 3 * 3 = off + j by omega] at h2
        rw [h2]; exact h1.symm
      · have h1 := ha.2.1
        have h2 := hb.2.1
        rw [show j / 3 * 3 + 1 = j by omega, hv] at h1
        rw [show off + j / 3 * 3 + 1 = off + j by omega] at h2
        rw [h2]; exact h1.symm
      · have h1 := ha.2.2
        have h2 := hb.2.2
        rw [show j / 3 * 3 + 2 = j by omega, hv] at h1
        rw [show off + j / 3 * 3 + 2 = off + j by omega] at h2
        rw [h2]; exact h1.symm
    rw [run_copy_rowY _ 3 35 35 3 64 w.heap.size 0 n n ⟨g, off, none⟩ cap (tkV (List.replicate n (0, 0, 0))).toArray 64 (tkV l) Tryz.underlying35 sizeY18 (heap_new w _) hlen hcell (by rw [hlen]; simp [tkV_len]) (tkV_one l)]
    rw [hlen, World.setRow_alloc_new]
    have : List.take 0 (tkV (List.replicate n (0, 0, 0))).toArray.toList ++ tkV l ++ List.drop (0 + n * 3) (tkV (List.replicate n (0, 0, 0))).toArray.toList = tkV l := by
      simp [tkV_len]
    rw [this]
    rfl
theorem cpY (a : Option Addr) (l : List Tk3) (n cap : Nat) (hl : l.length = n) (hn : n ≤ 1048576) (w : World) (hr : RdY w a l) :
    Calls Tryz.prog 78 #[.slice a n cap] w fun e w' => e = .returned (.slice (some ⟨w.heap.size, 0, none⟩) n n) ∧ RowY w' w.heap.size l ∧ Below w.heap.size w w' := by
  have hmk := makeY n hn
  have HB : Hid (Below w.heap.size w (w.alloc (.cells (tkV (List.replicate n (0, 0, 0))).toArray 64))) := (Below.refl _ _).alloc (Nat.le_refl _) _
  have hcp := run_cpY w a l n cap hl (hr.keep HB.out (Nat.le_refl _))
  have HR : Hid (RowY (w.alloc (.cells (tkV l).toArray 64)) w.heap.size l) := heap_new w _
  clear hr hl
  go_enter Tryz.func78, Tryz.ntmps78
  go_wp2
  go_ret
  exact ⟨rfl, HR.out, (Below.refl _ _).alloc (Nat.le_refl _) _⟩
theorem RowY.ownU {w : World} {g B : Nat} {l : List Tk3} (h : RowY w g l) (hB : B ≤ g) (hl : l.length ≤ maxLen) : OwnU w B g l.length l.length l :=
  ⟨tkV_len l, Or.inr ⟨g, l.length, (tkV l).toArray, rfl, hB, h, Nat.le_refl _, hl, by simp [tkV_len], by simp; exact List.take_of_length_le (by rw [tkV_len]; exact Nat.le_refl _)⟩⟩
theorem run_tlen : ∀ (l : List Ic) (D : Dv), (runD D l).t.length = D.t.length + l.length
  | [], D => by simp [runD]
  | i :: l, D => by
    rw [runD_cons, run_tlen l]
    show (D.t ++ [(numD D i, alD D i, (pmpD D i).s)]).length + l.length = _
    simp
    omega
def atD (l : List Ic) (j : Nat) : Dv := runD newD (l.take j)
theorem atD_zero (l : List Ic) : atD l 0 = newD := by simp [atD, runD]
theorem atD_succ {l : List Ic} {j : Nat} (h : j < l.length) : atD l (j + 1) = tickD (atD l j) l[j] := runD_take h newD
theorem atD_len {l : List Ic} {j : Nat} (h : j ≤ l.length) : (atD l j).t.length = j := by
  unfold atD
  rw [run_tlen, List.length_take]
  show 0 + _ = _
  omega
theorem atD_ok {l : List Ic} (hl : ∀ i ∈ l, i.ok) (j : Nat) : (atD l j).ok := (run_okD (l.take j) newD_ok (fun i hi => hl i (List.mem_of_mem_take hi))).1
end Go.Proofs.YtfhhnelffldggaaGreatDoor
namespace Go.Proofs.YtfhhnelffldggaaGreatDoor
open Go.ChangeShapes Go.WideShapes Go.ChangeAt Go.RowKit Go.Deep Go.PlainAid
set_option linter.unusedVariables false
set_option linter.unusedSimpArgs false
def OwnGN (w : World) (B : Nat) (A : Option Addr) (nn c : Nat) (l : List Int) : Prop := (A = none ∧ nn = 0 ∧ c = 0 ∧ l = []) ∨ ∃ g, A = some ⟨g, 0, none⟩ ∧ G.OwnN w B g nn c l
def OwnUN (w : World) (B : Nat) (A : Option Addr) (nn c : Nat) (l : List Tk3) : Prop := (A = none ∧ nn = 0 ∧ c = 0 ∧ l = []) ∨ ∃ g, A = some ⟨g, 0, none⟩ ∧ OwnU w B g nn c l
theorem OwnGN.on {w w' : World} {B : Nat} {A : Option Addr} {nn c : Nat} {l : List Int} (h : OwnGN w B A nn c l) (hb : Below w.heap.size w w') : OwnGN w' B A nn c l := by
  rcases h with h | ⟨g, e, h⟩
  · exact .inl h
  · exact .inr ⟨g, e, h.on hb⟩
theorem OwnUN.on {w w' : World} {B : Nat} {A : Option Addr} {nn c : Nat} {l : List Tk3} (h : OwnUN w B A nn c l) (hb : Below w.heap.size w w') : OwnUN w' B A nn c l := by
  rcases h with h | ⟨g, e, h⟩
  · exact .inl h
  · exact .inr ⟨g, e, h.on hb⟩
theorem OwnGN.same {w w' : World} {B : Nat} {A : Option Addr} {nn c : Nat} {l : List Int} (h : OwnGN w B A nn c l) (hb : ∀ g, B ≤ g → g < w.heap.size → w'.heap[g]? = w.heap[g]?) : OwnGN w' B A nn c l := by
  rcases h with h | ⟨g, e, h⟩
  · exact .inl h
  · refine .inr ⟨g, e, h.1, ?_⟩
    have hlt := h.lt
    have hge := h.ge
    rcases h.2 with ⟨e1, e2⟩ | ⟨g', cap, cur, e1, hg, hh, h3⟩
    · exact .inl ⟨e1, e2⟩
    · cases e1
      exact .inr ⟨g, _, cur, rfl, hg, by rw [hb g hge hlt]; exact hh, h3⟩
theorem OwnUN.same {w w' : World} {B : Nat} {A : Option Addr} {nn c : Nat} {l : List Tk3} (h : OwnUN w B A nn c l) (hb : ∀ g, B ≤ g → g < w.heap.size → w'.heap[g]? = w.heap[g]?) : OwnUN w' B A nn c l := by
  rcases h with h | ⟨g, e, h⟩
  · exact .inl h
  · exact .inr ⟨g, e, h.same (hb g h.ge h.lt)⟩
theorem OwnGN.rd {w : World} {B : Nat} {A : Option Addr} {nn c : Nat} {l : List Int} (h : OwnGN w B A nn c l) : G.Rd w A l := by
  rcases h with ⟨_, _, _, rfl⟩ | ⟨g, rfl, h⟩
  · exact fun h => by simp at h
  · exact h.rd
theorem OwnUN.rd {w : World} {B : Nat} {A : Option Addr} {nn c : Nat} {l : List Tk3} (h : OwnUN w B A nn c l) : RdY w A l := by
  rcases h with ⟨_, _, _, rfl⟩ | ⟨g, rfl, h⟩
  · exact fun h => by simp at h
  · exact h.rd
theorem gu_ne {w : World} {B C g nn c gt tn ct : Nat} {l : List Int} {t : List Tk3} (h : G.OwnN w B g nn c l) (h' : OwnU w C gt tn ct t) : g ≠ gt := by
  intro e
  subst e
  rcases h.2 with ⟨hv, _⟩ | ⟨g', cap, cur, hv, _, hh, _⟩
  · cases hv
  · cases hv
    rcases h'.2 with ⟨hv, _⟩ | ⟨g2, cap2, cur2, hv, _, hh2, _⟩
    · cases hv
    · cases hv
      rw [hh] at hh2
      have e2 := Option.some.inj hh2
      injection e2 with e3 e4 e5
      exact absurd e4 (by decide)
theorem markIN (k : Int) (w : World) : Calls Tryz.prog 121 #[.slice none 0 0, .int .i64 k] w fun e w' => e = .returned (.int .i64 k) ∧ w' = w := by
  go_enter Tryz.func121, Tryz.ntmps121
  go_wp2_with fail
  refine wp_loop_rounds 1 ?_
  rw [rounds_succ]
  go_wp2
  go_ret
  exact ⟨rfl, rfl⟩
theorem markGN (k al : Int) (w : World) : Calls Tryz.prog 71 #[.agg #[.slice none 0 0, .int .i64 al], .int .i64 k] w fun e w' => e = .returned (.int .i64 k) ∧ Below w.heap.size w w' := by
  go_enter Tryz.func71, Tryz.ntmps71
  go_wp2_with fail
  refine (markIN k _).mono ?_
  rintro e w1 ⟨rfl, rfl⟩
  go_wp2
  go_ret
  exact ⟨rfl, alM _ _⟩
theorem markGV (A : Option Addr) (nn c : Nat) (al : Int) (l : List Int) (B k : Nat) (K : Int) (hK : K = k) (hn : nn ≤ 1048576) (hk : k ≤ 3000000) (w : World) (hB : B ≤ w.heap.size) (h : OwnGN w B A nn c l) :
    Calls Tryz.prog 71 #[.agg #[.slice A nn c, .int .i64 al], .int .i64 K] w fun e w' => e = .returned (.int .i64 (K + nn)) ∧ OwnGN w' B A nn c (G.marks k nn) ∧ w.grownBy w' (A.map (·.block)) := by
  rcases h with ⟨rfl, rfl, rfl, rfl⟩ | ⟨g, rfl, h⟩
  · refine (markGN K al w).mono ?_
    rintro e w' ⟨rfl, hb⟩
    exact ⟨by simp, .inl ⟨rfl, rfl, rfl, rfl⟩, ⟨hb.os, hb.tape, hb.output, hb.size, fun i hi _ => hb.block i hi⟩⟩
  · refine (G.markG B g al l nn c k K hK hn hk w h).mono ?_
    rintro e w' ⟨rfl, h1, h2⟩
    exact ⟨rfl, .inr ⟨g, rfl, h1⟩, h2⟩
theorem OwnUN.grown {w w' : World} {B C : Nat} {A TA : Option Addr} {nn c tn ct : Nat} {l : List Int} {t : List Tk3} (h : OwnUN w B TA tn ct t) (h' : OwnGN w C A nn c l) (hg : w.grownBy w' (A.map (·.block))) : OwnUN w' B TA tn ct t := by
  rcases h with h | ⟨gt, e, h⟩
  · exact .inl h
  · refine .inr ⟨gt, e, own_grownM h hg (fun g2 e2 e3 => ?_)⟩
    cases e2
    rcases h' with ⟨rfl, _⟩ | ⟨g, rfl, h'⟩
    · cases e3
    · exact gu_ne h' h (Option.some.inj e3)
theorem OwnGN.grown {w w' : World} {B C : Nat} {A TA : Option Addr} {nn c tn ct : Nat} {l : List Int} {t : List Tk3} (h : OwnGN w B A nn c l) (h' : OwnUN w C TA tn ct t) (hg : w.grownBy w' (TA.map (·.block))) : OwnGN w' B A nn c l := by
  rcases h with h | ⟨g, e, h⟩
  · exact .inl h
  · refine .inr ⟨g, e, own_grownM h hg (fun g2 e2 e3 => ?_)⟩
    cases e2
    rcases h' with ⟨rfl, _⟩ | ⟨gt, rfl, h'⟩
    · cases e3
    · exact gu_ne h h' (Option.some.inj e3).symm
theorem grown_belowN {w W w' : World} {B : Nat} {A : Option Addr} {nn c : Nat} {l : List Int} (hb : Below B w W) (hB : B ≤ w.heap.size) (h : OwnGN W B A nn c l) (hg : W.grownBy w' (A.map (·.block))) : Below B w w' := by
  refine hb.grown hg (Nat.le_trans hB hb.size) (fun i e => ?_)
  rcases h with ⟨rfl, _⟩ | ⟨g, rfl, h⟩
  · cases e
  · cases e
    exact h.ge
theorem OwnGN.far {w w' : World} {B : Nat} {A : Option Addr} {nn c : Nat} {l : List Int} (h : OwnGN w B A nn c l) (hg : w.grownBy w' (A.map (·.block))) (k : Nat) (cs : Array Value) (fr : Nat × Nat) (hk : w.heap[k]? = some (.cells cs 37 fr)) : w'.heap[k]? = some (.cells cs 37 fr) := by
  refine (hg.block _ (row_lt hk) ?_).trans hk
  rcases h with ⟨rfl, _⟩ | ⟨g, rfl, h⟩
  · exact fun e => by cases e
  · intro e
    have e2 : g = k := (Option.some.inj e).symm
    rcases h.2 with ⟨hv, _⟩ | ⟨g', cap, cur, hv, _, hh, _⟩
    · cases hv
    · cases hv
      rw [e2, hk] at hh
      have e5 := Option.some.inj hh
      injection e5 with e3 e4 e6
      exact absurd e4 (by decide)
theorem OwnUN.far {w w' : World} {B : Nat} {A : Option Addr} {nn c : Nat} {l : List Tk3} (h : OwnUN w B A nn c l) (hg : w.grownBy w' (A.map (·.block))) (k : Nat) (cs : Array Value) (fr : Nat × Nat) (hk : w.heap[k]? = some (.cells cs 37 fr)) : w'.heap[k]? = some (.cells cs 37 fr) := by
  refine (hg.block _ (row_lt hk) ?_).trans hk
  rcases h with ⟨rfl, _⟩ | ⟨g, rfl, h⟩
  · exact fun e => by cases e
  · intro e
    have e2 : g = k := (Option.some.inj e).symm
    rcases h.2 with ⟨hv, _⟩ | ⟨g', cap, cur, hv, _, hh, _⟩
    · cases hv
    · cases hv
      rw [e2, hk] at hh
      have e5 := Option.some.inj hh
      injection e5 with e3 e4 e6
      exact absurd e4 (by decide)
theorem markDv (p : Pm) (A : Option Addr) (nn c : Nat) (al : Int) (m : Mn) (TA : Option Addr) (tn ct : Nat) (rf : Int) (l : List Int) (t : List Tk3) (B : Nat) (w : World) (hB : B ≤ w.heap.size) (hl : l.length = nn) (ht : t.length = tn) (hn : nn ≤ 9) (htn : tn ≤ 150) (h1 : OwnGN w B A nn c l) (h2 : OwnUN w B TA tn ct t) :
    Calls Tryz.prog 25 #[.agg #[.int .i64 p.s, .int .i64 p.n, .int .i64 p.d, .int .i64 p.r, .int .i64 p.l, .int .i64 p.b, .int .i64 p.g, .int .i64 p.k, .slice A nn c, .int .i64 al, .int .i64 m.a, .bool m.b, .int .i64 m.n, .int .i64 m.d, .string ⟨m.s.toArray⟩, .slice TA tn ct, .int .i64 rf], .int .i64 1] w fun e w' => e = .returned (.int .i64 (1 + nn + 3 * tn)) ∧ G.Rd w' A (G.marks 1 nn) ∧ RdY w' TA (myM (1 + nn) tn) ∧ Below B w w' ∧ (∀ (k : Nat) (cs : Array Value) (fr : Nat × Nat), w.heap[k]? = some (.cells cs 37 fr) → w'.heap[k]? = some (.cells cs 37 fr)) := by
  have HT : Hid (t.length = tn) := ht
  obtain ⟨W0, hW0⟩ : ∃ W0, w.alloc (dO p (.slice A nn c) al m (.slice TA tn ct) rf) = W0 := ⟨_, rfl⟩
  have HX0 : Hid (W0.heap[w.heap.size]? = some (dO p (.slice A nn c) al m (.slice TA tn ct) rf)) := by rw [← hW0]; exact heap_new w _
  have hb0 : Below w.heap.size w W0 := by rw [← hW0]; exact alM _ _
  have HB0 : Hid (Below B w W0) := hb0.mono hB
  have HW0 : Hid (Below w.heap.size w W0) := hb0
  have HG0 : Hid (OwnGN W0 B A nn c l) := h1.on hb0
  have HU0 : Hid (OwnUN W0 B TA tn ct t) := h2.on hb0
  have c0 := box17_cells HX0.out
  clear h1 h2 hb0 hl ht
  go_enter Tryz.func25, Tryz.ntmps25
  go_upto_region 1 with fail
  (try rw [hW0])
  clear hW0
  go_wp2_with fail
  refine (markGV A nn c al l B 1 1 rfl (by omega) (by omega) _ (Nat.le_trans hB HB0.out.size) HG0.out).mono ?_
  rintro e w1 ⟨rfl, hg1, hgr⟩
  have HX1 : Hid (w1.heap[w.heap.size]? = some (dO p (.slice A nn c) al m (.slice TA tn ct) rf)) := HG0.out.far hgr _ _ _ HX0.out
  have HF1 : Hid (∀ (k : Nat) (cs : Array Value) (fr : Nat × Nat), w.heap[k]? = some (.cells cs 37 fr) → w1.heap[k]? = some (.cells cs 37 fr)) := fun k cs fr hk => HG0.out.far hgr k cs fr (row_on hk HW0.out)
  have HB1 : Hid (Below B w w1) := grown_belowN HB0.out hB HG0.out hgr
  have HG1 : Hid (OwnGN w1 B A nn c (G.marks 1 nn)) := hg1
  have HU1 : Hid (OwnUN w1 B TA tn ct t) := HU0.out.grown HG0.out hgr
  have c1 := box17_cells HX1.out
  clear hg1 hgr HX0 HB0 HG0 HU0 c0
  go_wp2_with fail
  have hw1 : B ≤ w1.heap.size := Nat.le_trans hB HB1.out.size
  rcases HU1.out with ⟨rfl, rfl, rfl, rfl⟩ | ⟨gt, rfl, hu⟩
  · refine (myMark [] (.slice none 0 0) w1.heap.size 0 (1 + nn) (1 + nn) (by omega) rfl (by omega) (by omega) w1 ⟨rfl, .inl ⟨rfl, rfl⟩⟩ (Nat.le_refl _)).mono ?_
    rintro e w2 ⟨rfl, _, hb, _⟩
    have HB2 : Hid (Below B w w2) := HB1.out.trans (hb.mono hw1)
    have HG2 : Hid (OwnGN w2 B A nn c (G.marks 1 nn)) := HG1.out.on hb
    have HF2 : Hid (∀ (k : Nat) (cs : Array Value) (fr : Nat × Nat), w.heap[k]? = some (.cells cs 37 fr) → w2.heap[k]? = some (.cells cs 37 fr)) := fun k cs fr hk => row_on (HF1.out k cs fr hk) hb
    clear hb HX1 HB1 HG1 HU1 c1
    go_wp2
    go_ret
    exact ⟨by simp, HG2.out.rd, fun h => by simp [myM] at h, HB2.out, HF2.out⟩
  · refine (myMark t (.slice (some ⟨gt, 0, none⟩) tn ct) B tn (1 + nn) (1 + nn) (by omega) HT.out (by omega) (by omega) w1 hu hw1).mono ?_
    rintro e w2 ⟨rfl, ho, hb, hgr⟩
    have HB2 : Hid (Below B w w2) := HB1.out.trans hb
    have HG2 : Hid (OwnGN w2 B A nn c (G.marks 1 nn)) := HG1.out.grown HU1.out hgr
    have HU2 : Hid (OwnY w2 B (.slice (some ⟨gt, 0, none⟩) tn ct) tn (myM (1 + nn) tn)) := ho
    have HF2 : Hid (∀ (k : Nat) (cs : Array Value) (fr : Nat × Nat), w.heap[k]? = some (.cells cs 37 fr) → w2.heap[k]? = some (.cells cs 37 fr)) := fun k cs fr hk => HU1.out.far hgr k cs fr (HF1.out k cs fr hk)
    clear ho hb hgr HX1 HB1 HG1 HU1 c1 hu
    go_wp2
    go_ret
    exact ⟨rfl, HG2.out.rd, HU2.out.rd, HB2.out, HF2.out⟩
theorem heldDv (p : Pm) (A : Option Addr) (nn c : Nat) (al : Int) (m : Mn) (TA : Option Addr) (tn ct : Nat) (rf : Int) (w : World) (hn : nn ≤ 9) (htn : tn ≤ 150) (h1 : G.Rd w A (G.marks 1 nn)) (h2 : RdY w TA (myM (1 + nn) tn)) :
    Calls Tryz.prog 26 #[.agg #[.int .i64 p.s, .int .i64 p.n, .int .i64 p.d, .int .i64 p.r, .int .i64 p.l, .int .i64 p.b, .int .i64 p.g, .int .i64 p.k, .slice A nn c, .int .i64 al, .int .i64 m.a, .bool m.b, .int .i64 m.n, .int .i64 m.d, .string ⟨m.s.toArray⟩, .slice TA tn ct, .int .i64 rf], .int .i64 1] w fun e w' => e = .returned (.int .i64 (1 + nn + 3 * tn)) ∧ Below w.heap.size w w' := by
  obtain ⟨W0, hW0⟩ : ∃ W0, w.alloc (dO p (.slice A nn c) al m (.slice TA tn ct) rf) = W0 := ⟨_, rfl⟩
  have HX0 : Hid (W0.heap[w.heap.size]? = some (dO p (.slice A nn c) al m (.slice TA tn ct) rf)) := by rw [← hW0]; exact heap_new w _
  have HB0 : Hid (Below w.heap.size w W0) := by rw [← hW0]; exact alM _ _
  have H1 : Hid (G.Rd W0 A (G.marks 1 nn)) := h1.keep HB0.out (Nat.le_refl _)
  have H2 : Hid (RdY W0 TA (myM (1 + nn) tn)) := h2.keep HB0.out (Nat.le_refl _)
  have c0 := box17_cells HX0.out
  clear h1 h2
  go_enter Tryz.func26, Tryz.ntmps26
  go_upto_region 1 with fail
  (try rw [hW0])
  clear hW0
  go_wp2_with fail
  refine (G.heldG A al nn c 1 1 rfl (by omega) (by omega) _ H1.out).mono ?_
  rintro e w1 ⟨rfl, hb⟩
  have HX1 : Hid (w1.heap[w.heap.size]? = some (dO p (.slice A nn c) al m (.slice TA tn ct) rf)) := row_on HX0.out hb
  have HB1 := bq HB0 hb
  have H21 : Hid (RdY w1 TA (myM (1 + nn) tn)) := H2.out.keep hb (Nat.le_refl _)
  have c1 := box17_cells HX1.out
  clear hb HX0 HB0 c0 H2 H1
  go_wp2_with fail
  refine (myHeld TA tn (1 + nn) ct (1 + nn) (by omega) (by omega) (by omega) w1 H21.out).mono ?_
  rintro e w2 ⟨rfl, rfl⟩
  clear c1 HX1
  go_wp2
  go_ret
  exact ⟨rfl, HB1.out⟩
theorem openZ {H : Type} {enc : TypeId × Value → H} {W : World} {held : Bool} {v : Value} {x : DataW H × List MemPlace} {bs fuel : Nat}
    (hf : DataW.trod enc Tryz.prog W bs (fun _ => true) held fuel 48 [v] = some x) :
    ∃ a len cap, ∃ l : List In3, v = .slice a len cap ∧ l.length = len ∧ len ≤ cap ∧ len ≤ 9223372036854775807 ∧ RdZ W a l ∧ ∀ j (h : j < l.length), l[j].2.1.size ≤ maxLen ∧ l[j].2.2.size ≤ maxLen := by
  rcases Go.Deep.open_slice Tryz.underlying48 hf with ⟨hcs, _⟩ | ⟨ad, len, c, m, k, D, Pl, hcs, _, hl, hm, hmm, _, hcell⟩
  · simp at hcs
    subst hcs
    exact ⟨none, 0, 0, [], rfl, rfl, Nat.le_refl _, by omega, fun h => by simp at h, fun j h => by simp at h⟩
  · simp at hcs
    subst hcs
    simp at hmm
    subst hmm
    have hm' := hm
    unfold maxLen at hm'
    have each : ∀ i, i < len → ∃ r : In3, W.cell? (ad.add (i * 3)) = some (.int .i64 r.1) ∧ W.cell? (ad.add (i * 3 + 1)) = some (.string r.2.1) ∧ W.cell? (ad.add (i * 3 + 2)) = some (.string r.2.2) ∧ r.2.1.size ≤ maxLen ∧ r.2.2.size ≤ maxLen := by
      intro i hi
      obtain ⟨cs', h1, h2⟩ := hcell i (by omega)
      rw [cellsIn] at h1
      obtain ⟨_, hlen, hc⟩ := World.cells?_some h1
      obtain ⟨xs, kk, hk, hxy, _, hxl, hf⟩ := DataW.trod_struct Tryz.underlying97 h2
      match xs, hxl, cs', hlen with
      | [y0, y1, y2], _, [v0, v1, v2], _ =>
        have g0 := hf 0 _ rfl
        have g1 := hf 1 _ rfl
        have g2 := hf 2 _ rfl
        simp [cells3n, cells9n] at g0 g1 g2
        have e0 := hc 0 (by omega)
        have e1 := hc 1 (by omega)
        have e2 := hc 2 (by omega)
        rw [Go.Deep.add_add] at e0 e1 e2
        obtain ⟨z0, q0, _, u0⟩ := DataW.trod_int Tryz.underlying3 g0
        obtain ⟨z1, q1, _, u1⟩ := DataW.trod_string Tryz.underlying9 g1
        obtain ⟨z2, q2, _, u2⟩ := DataW.trod_string Tryz.underlying9 g2
        simp at q0 q1 q2
        subst q0 q1 q2
        exact ⟨(z0, z1, z2), by simpa using e0, by simpa using e1, by simpa using e2, u1, u2⟩
    obtain ⟨q, hq⟩ := Go.Deep.choose_lt each
    refine ⟨some ad, len, _, (List.range len).map q, rfl, by simp, hl, by omega, fun h0 => ?_, fun j hj => ?_⟩
    · have h0' : 0 < len := by simpa using h0
      obtain ⟨b, off, spot⟩ := ad
      have hspot : spot = none := by simpa [Addr.add] using World.cell?_spot (hq 0 (by omega)).1
      subst hspot
      refine ⟨b, off, rfl, fun j hj => ?_⟩
      have hj' : j < len := by simpa using hj
      obtain ⟨h0, h1, h2, _⟩ := hq j hj'
      rw [add_at] at h0 h1 h2
      simp only [List.getElem_map, List.getElem_range]
      exact ⟨h0, h1, h2⟩
    · have hj' : j < len := by simpa using hj
      simp only [List.getElem_map, List.getElem_range]
      exact (hq j hj').2.2.2
theorem openZ_v {H : Type} {enc : TypeId × Value → H} {W : World} {base : Nat} {held : Bool} {v : Value} {d : DataW H} {ps : List MemPlace} {bs : Nat}
    (hv : Value.okWide Tryz.prog W .any base 48 v) (h : DataW.Trod enc Tryz.prog W bs (fun _ => true) held 48 v d ps) :
    ∃ a len cap, ∃ l : List In3, v = .slice a len cap ∧ l.length = len ∧ len ≤ cap ∧ len ≤ 9223372036854775807 ∧ RdZ W a l ∧ ∀ j (h : j < l.length), l[j].2.1.size ≤ maxLen ∧ l[j].2.2.size ≤ maxLen := by
  obtain ⟨a, len, cap, rfl⟩ := okWide_slice Tryz.underlying48 hv
  obtain ⟨fuel, hf⟩ := h
  obtain ⟨a', len', cap', l, e, h1, h2, h3, h4, h5⟩ := openZ (v := .slice a len cap) hf
  cases e
  exact ⟨a, len, cap, l, rfl, h1, h2, h3, h4, h5⟩
theorem szInG (b : Int) (K L : ByteArray) (hk : K.size ≤ 9223372036854775807) (hl : L.size ≤ 9223372036854775807) (m : Int) (m0 : 0 ≤ m) (m1 : m ≤ 1048576) (w : World) : Calls Tryz.prog 63 #[.agg #[.int .i64 b, .string K, .string L], .int .i64 m] w fun e w' => ∃ y, e = .returned (.int .i64 y) ∧ (y = -1 ∨ (0 ≤ y ∧ y ≤ m)) ∧ Below w.heap.size w w' := by
  have q : IntKind.i64.wrap (m - (K.size : Int)) = m - (K.size : Int) := wrap_in (by omega) (by omega)
  by_cases h : (K.size : Int) ≤ m
  case neg =>
    have h' : (m - (K.size : Int)) < 0 := by omega
    go_enter Tryz.func63, Tryz.ntmps63
    go_wp2
    go_ret
    exact ⟨-1, rfl, .inl rfl, alI _ _⟩
  have h' : ¬ (m - (K.size : Int)) < 0 := by omega
  have q2 : IntKind.i64.wrap (m - (K.size : Int) - (L.size : Int)) = m - (K.size : Int) - (L.size : Int) := wrap_in (by omega) (by omega)
  by_cases h2 : (K.size : Int) + L.size ≤ m
  · have h3 : ¬ (m - (K.size : Int) - (L.size : Int)) < 0 := by omega
    go_enter Tryz.func63, Tryz.ntmps63
    go_wp2
    go_ret
    exact ⟨_, rfl, .inr ⟨by omega, by omega⟩, alI _ _⟩
  · have h3 : (m - (K.size : Int) - (L.size : Int)) < 0 := by omega
    go_enter Tryz.func63, Tryz.ntmps63
    go_wp2
    go_ret
    exact ⟨-1, rfl, .inl rfl, alI _ _⟩
theorem szZ (a : Option Addr) (l : List In3) (n cap : Nat) (hl : l.length = n) (hn : n ≤ 9223372036854775807) (hs : ∀ j (h : j < l.length), l[j].2.1.size ≤ maxLen ∧ l[j].2.2.size ≤ maxLen) (w : World) (hr : RdZ w a l) :
    Calls Tryz.prog 20 #[.slice a n cap, .int .i64 1048576] w fun e w' => ∃ y, e = .returned (.int .i64 y) ∧ (0 ≤ y → n ≤ 1048576) ∧ Below w.heap.size w w' := by
  have HL : Hid (l.length = n) := hl
  have HS : Hid (∀ j (h : j < l.length), l[j].2.1.size ≤ maxLen ∧ l[j].2.2.size ≤ maxLen) := hs
  have HR : Hid (RdZ w a l) := hr
  have q : IntKind.i64.wrap (1048576 - (n : Int)) = 1048576 - (n : Int) := wrap_in (by omega) (by omega)
  clear hl hs hr
  by_cases h : n ≤ 1048576
  case neg =>
    have h' : (1048576 - (n : Int)) < 0 := by omega
    go_enter Tryz.func20, Tryz.ntmps20
    go_wp2
    go_ret
    exact ⟨-1, rfl, fun h => by omega, Below.refl _ _⟩
  have h' : ¬ (1048576 - (n : Int)) < 0 := by omega
  by_cases hp : 0 < n
  · obtain ⟨g, off, rfl, hc⟩ := HR.out (by rw [HL.out]; exact hp)
    have HC : Hid (∀ j (h : j < l.length), w.cell? ⟨g, off + j * 3, none⟩ = some (.int .i64 l[j].1) ∧ w.cell? ⟨g, off + j * 3 + 1, none⟩ = some (.string l[j].2.1) ∧ w.cell? ⟨g, off + j * 3 + 2, none⟩ = some (.string l[j].2.2)) := hc
    have hgl : g < w.heap.size := World.block_lt_of_cell? w ⟨g, off + 0 * 3, none⟩ (hc 0 (by have := HL.out; omega)).1
    clear hc HR
    go_enter Tryz.func20, Tryz.ntmps20
    go_wp2
    clear q h'
    go_loopg [1, 5] n (fun gk m i wr => ∃ (j : Nat) (y : Int), j + gk = n ∧ m = .int .i64 y ∧ i = .int .i64 j ∧ 0 ≤ y ∧ y ≤ 1048576 ∧ Hid (Below w.heap.size w wr))
    case atStart => exact ⟨0, 1048576 - (n : Int), by omega, rfl, rfl, by omega, by omega, Below.refl _ _⟩
    case round =>
      obtain ⟨j, y, hj, rfl, rfl, hy0, hy1, HW⟩ := hrel
      by_cases hlt : j < n
      · have hjl : j < l.length := by have := HL.out; omega
        have c := HC.out j hjl
        have c0 := (HW.out.cell (p := ⟨g, off + j * 3, none⟩) hgl).trans c.1
        have c1 := (HW.out.cell (p := ⟨g, off + j * 3 + 1, none⟩) hgl).trans c.2.1
        have c2 := (HW.out.cell (p := ⟨g, off + j * 3 + 2, none⟩) hgl).trans c.2.2
        have hz := HS.out j hjl
        unfold maxLen at hz
        clear c
        generalize l[j].1 = x at c0
        generalize l[j].2.1 = K at c1 hz
        generalize l[j].2.2 = L at c2 hz
        have hz1 := hz.1
        have hz2 := hz.2
        clear hz
        go_wp2_with fail
        refine (szInG x K L (by omega) (by omega) y hy0 hy1 _).mono ?_
        rintro e w1 ⟨y', rfl, hy, hb1⟩
        have HW1 : Hid (Below w.heap.size w w1) := HW.out.trans (hb1.mono HW.out.size)
        clear hb1 HW c0 c1 c2
        rcases hy with rfl | ⟨hy2, hy3⟩
        · go_wp2
          go_ret
          exact ⟨-1, rfl, fun h => by omega, HW1.out⟩
        · have hy4 : ¬ y' < 0 := by omega
          have hy5 : y' ≤ 1048576 := by omega
          go_wp2
          go_roundg (gk - 1)
          case measure => omega
          case rel => exact ⟨j + 1, y', by omega, rfl, by go_num, hy2, hy5, HW1⟩
      · obtain rfl : j = n := by omega
        go_wp2
        go_ret
        exact ⟨y, rfl, fun _ => h, HW.out⟩
  · obtain rfl : n = 0 := by omega
    go_enter Tryz.func20, Tryz.ntmps20
    go_wp2
    go_rounds 1
    go_ret
    exact ⟨_, rfl, fun _ => by omega, Below.refl _ _⟩
theorem grw_on' {w w' w2 : World} {r : Option Nat} (h : w.grownBy w' r) (hb : Below w'.heap.size w' w2) : w.grownBy w2 r :=
  ⟨hb.os.trans h.os, hb.tape.trans h.tape, hb.output.trans h.output, Nat.le_trans h.size hb.size, fun i hi hr => (hb.block i (Nat.lt_of_lt_of_le hi h.size)).trans (h.block i hi hr)⟩
namespace Z
def fb (r : Nat) : UInt8 := UInt8.ofNat (48 + r)
theorem fb_nat {r : Nat} (h : r < 10) : (fb r).toNat = 48 + r := by
  unfold fb; rw [UInt8.toNat_ofNat']; omega
def mkF : Nat → Nat → List UInt8 → List UInt8
  | 0, _, acc => acc
  | f + 1, u, acc => if u = 0 then acc else mkF f (u / 10) (fb (u % 10) :: acc)
theorem mkF_zero (f : Nat) (acc : List UInt8) : mkF f 0 acc = acc := by cases f <;> simp [mkF]
theorem mkF_step {f u : Nat} (h : u ≠ 0) (acc : List UInt8) : mkF (f + 1) u acc = mkF f (u / 10) (fb (u % 10) :: acc) := by
  rw [mkF, if_neg h]
def mk (k : Nat) : ByteArray := ⟨(109 :: mkF 20 k []).toArray⟩
theorem one_text (b : UInt8) (w : World) : (convert 22 9 (.slice (some ⟨w.heap.size, 0, none⟩) 1 1)).run Tryz.prog (w.alloc (.cells #[.int .u8 (b.toNat : Int)] 5)) = .ok (.string ⟨[b].toArray⟩) (w.alloc (.cells #[.int .u8 (b.toNat : Int)] 5)) :=
  run_convert_bytes_back (P := Tryz.prog) _ 22 9 5 ⟨w.heap.size, 0, none⟩ 1 [b] Tryz.underlying22 Tryz.underlying5 Tryz.underlying9 (fun j hj => by
    obtain rfl : j = 0 := by simpa using hj
    simp [Addr.add])
theorem cat_one (b : UInt8) (acc : List UInt8) : (⟨#[b]⟩ : ByteArray) ++ ⟨acc.toArray⟩ = ⟨(b :: acc).toArray⟩ := by
  apply ByteArray.ext
  simp
theorem acc_size (acc : List UInt8) : (ByteArray.mk acc.toArray).size = acc.length := by
  show acc.toArray.size = _
  exact List.size_toArray
theorem markT (k : Nat) (h0 : 0 < k) (hk : k ≤ 4000000) (w : World) :
    Calls Tryz.prog 70 #[.int .i64 k] w fun e w' => e = .returned (.string (mk k)) ∧ Below w.heap.size w w' := by
  go_enter Tryz.func70, Tryz.ntmps70
  go_wp2
  go_loopw [0, 3] (fun nv sv wr => ∃ (f u : Nat) (acc : List UInt8), nv = .int .i64 u ∧ sv = .string ⟨acc.toArray⟩ ∧ u ≤ 4000000 ∧ acc.length + f = 20 ∧ u ≤ f * 4000000 ∧ Hid (u < 10 ^ f) ∧ Hid (mkF f u acc = mkF 20 k []) ∧ Below w.heap.size w wr) (fun nv _ _ => (intOf nv).toNat)
  case atStart => exact ⟨20, k, [], rfl, rfl, hk, by simp, by omega, (show Hid _ from Nat.lt_of_le_of_lt hk (by decide)), (show Hid _ from rfl), Below.refl _ _⟩
  case round =>
    obtain ⟨f, u, acc, rfl, rfl, hu, hl, _, HP, HD, hnx⟩ := hrel
    have hsz : (ByteArray.mk acc.toArray).size ≤ 20 := by rw [acc_size]; omega
    by_cases hu0 : u = 0
    · subst hu0
      have HE : Hid (acc = mkF 20 k []) := by have := HD.out; rw [mkF_zero] at this; exact this
      go_wp2
      go_ret
      exact ⟨by unfold mk; rw [← HE.out]; exact congrArg (fun x => Ending.returned (Value.string x)) (cat_one 109 acc), hnx⟩
    · have hpos : 0 < u := by omega
      cases f with
      | zero => exact absurd HP.out (by simp; omega)
      | succ f =>
        have hf : 0 < f ∨ u < 10 := by
          by_cases h : f = 0
          · subst h; right; simpa using HP.out
          · left; omega
        have HP' : Hid (u / 10 < 10 ^ f) := by have := HP.out; rw [Nat.pow_succ] at this; show u / 10 < 10 ^ f; omega
        have HD' : Hid (mkF f (u / 10) (fb (u % 10) :: acc) = mkF 20 k []) := by have := HD.out; rw [mkF_step hu0] at this; exact this
        have hone := one_text (fb (u % 10)) wr
        rw [show ((fb (u % 10)).toNat : Int) = 48 + (u : Int) % 10 by rw [fb_nat (by omega)]; omega] at hone
        clear HP HD
        go_wp2
        go_roundw
        case rel => exact ⟨f, u / 10, fb (u % 10) :: acc, by go_num, by rw [cat_one], by omega, by simp; omega, by omega, HP', HD', hnx.alloc hnx.size _⟩
        case measure => simp [intOf]; omega
theorem markT' (X : Int) (k : Nat) (hX : X = k) (h0 : 0 < k) (hk : k ≤ 4000000) (w : World) :
    Calls Tryz.prog 70 #[.int .i64 X] w fun e w' => e = .returned (.string (mk k)) ∧ Below w.heap.size w w' := by
  subst hX
  exact markT k h0 hk w
def mkL (k : Nat) : Nat → List In3
  | 0 => []
  | n + 1 => mkL k n ++ [((k : Int) + 3 * (n : Int), mk (k + 3 * n + 1), mk (k + 3 * n + 2))]
theorem mkL_len (k : Nat) : ∀ n, (mkL k n).length = n
  | 0 => rfl
  | n + 1 => by unfold mkL; rw [List.length_append, mkL_len k n]; rfl
def mkX (l : List In3) (k j : Nat) : List In3 := mkL k j ++ l.drop j
theorem mkX_len {l : List In3} {k j : Nat} (h : j ≤ l.length) : (mkX l k j).length = l.length := by
  unfold mkX; rw [List.length_append, mkL_len, List.length_drop]; omega
theorem mkX_set {l : List In3} {k j : Nat} (h : j < l.length) : (mkX l k j).set j ((k : Int) + 3 * (j : Int), mk (k + 3 * j + 1), mk (k + 3 * j + 2)) = mkX l k (j + 1) := by
  unfold mkX
  rw [List.drop_eq_getElem_cons h, List.set_append_right _ _ (by rw [mkL_len]; exact Nat.le_refl _), mkL_len, Nat.sub_self, List.set_cons_zero]
  show _ = (mkL k j ++ [_]) ++ _
  rw [List.append_assoc]
  rfl
theorem mkX_all (l : List In3) (k : Nat) : mkX l k l.length = mkL k l.length := by unfold mkX; simp
theorem mkX_zero (l : List In3) (k : Nat) : mkX l k 0 = l := by unfold mkX mkL; simp
theorem markZ (l : List In3) (B g n cap k : Nat) (K : Int) (hK : K = k) (hl : l.length = n) (hn : n ≤ 1048576) (hk : 0 < k ∧ k ≤ 100) (w : World) (hown : w.ownsRow B 46 3 (.slice (some ⟨g, 0, none⟩) n cap) n (inV l)) (hB : B ≤ w.heap.size) :
    Calls Tryz.prog 24 #[.slice (some ⟨g, 0, none⟩) n cap, .int .i64 K] w fun e w' => e = .returned (.int .i64 (K + 3 * n)) ∧ w'.ownsRow B 46 3 (.slice (some ⟨g, 0, none⟩) n cap) n (inV (mkL k n)) ∧ Below B w w' ∧ w.grownBy w' (some g) := by
  subst hK
  obtain ⟨hk0, hk1⟩ := hk
  have hg : B ≤ g := own_ge hown g rfl
  have hgl : g < w.heap.size := own_lt hown g rfl
  have HL : Hid (l.length = n) := hl
  have HO0 : Hid (w.ownsRow B 46 3 (.slice (some ⟨g, 0, none⟩) n cap) n (inV (mkX l k 0))) := by rw [mkX_zero]; exact hown
  clear hown hl
  go_enter Tryz.func24, Tryz.ntmps24
  go_wp2
  go_loopg [1, 5] n (fun gk kv i wr => ∃ j : Nat, j + gk = n ∧ kv = .int .i64 ((k : Int) + 3 * (j : Int)) ∧ i = .int .i64 j ∧ Hid (wr.ownsRow B 46 3 (.slice (some ⟨g, 0, none⟩) n cap) n (inV (mkX l k j))) ∧ Hid (Below B w wr) ∧ Hid (w.grownBy wr (some g)))
  case atStart => exact ⟨0, by omega, by simp, rfl, HO0, Below.refl _ _, World.grownBy.refl _ _⟩
  case round =>
    clear HO0
    obtain ⟨j, hj, rfl, rfl, HO, HW, HG⟩ := hrel
    have hgr : B ≤ wr.heap.size := Nat.le_trans hB HW.out.size
    by_cases hlt : j < n
    · have hjl : j < l.length := by have := HL.out; omega
      have hm : (mkX l k j).length = n := by rw [mkX_len (by omega)]; exact HL.out
      have hat := inV_at (mkX l k j) j (by omega)
      have h0 := HO.out
      have c0 := h0.cellAt (j * 3) (by omega)
      rw [hat.1] at c0
      have d0 := h0.frozenAt (j * 3)
      obtain ⟨W1, hW1⟩ : ∃ W1, wr.setCell ⟨g, j * 3, none⟩ (.int .i64 ((k : Int) + 3 * (j : Int))) = W1 := ⟨_, rfl⟩
      have HO1 : Hid (W1.ownsRow B 46 3 (.slice (some ⟨g, 0, none⟩) n cap) n ((inV (mkX l k j)).set (j * 3) (.int .i64 ((k : Int) + 3 * (j : Int))))) := by rw [← hW1]; exact (h0.stored (j * 3) (.int .i64 ((k : Int) + 3 * (j : Int)))).1
      have HB1 : Hid (Below B w W1) := by rw [← hW1]; exact HW.out.setCell hg _
      have HG1 : Hid (w.grownBy W1 (some g)) := by rw [← hW1]; exact grown_setc HG.out _
      have HA1 : Hid ((inV (mkX l k j))[j * 3 + 1]? = some (.string (mkX l k j)[j].2.1)) := hat.2.1
      have HA2 : Hid ((inV (mkX l k j))[j * 3 + 2]? = some (.string (mkX l k j)[j].2.2)) := hat.2.2
      generalize (mkX l k j)[j].1 = q0 at c0
      clear hat h0 HO HW HG
      go_wp2_with fail
      (try rw [hW1])
      clear hW1 c0 d0
      refine (markT' _ (k + 3 * j + 1) (by omega) (by omega) (by omega) _).mono ?_
      rintro e w2 ⟨rfl, hb⟩
      have h2 := own_keep HO1.out hb (own_lt HO1.out)
      have c1 := h2.cellAt (j * 3 + 1) (by omega)
      rw [List.getElem?_set_ne (by omega), HA1.out] at c1
      have d1 := h2.frozenAt (j * 3 + 1)
      have HB2 : Hid (Below B w w2) := HB1.out.trans (hb.mono (Nat.le_trans hB HB1.out.size))
      have HG2 : Hid (w.grownBy w2 (some g)) := grw_on' HG1.out hb
      clear HO1 HB1 HG1 hb
      generalize (mkX l k j)[j].2.1 = q1 at c1 HA1
      clear HA1
      obtain ⟨T1, hT1⟩ : ∃ T, mk (k + 3 * j + 1) = T := ⟨_, rfl⟩
      rw [hT1]
      obtain ⟨W3, hW3⟩ : ∃ W3, w2.setCell ⟨g, j * 3 + 1, none⟩ (.string T1) = W3 := ⟨_, rfl⟩
      have HO3 : Hid (W3.ownsRow B 46 3 (.slice (some ⟨g, 0, none⟩) n cap) n (((inV (mkX l k j)).set (j * 3) (.int .i64 ((k : Int) + 3 * (j : Int)))).set (j * 3 + 1) (.string T1))) := by rw [← hW3]; exact (h2.stored (j * 3 + 1) _).1
      have HB3 : Hid (Below B w W3) := by rw [← hW3]; exact HB2.out.setCell hg _
      have HG3 : Hid (w.grownBy W3 (some g)) := by rw [← hW3]; exact grown_setc HG2.out _
      clear h2 HB2 HG2
      go_wp2_with fail
      (try rw [hW3])
      clear hW3 c1 d1
      refine (markT' _ (k + 3 * j + 2) (by omega) (by omega) (by omega) _).mono ?_
      rintro e w4 ⟨rfl, hb⟩
      have h4 := own_keep HO3.out hb (own_lt HO3.out)
      have c2 := h4.cellAt (j * 3 + 2) (by omega)
      rw [List.getElem?_set_ne (by omega), List.getElem?_set_ne (by omega), HA2.out] at c2
      have d2 := h4.frozenAt (j * 3 + 2)
      have HB4 : Hid (Below B w w4) := HB3.out.trans (hb.mono (Nat.le_trans hB HB3.out.size))
      have HG4 : Hid (w.grownBy w4 (some g)) := grw_on' HG3.out hb
      clear HO3 HB3 HG3 hb
      generalize (mkX l k j)[j].2.2 = q2 at c2 HA2
      clear HA2
      obtain ⟨T2, hT2⟩ : ∃ T, mk (k + 3 * j + 2) = T := ⟨_, rfl⟩
      rw [hT2]
      obtain ⟨W5, hW5⟩ : ∃ W5, w4.setCell ⟨g, j * 3 + 2, none⟩ (.string T2) = W5 := ⟨_, rfl⟩
      have HO5 : Hid (W5.ownsRow B 46 3 (.slice (some ⟨g, 0, none⟩) n cap) n (inV (mkX l k (j + 1)))) := by
        have h5 := (h4.stored (j * 3 + 2) (.string T2)).1
        rw [hW5, inV_set, ← hT1, ← hT2, mkX_set hjl] at h5
        exact h5
      have HB5 : Hid (Below B w W5) := by rw [← hW5]; exact HB4.out.setCell hg _
      have HG5 : Hid (w.grownBy W5 (some g)) := by rw [← hW5]; exact grown_setc HG4.out _
      clear h4 HB4 HG4 hT1 hT2 hm hjl
      go_wp2
      (try rw [hW5])
      go_roundg (gk - 1)
      case measure => omega
      case rel => exact ⟨j + 1, by omega, by go_num, by go_num, HO5, HB5, HG5⟩
    · obtain rfl : j = n := by omega
      have HO' : Hid (wr.ownsRow B 46 3 (.slice (some ⟨g, 0, none⟩) j cap) j (inV (mkL k j))) := by
        have h := HO.out
        have e := mkX_all l k
        rw [HL.out] at e
        rw [e] at h
        exact h
      clear HO
      go_wp2
      go_ret
      exact ⟨by go_num, HO'.out, HW.out, HG.out⟩
end Z
end Go.Proofs.YtfhhnelffldggaaGreatDoor
