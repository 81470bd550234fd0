/-
  Rows of a device: stores into parts of it; ticks that the call owns.
-/
import Derived.Test.YtfhhnelffldggaaGreatDoorRqAK
import Derived.Test.YtfhhnelffldggaaGreatDoorRqAL
import Derived.Deep.MidRow
import Derived.Test.YtfhhnelffldggaaGreatDoorRqAB
import Derived.Test.YtfhhnelffldggaaGreatDoorRqAJ
set_option maxRecDepth 100000
set_option maxHeartbeats 16000000
namespace Go.Proofs.YtfhhnelffldggaaGreatDoor
open Go.RowKit Go.PlainAid
set_option linter.unusedVariables false
set_option linter.unusedSimpArgs false
def OwnU (w : World) (B g n c : Nat) (l : List Tk3) : Prop := w.ownsRow B 64 3 (.slice (some ⟨g, 0, none⟩) n c) n (tkV l)
theorem OwnU.own {w : World} {B g n c : Nat} {l : List Tk3} (h : OwnU w B g n c l) : OwnY w B (.slice (some ⟨g, 0, none⟩) n c) n l := h
theorem OwnU.len {w : World} {B g n c : Nat} {l : List Tk3} (h : OwnU w B g n c l) : l.length = n := h.own.len
theorem OwnU.ge {w : World} {B g n c : Nat} {l : List Tk3} (h : OwnU w B g n c l) : B ≤ g := own_ge h g rfl
theorem OwnU.lt {w : World} {B g n c : Nat} {l : List Tk3} (h : OwnU w B g n c l) : g < w.heap.size := own_lt h g rfl
theorem OwnU.on {w w' : World} {B g n c : Nat} {l : List Tk3} (h : OwnU w B g n c l) (hb : Below w.heap.size w w') : OwnU w' B g n c l := own_keep h hb (own_lt h)
theorem OwnU.mono {w : World} {B C g n c : Nat} {l : List Tk3} (h : OwnU w B g n c l) (hC : C ≤ B) : OwnU w C g n c l := own_mono h hC
theorem OwnU.rd {w : World} {B g n c : Nat} {l : List Tk3} (h : OwnU w B g n c l) : RdY w (some ⟨g, 0, none⟩) l := h.own.rd
theorem OwnU.drew {w : World} {B g n c : Nat} {l : List Tk3} (h : OwnU w B g n c l) : OwnU w.drew B g n c l := h
theorem OwnU.same {w w' : World} {B g n c : Nat} {l : List Tk3} (h : OwnU w B g n c l) (hg : w'.heap[g]? = w.heap[g]?) : OwnU w' B g n c l := by
  refine ⟨h.1, ?_⟩
  rcases h.2 with h2 | ⟨g', cap, cur, e, h3, h4, h5⟩
  · exact .inl h2
  · cases e
    exact .inr ⟨_, _, _, rfl, h3, hg.trans h4, h5⟩
theorem OwnU.put {w w' : World} {B g n c k : Nat} {l : List Tk3} {o : Obj} (h : OwnU w B g n c l) (hp : PutM w w' k o) (hne : g ≠ k) : OwnU w' B g n c l := h.same (hp.2.1 g hne)
theorem ownU_empty (w : World) (B : Nat) (hB : B ≤ w.heap.size) : OwnU (w.alloc (.cells #[] 64)) B w.heap.size 0 0 [] :=
  ⟨rfl, Or.inr ⟨_, 0, #[], rfl, hB, by show (w.heap.push _)[w.heap.size]? = _; simp, Nat.le_refl _, by decide, rfl, rfl⟩⟩
theorem RdY.cells {w : World} {ad : Addr} {l : List Tk3} (h : RdY w (some ad) l) : ∀ j u, (tkV l)[j]? = some u → w.cell? (ad.add j) = some u := by
  intro j v hv
  have hj : j < l.length * 3 := by
    rcases Nat.lt_or_ge j (l.length * 3) with h' | h'
    · exact h'
    · rw [List.getElem?_eq_none (by rw [tkV_len]; exact h')] at hv; cases hv
  obtain ⟨g, off, ha, hc⟩ := h (by omega)
  cases ha
  obtain ⟨a0, a1, a2⟩ := tkV_at l (j / 3) (by omega)
  obtain ⟨b0, b1, b2⟩ := hc (j / 3) (by omega)
  rw [add_at]
  have e4 : j % 3 = 0 ∨ j % 3 = 1 ∨ j % 3 = 2 := by omega
  rcases e4 with e | e | e
  · rw [show j / 3 * 3 = j by omega, hv] at a0
    rw [show off + j / 3 * 3 = off + j by omega] at b0
    rw [b0]; exact a0.symm
  · rw [show j / 3 * 3 + 1 = j by omega, hv] at a1
    rw [show off + j / 3 * 3 + 1 = off + j by omega] at b1
    rw [b1]; exact a1.symm
  · rw [show j / 3 * 3 + 2 = j by omega, hv] at a2
    rw [show off + j / 3 * 3 + 2 = off + j by omega] at b2
    rw [b2]; exact a2.symm
theorem run_appY (W : World) (ty : TypeId) (B g n c : Nat) (l : List Tk3) (q : Option Addr) (m cx : Nat) (l' : List Tk3) (hown : OwnU W B g n c l) (hl : l'.length = m) (hq : q = none → m = 0 ∧ cx = 0) (hr : RdY W q l') (hn : n + m ≤ 3000000) (hB : B ≤ W.heap.size) :
    ∃ g' c' w', (Builtin.append_ #[35, 35] ty #[.slice (some ⟨g, 0, none⟩) n c, .slice q m cx]).run Tryz.prog W = .ok (.slice (some ⟨g', 0, none⟩) (n + m) c') w' ∧ OwnU w' B g' (n + m) c' (l ++ l') ∧ W.grownBy w' (some g) := by
  obtain ⟨i0, hi, hz0, hz1, hz2⟩ := info_parts infoY
  cases q with
  | none =>
    obtain ⟨rfl, rfl⟩ := hq rfl
    refine ⟨g, c, W, ?_, ?_, World.grownBy.refl _ _⟩
    · exact run_append_owned_none (P := Tryz.prog) (w := W) B 35 ty 64 i0 3 Tryz.underlying35 hi _ n _ hown
    · rw [List.length_eq_zero_iff.1 hl, List.append_nil]; exact hown
  | some ad =>
    obtain ⟨v', w', hrun, h2, h3, h4, h5⟩ := run_append_own_at (P := Tryz.prog) W B 35 ty 64 i0 (.agg #[.int .i64 0, .int .i64 0, .int .i64 0]) 3 24 Tryz.underlying35 hi hz0 hz1 hz2 rfl (by decide) _ n _ hown ad m cx (tkV l') (by rw [tkV_len, hl]) hr.cells (tkV_one l') (by unfold maxLen; omega) (by omega) hB
    rcases h2.2 with ⟨hv, _⟩ | ⟨g', cap, cur, rfl, _⟩
    · have := h4.1 hv; simp at this
    · refine ⟨g', cap, w', hrun, ?_, h3⟩
      unfold OwnU
      rw [tkV_append]
      exact h2
theorem wpY {o : Oper} {a : Act} {K : Act → World → Prop} {Q : Exit → Act → World → Prop} (W : World) (s x : Operand)
    (ho : o.op = .call { callee := .builtin .append, args := #[s, x], argTypes := #[35, 35] }) (B g n c : Nat) (l : List Tk3) (q : Option Addr) (m cx : Nat) (l' : List Tk3)
    (hs : a.eval s = .slice (some ⟨g, 0, none⟩) n c) (hx : a.eval x = .slice q m cx) (hown : OwnU W B g n c l) (hl : l'.length = m) (hq : q = none → m = 0 ∧ cx = 0) (hr : RdY W q l') (hn : n + m ≤ 3000000) (hB : B ≤ W.heap.size)
    (h : ∀ g' c' w', OwnU w' B g' (n + m) c' (l ++ l') → W.grownBy w' (some g) → K (a.put o.dst (.slice (some ⟨g', 0, none⟩) (n + m) c')) w') : o.wp Tryz.prog a W K Q := by
  obtain ⟨g', c', w', hrun, h2, h3⟩ := run_appY W o.type B g n c l q m cx l' hown hl hq hr hn hB
  unfold Oper.wp execOp
  simp only [ho, resolve, invoke, builtin, Sem.run_bind, Sem.run_pure, Result.andThen_ok, List.map_toArray, List.map_cons, List.map_nil, hs, hx, hrun]
  exact h g' c' w' h2 h3
theorem listY {ops : Array Oper} {rest : List Oper} {o : Oper} {a : Act} {Q : Exit → Act → World → Prop} {W : World} (hgd : o.guard = none) (s x : Operand)
    (ho : o.op = .call { callee := .builtin .append, args := #[s, x], argTypes := #[35, 35] }) (B g n c : Nat) (l : List Tk3) (q : Option Addr) (m cx : Nat) (l' : List Tk3)
    (hs : a.eval s = .slice (some ⟨g, 0, none⟩) n c) (hx : a.eval x = .slice q m cx) (hown : OwnU W B g n c l) (hl : l'.length = m) (hq : q = none → m = 0 ∧ cx = 0) (hr : RdY W q l') (hn : n + m ≤ 3000000) (hB : B ≤ W.heap.size)
    (h : ∀ g' c' w', OwnU w' B g' (n + m) c' (l ++ l') → W.grownBy w' (some g) → wpList Tryz.prog ops Q rest (a.put o.dst (.slice (some ⟨g', 0, none⟩) (n + m) c')) w') : wpList Tryz.prog ops Q (o :: rest) a W :=
  wpList_plain hgd fun _ hK => wpY W s x ho B g n c l q m cx l' hs hx hown hl hq hr hn hB fun g' c' w' h2 h3 => hK _ _ (h g' c' w' h2 h3)
theorem one_rowY (w : World) (x y z : Int) : RowY (w.alloc (.cells #[.int .i64 x, .int .i64 y, .int .i64 z] 64)) w.heap.size [(x, y, z)] := heap_new w _
theorem dcopyS (p : Pm) (a : Option Addr) (n cap : Nat) (al : Int) (m : Mn) (ta : Option Addr) (tn tc : Nat) (rf : Int) (l : List Int) (t : List Tk3) (hl : l.length = n) (hn : n ≤ 1048576) (ha : a = none → n = 0 ∧ cap = 0) (ht : t.length = tn) (htn : tn ≤ 1048576) (hta : ta = none → tn = 0 ∧ tc = 0) (w : World) (hr : G.Rd w a l) (hrt : RdY w ta t) :
    Calls Tryz.prog 49 #[.agg #[.int .i64 p.s, .int .i64 p.n, .int .i64 p.d, .int .i64 p.r, .int .i64 p.l, .int .i64 p.b, .int .i64 p.g, .int .i64 p.k, .slice a n cap, .int .i64 al, .int .i64 m.a, .bool m.b, .int .i64 m.n, .int .i64 m.d, .string ⟨m.s.toArray⟩, .slice ta tn tc, .int .i64 rf]] w fun e w' => ∃ g c gt ct, e = .returned (.agg #[.int .i64 p.s, .int .i64 p.n, .int .i64 p.d, .int .i64 p.r, .int .i64 p.l, .int .i64 p.b, .int .i64 p.g, .int .i64 p.k, .slice (some ⟨g, 0, none⟩) n c, .int .i64 al, .int .i64 m.a, .bool m.b, .int .i64 m.n, .int .i64 m.d, .string ⟨m.s.toArray⟩, .slice (some ⟨gt, 0, none⟩) tn ct, .int .i64 rf]) ∧ G.OwnN w' w.heap.size g n c l ∧ OwnU w' w.heap.size gt tn ct t ∧ Below w.heap.size w w' := by
  have HL : Hid (l.length = n) := hl
  have HT : Hid (t.length = tn) := ht
  have HA : Hid (a = none → n = 0 ∧ cap = 0) := ha
  have HTA : Hid (ta = none → tn = 0 ∧ tc = 0) := hta
  have HRL : Hid (G.Rd w a l) := hr
  have HRT : Hid (RdY w ta t) := hrt
  have h0 := heap_new w (dO p (.slice a n cap) al m (.slice ta tn tc) rf)
  have h1 := heap_new (w.alloc (dO p (.slice a n cap) al m (.slice ta tn tc) rf)) (dZ)
  rw [show (w.alloc (dO p (.slice a n cap) al m (.slice ta tn tc) rf)).heap.size = w.heap.size + 1 by simp] at h1
  have HB0 : Hid (Below w.heap.size w ((w.alloc (dO p (.slice a n cap) al m (.slice ta tn tc) rf)).alloc (dZ))) := bel_on (Nat.le_refl _) (alM _ _) (alM _ _)
  have HX0 : Hid (((w.alloc (dO p (.slice a n cap) al m (.slice ta tn tc) rf)).alloc (dZ)).heap[w.heap.size]? = some (dO p (.slice a n cap) al m (.slice ta tn tc) rf)) := row_on h0 (alM _ _)
  have HZ0 : Hid (((w.alloc (dO p (.slice a n cap) al m (.slice ta tn tc) rf)).alloc (dZ)).heap[w.heap.size + 1]? = some (dZ)) := h1
  have HR0 : Hid (G.Rd ((w.alloc (dO p (.slice a n cap) al m (.slice ta tn tc) rf)).alloc (dZ)) a l) := hr.keep HB0.out (Nat.le_refl _)
  have c0 := box17_cells HX0.out
  clear h0 h1 hl ht ha hta hr hrt
  go_enter Tryz.func49, Tryz.ntmps49
  go_wp2_with fail
  refine (G.copyGS a al l n cap HL.out hn HA.out _ HR0.out).mono ?_
  rintro e w1 ⟨g1, c1, rfl, how, hb⟩
  have HG1 : Hid (G.OwnN w1 w.heap.size g1 n c1 l) := G.own_mono how (by simp; omega)
  have HB1 := bq HB0 hb
  have HX1 : Hid (w1.heap[w.heap.size]? = some (dO p (.slice a n cap) al m (.slice ta tn tc) rf)) := row_on HX0.out hb
  have HZ1 : Hid (w1.heap[w.heap.size + 1]? = some (dZ)) := row_on HZ0.out hb
  have hg1 : w.heap.size + 2 ≤ g1 := by have := G.own_ge how g1 rfl; simp at this; omega
  clear how hb HB0 HX0 HZ0 HR0 c0
  go_wp2_with (refine listGuard rfl rfl _ _ _ rfl w.heap.size (.slice (some ⟨g1, 0, none⟩) n c1) (.int .i64 al) rfl rfl HX1.out (by kernel_rfl) (by kernel_rfl) ?_)
  intro w2 hput
  have HB2 : Hid (Below w.heap.size w w2) := hput.2.2.2 _ _ (Nat.le_refl _) HB1.out
  have HX2 : Hid (w2.heap[w.heap.size]? = some (dO p (.slice (some ⟨g1, 0, none⟩) n c1) al m (.slice ta tn tc) rf)) := hput.1
  have HZ2 : Hid (w2.heap[w.heap.size + 1]? = some (dZ)) := hput.far HZ1.out (by omega)
  have HG2 : Hid (G.OwnN w2 w.heap.size g1 n c1 l) := own_putM HG1.out hput (fun g e => by have e' := Option.some.inj e; dsimp only at e'; omega)
  clear hput HB1 HX1 HZ1 HG1
  have HB3 : Hid (Below w.heap.size w (w2.alloc (.cells #[] 64))) := bel_on (Nat.le_refl _) HB2.out (alM _ _)
  have HX3 : Hid ((w2.alloc (.cells #[] 64)).heap[w.heap.size]? = some (dO p (.slice (some ⟨g1, 0, none⟩) n c1) al m (.slice ta tn tc) rf)) := row_on HX2.out (alM _ _)
  have HZ3 : Hid ((w2.alloc (.cells #[] 64)).heap[w.heap.size + 1]? = some (dZ)) := row_on HZ2.out (alM _ _)
  have HG3 : Hid (G.OwnN (w2.alloc (.cells #[] 64)) w.heap.size g1 n c1 l) := G.own_keep HG2.out (alM _ _) (G.own_lt HG2.out)
  have HU3 : Hid (OwnU (w2.alloc (.cells #[] 64)) (w.heap.size + 2) w2.heap.size 0 0 []) := ownU_empty w2 _ (by have := row_lt HZ2.out; omega)
  have HY3 : Hid (RdY (w2.alloc (.cells #[] 64)) ta t) := HRT.out.keep HB3.out (Nat.le_refl _)
  have hz2 := row_lt HZ2.out
  have hg2 := G.own_lt HG2.out g1 rfl
  have hs3 := HB3.out.size
  have c3 := box17_cells HX3.out
  clear HB2 HX2 HZ2 HG2
  go_upto_region 2 with fail
  go_wp2_with (refine listY rfl (.tmp 7) (.tmp 9) rfl (w.heap.size + 2) w2.heap.size 0 0 [] ta tn tc t rfl rfl HU3.out HT.out HTA.out HY3.out (by omega) (by have := row_lt HZ3.out; omega) ?_)
  intro g4 c4 w4 hown4 hgr4
  have HU4 : Hid (OwnU w4 (w.heap.size + 2) g4 tn c4 t) := by show OwnU _ _ _ _ _ _; simpa using hown4
  have HB4 : Hid (Below w.heap.size w w4) := HB3.out.grown hgr4 HB3.out.size (fun m hm => by have := Option.some.inj hm; omega)
  have HX4 : Hid (w4.heap[w.heap.size]? = some (dO p (.slice (some ⟨g1, 0, none⟩) n c1) al m (.slice ta tn tc) rf)) := row_grown HX3.out hgr4 (fun e => by have := Option.some.inj e; omega)
  have HZ4 : Hid (w4.heap[w.heap.size + 1]? = some (dZ)) := row_grown HZ3.out hgr4 (fun e => by have := Option.some.inj e; omega)
  have HG4 : Hid (G.OwnN w4 w.heap.size g1 n c1 l) := own_grownM HG3.out hgr4 (fun g e e2 => by have e' := Option.some.inj e; have e3 := Option.some.inj e2; dsimp only at e'; omega)
  have hg4 : w.heap.size + 2 ≤ g4 := HU4.out.ge
  clear hown4 hgr4 HB3 HX3 HZ3 HG3 HU3 HY3 c3
  go_wp2_with (refine listStoreU rfl rfl _ _ _ rfl rfl w.heap.size 15 tn c4 (some ⟨g4, 0, none⟩) rfl rfl HX4.out (by simp) ?_)
  intro w5 hput
  have HB5 : Hid (Below w.heap.size w w5) := hput.2.2.2 _ _ (Nat.le_refl _) HB4.out
  have HX5 : Hid (w5.heap[w.heap.size]? = some (dO p (.slice (some ⟨g1, 0, none⟩) n c1) al m (.slice (some ⟨g4, 0, none⟩) tn c4) rf)) := hput.1
  have HZ5 : Hid (w5.heap[w.heap.size + 1]? = some (dZ)) := hput.far HZ4.out (by omega)
  have HG5 : Hid (G.OwnN w5 w.heap.size g1 n c1 l) := own_putM HG4.out hput (fun g e => by have e' := Option.some.inj e; dsimp only at e'; omega)
  have HU5 : Hid (OwnU w5 (w.heap.size + 2) g4 tn c4 t) := own_putM HU4.out hput (fun g e => by have e' := Option.some.inj e; dsimp only at e'; omega)
  clear hput HB4 HX4 HZ4 HG4 HU4
  go_upto_region 3 with fail
  go_wp2_with (first | refine wpList_load_row rfl _ _ rfl w.heap.size rfl _ _ _ _ HX5.out Tryz.underlying37 rfl (by kernel_rfl) ?_ | refine listStoreD rfl rfl _ _ _ rfl rfl (w.heap.size + 1) (dR p (.slice (some ⟨g1, 0, none⟩) n c1) al m (.slice (some ⟨g4, 0, none⟩) tn c4) rf) rfl rfl rfl (by kernel_rfl) HZ5.out rfl ?_)
  intro w6 hput
  have HB6 : Hid (Below w.heap.size w w6) := hput.2.2.2 _ _ (Nat.le_succ _) HB5.out
  have HG6 : Hid (G.OwnN w6 w.heap.size g1 n c1 l) := own_putM HG5.out hput (fun g e => by have e' := Option.some.inj e; dsimp only at e'; omega)
  have HU6 : Hid (OwnU w6 (w.heap.size + 2) g4 tn c4 t) := own_putM HU5.out hput (fun g e => by have e' := Option.some.inj e; dsimp only at e'; omega)
  have HZ6 : Hid (w6.heap[w.heap.size + 1]? = some (dO p (.slice (some ⟨g1, 0, none⟩) n c1) al m (.slice (some ⟨g4, 0, none⟩) tn c4) rf)) := hput.1
  clear hput HB5 HX5 HZ5 HG5 HU5
  go_wp2
  refine bodyPost_ret (v := .agg #[.int .i64 p.s, .int .i64 p.n, .int .i64 p.d, .int .i64 p.r, .int .i64 p.l, .int .i64 p.b, .int .i64 p.g, .int .i64 p.k, .slice (some ⟨g1, 0, none⟩) n c1, .int .i64 al, .int .i64 m.a, .bool m.b, .int .i64 m.n, .int .i64 m.d, .string ⟨m.s.toArray⟩, .slice (some ⟨g4, 0, none⟩) tn c4, .int .i64 rf]) (results_cell_row Tryz.results49 _ _ (w.heap.size + 1) _ _ _ _ rfl HZ6.out Tryz.underlying37 rfl (by kernel_rfl)) rfl ⟨g1, c1, g4, c4, rfl, HG6.out, HU6.out.mono (by omega), HB6.out⟩
end Go.Proofs.YtfhhnelffldggaaGreatDoor
namespace Go.Proofs.YtfhhnelffldggaaGreatDoor
open Go.RowKit Go.PlainAid Plain
set_option linter.unusedVariables false
set_option linter.unusedSimpArgs false
theorem mem_ifn {i k : Nat} {x : Bool} : (i ∈ (if x = true then ([] : List Nat) else [k])) ↔ (x = false ∧ i = k) := by cases x <;> simp
theorem grQ {w w' : World} {g k : Nat} {o : Obj} (hg : w.grownBy w' (some g)) (h : w.heap[k]? = some o) (hne : k ≠ g) : w'.heap[k]? = some o :=
  (hg.block k (row_lt h) (fun e => hne (by cases e; rfl))).trans h
structure RS (s : ByteArray) (r C : Nat) (y : Bool) (c : Fin 3) (t30 t31 t7 : Value) (w : World) : Prop where
  c0 : c = 0 → CurX w C s 1 false
  c1 : 0 < c → ∃ (n : Int) (a1 : Nat) (b1 : Bool), t30 = .int .i64 n ∧ StepV s 1 false n a1 b1 ∧ CurX w C s a1 b1 ∧ (c = 2 → t31 = .agg #[.int .i64 (bt s 0), .int .i64 n, .int .i64 0, .int .i64 0])
  y : y = true → ∃ b, t7 = .pointer (some ⟨b, 0, none⟩) ∧ w.heap[b]? = some (oB 0 0 0 0) ∧ C < b
  z : w.heap[r]? = some (oB 0 0 0 0)
  lt : r < C
theorem RS.clt {s : ByteArray} {r C : Nat} {y : Bool} {c : Fin 3} {t30 t31 t7 : Value} {w : World} (h : RS s r C y c t30 t31 t7 w) : C < w.heap.size := by
  by_cases hc : c = 0
  · exact row_lt (h.c0 hc)
  · obtain ⟨n, a1, b1, _, _, e, _⟩ := h.c1 (Fin.pos_iff_ne_zero.2 hc)
    exact row_lt e
theorem read_all {t s : ByteArray} {k n d v n0 d0 v0 : Int} {a1 a2 a3 : Nat} {b1 b2 b3 : Bool} (hU : Q.unsealed t = some s) (hR : OrdR k n d v) (hT : ordT k n d v = t) (h1 : StepV s 1 false n0 a1 b1) (h2 : StepV s a1 b1 d0 a2 b2) (h3 : StepV s a2 b2 v0 a3 b3) :
    b3 = false ∧ OrdR (bt s 0) n0 d0 v0 ∧ ordT (bt s 0) n0 d0 v0 = t := by
  have e := uns_ord hR hT
  rw [hU] at e
  obtain rfl := Option.some.inj e
  have hk : bt (ordB k n d v) 0 = k := by
    have h := (V.bt_drop (s := ordB k n d v) (k := 0) (by rw [List.drop_zero, ordB_list])).2.1
    rw [h, UInt8.toNat_ofNat']
    have := hR.bd
    omega
  have g1 := rd_num hR
  rcases h1 with ⟨_, h1, rfl⟩ | ⟨h1 | h1, _⟩
  · rw [show ((1 : Nat) : Int) = (1 : Nat) from rfl] at g1
    rw [g1] at h1
    obtain ⟨rfl, rfl⟩ := Prod.mk.inj (Option.some.inj h1)
    rcases h2 with ⟨_, h2, rfl⟩ | ⟨h2 | h2, _⟩
    · rw [rd_den hR] at h2
      obtain ⟨rfl, rfl⟩ := Prod.mk.inj (Option.some.inj h2)
      rcases h3 with ⟨_, h3, rfl⟩ | ⟨h3 | h3, _⟩
      · rw [rd_vol hR] at h3
        obtain ⟨rfl, rfl⟩ := Prod.mk.inj (Option.some.inj h3)
        rw [hk]
        exact ⟨rfl, hR, hT⟩
      · cases h3
      · rw [rd_vol hR] at h3; cases h3
    · cases h2
    · rw [rd_den hR] at h2; cases h2
  · cases h1
  · rw [g1] at h1; cases h1
theorem readoS (t : ByteArray) (ht : t.size ≤ 1048576) (w : World) : Calls Tryz.prog 51 #[.string t] w fun e w' => ∃ (k n d v : Int) (b : Bool), e = .returned (.tuple #[ordV k n d v, .bool b]) ∧ RdOr t k n d v b ∧ Below w.heap.size w w' := by
  have HB0 : Hid (Below w.heap.size w (w.alloc (oB 0 0 0 0))) := (Below.refl _ _).alloc (Nat.le_refl _) _
  have HZ0 : Hid ((w.alloc (oB 0 0 0 0)).heap[w.heap.size]? = some (oB 0 0 0 0)) := heap_new w _
  have K1 : Hid (∀ w, Calls Tryz.prog 103 #[.string t] w fun e w' => e = .returned (Q.encU (Q.unsealed t)) ∧ Below w.heap.size w w') := fun w => Q.sun4 t ht w
  rcases hU : Q.unsealed t with _ | s
  · have HR : Hid (RdOr t 0 0 0 0 false) := (.inr ⟨fun k n d v h1 h2 => (by have := uns_ord h1 h2; rw [hU] at this; cases this), rfl, rfl, rfl, rfl, rfl⟩ : RdOr t 0 0 0 0 false)
    rw [hU] at K1
    go_enter Tryz.func51, Tryz.ntmps51
    go_wp2_with fail
    refine (K1.out _).mono ?_
    rintro e w1 ⟨rfl, hb1⟩
    unfold Q.encU
    have HZ1 : Hid (w1.heap[w.heap.size]? = some (oB 0 0 0 0)) := row_on HZ0.out hb1
    have HB1 := bq HB0 hb1
    clear hb1 HZ0 HB0 K1 hU
    have kz := box4_cells HZ1.out
    go_wp2
    have HQ : Hid (((((w1.setCell ⟨w.heap.size, 0, none⟩ (.int .i64 0)).setCell ⟨w.heap.size, 1, none⟩ (.int .i64 0)).setCell ⟨w.heap.size, 2, none⟩ (.int .i64 0)).setCell ⟨w.heap.size, 3, none⟩ (.int .i64 0)).heap[w.heap.size]? = some (oB 0 0 0 0)) := set_row5 (set_row5 (set_row5 (set_row5 HZ1.out 0 _) 1 _) 2 _) 3 _
    have HBD : Hid (Below w.heap.size w ((((w1.setCell ⟨w.heap.size, 0, none⟩ (.int .i64 0)).setCell ⟨w.heap.size, 1, none⟩ (.int .i64 0)).setCell ⟨w.heap.size, 2, none⟩ (.int .i64 0)).setCell ⟨w.heap.size, 3, none⟩ (.int .i64 0))) := (((HB1.out.setCell (Nat.le_refl _) _).setCell (Nat.le_refl _) _).setCell (Nat.le_refl _) _).setCell (Nat.le_refl _) _
    obtain ⟨WD, hWD⟩ : ∃ W, W = ((((w1.setCell ⟨w.heap.size, 0, none⟩ (.int .i64 0)).setCell ⟨w.heap.size, 1, none⟩ (.int .i64 0)).setCell ⟨w.heap.size, 2, none⟩ (.int .i64 0)).setCell ⟨w.heap.size, 3, none⟩ (.int .i64 0)) := ⟨_, rfl⟩
    rw [← hWD] at HQ HBD ⊢
    clear hWD kz
    have kf := box4_cells HQ.out
    exact bodyPost_ret (v := .tuple #[.agg #[.int .i64 0, .int .i64 0, .int .i64 0, .int .i64 0], .bool false]) (by simp [results, Tryz.results51, go_sem, kf]) rfl ⟨0, 0, 0, 0, false, rfl, HR.out, HBD.out⟩
  have hus := uns_some hU
  have hs : s.size ≤ 1048576 := by have := hus.2; omega
  clear hus
  by_cases h0 : s.size < 1
  · have HR : Hid (RdOr t 0 0 0 0 false) := (.inr ⟨fun k n d v h1 h2 => (by have e := uns_ord h1 h2; rw [hU] at e; have e2 := Option.some.inj e; subst e2; rw [ordB_size] at h0; omega), rfl, rfl, rfl, rfl, rfl⟩ : RdOr t 0 0 0 0 false)
    rw [hU] at K1
    go_enter Tryz.func51, Tryz.ntmps51
    go_wp2_with fail
    refine (K1.out _).mono ?_
    rintro e w1 ⟨rfl, hb1⟩
    unfold Q.encU
    have HZ1 : Hid (w1.heap[w.heap.size]? = some (oB 0 0 0 0)) := row_on HZ0.out hb1
    have HB1 := bq HB0 hb1
    clear hb1 HZ0 HB0 K1 hU
    have kz := box4_cells HZ1.out
    have h0' : (s.size : Int) < 1 := by omega
    go_wp2
    have HQ : Hid (((((w1.setCell ⟨w.heap.size, 0, none⟩ (.int .i64 0)).setCell ⟨w.heap.size, 1, none⟩ (.int .i64 0)).setCell ⟨w.heap.size, 2, none⟩ (.int .i64 0)).setCell ⟨w.heap.size, 3, none⟩ (.int .i64 0)).heap[w.heap.size]? = some (oB 0 0 0 0)) := set_row5 (set_row5 (set_row5 (set_row5 HZ1.out 0 _) 1 _) 2 _) 3 _
    have HBD : Hid (Below w.heap.size w ((((w1.setCell ⟨w.heap.size, 0, none⟩ (.int .i64 0)).setCell ⟨w.heap.size, 1, none⟩ (.int .i64 0)).setCell ⟨w.heap.size, 2, none⟩ (.int .i64 0)).setCell ⟨w.heap.size, 3, none⟩ (.int .i64 0))) := (((HB1.out.setCell (Nat.le_refl _) _).setCell (Nat.le_refl _) _).setCell (Nat.le_refl _) _).setCell (Nat.le_refl _) _
    obtain ⟨WD, hWD⟩ : ∃ W, W = ((((w1.setCell ⟨w.heap.size, 0, none⟩ (.int .i64 0)).setCell ⟨w.heap.size, 1, none⟩ (.int .i64 0)).setCell ⟨w.heap.size, 2, none⟩ (.int .i64 0)).setCell ⟨w.heap.size, 3, none⟩ (.int .i64 0)) := ⟨_, rfl⟩
    rw [← hWD] at HQ HBD ⊢
    clear hWD kz
    have kf := box4_cells HQ.out
    exact bodyPost_ret (v := .tuple #[.agg #[.int .i64 0, .int .i64 0, .int .i64 0, .int .i64 0], .bool false]) (by simp [results, Tryz.results51, go_sem, kf]) rfl ⟨0, 0, 0, 0, false, rfl, HR.out, HBD.out⟩
  have h1 : 1 ≤ s.size := by omega
  have h0' : ¬ (s.size : Int) < 1 := by omega
  have hp : (0 : Int) < (s.size : Int) := by omega
  have hp2 : 0 < s.size := h1
  have HU : Hid (Q.unsealed t = some s) := hU
  have hbt := get_bt s
  have hb255 : 0 ≤ bt s 0 ∧ bt s 0 ≤ 255 := ⟨bt_nonneg s 0, bt_le s 0⟩
  rw [hU] at K1
  clear hU h0
  go_enter Tryz.func51, Tryz.ntmps51
  go_wp2_with fail
  refine (K1.out _).mono ?_
  rintro e w1 ⟨rfl, hb1⟩
  unfold Q.encU
  have HZ1 : Hid (w1.heap[w.heap.size]? = some (oB 0 0 0 0)) := row_on HZ0.out hb1
  have HB1 := bq HB0 hb1
  clear hb1 HZ0 HB0 K1
  go_upto_region 5 with fail
  obtain ⟨C, hC⟩ : ∃ C, w1.heap.size = C := ⟨_, rfl⟩
  have hlt : w.heap.size < C := by rw [← hC]; exact row_lt HZ1.out
  have HC2 : Hid (CurX (w1.alloc (.cells #[.string s, .int .i64 1, .bool false] 143)) C s 1 false) := by rw [← hC]; exact heap_new w1 _
  have HZ2 : Hid ((w1.alloc (.cells #[.string s, .int .i64 1, .bool false] 143)).heap[w.heap.size]? = some (oB 0 0 0 0)) := row_on HZ1.out (alQ _ _)
  have HB2 : Hid (Below w.heap.size w (w1.alloc (.cells #[.string s, .int .i64 1, .bool false] 143))) := bel_on (Nat.le_refl _) HB1.out (alQ _ _)
  try rw [hC]
  obtain ⟨w2, hw2⟩ : ∃ W, W = w1.alloc (.cells #[.string s, .int .i64 1, .bool false] 143) := ⟨_, rfl⟩
  rw [← hw2] at HC2 HZ2 HB2 ⊢
  clear hw2 HZ1 HB1 hC
  refine wp_region_held_drew (S := fun w' => Below w.heap.size w w') (by kernel_rfl) HB2.out.drew (fun hHeld => ?_)
  refine tkQ 0 ?_ rfl (by kernel_rfl) (fun _ _ _ h => h) (by rfl) ?_ (by assumption) ?_
  rotate_left
  · intro w_ hSw; (try obtain ⟨z0_⟩ := hSw); go_simp <;> with_reducible rfl
  try simp only [Act.put, sQ1, sQ2, sQ3, sQ4, sQ5, sQ6]
  refine tkQ 1 ?_ rfl (by kernel_rfl) (fun _ _ _ h => h) (by rfl) ?_ (by assumption) ?_
  rotate_left
  · intro w_ hSw; (try obtain ⟨z0_⟩ := hSw); go_simp <;> with_reducible rfl
  try simp only [Act.put, sQ1, sQ2, sQ3, sQ4, sQ5, sQ6]
  refine tkQ 2 ?_ rfl (by kernel_rfl) (fun _ _ _ h => h) (by rfl) ?_ (by assumption) ?_
  rotate_left
  · intro w_ hSw; (try obtain ⟨z0_⟩ := hSw); go_simp <;> with_reducible rfl
  try simp only [Act.put, sQ1, sQ2, sQ3, sQ4, sQ5, sQ6]
  refine tkQ 3 ?_ rfl (by kernel_rfl) (fun _ _ _ h => h) (by rfl) ?_ (by assumption) ?_
  rotate_left
  · intro w_ hSw; (try obtain ⟨z0_⟩ := hSw); go_simp <;> with_reducible rfl
  try simp only [Act.put, sQ1, sQ2, sQ3, sQ4, sQ5, sQ6]
  have hwb : IntKind.i64.wrap (bt s 0) = bt s 0 := by rw [IntKind.wrap_i64]; omega
  rw [hwb]
  refine wpAnyH_named (fun a0 ha0 => ?_)
  have HA0 : Hid (a0 = _) := ha0
  clear ha0
  refine any_states (σ := Bool × Fin 3) (fun s => #[true, true, true, true, decide (0 < s.2), decide (1 < s.2), s.1, false]) (fun s => (if s.2 = 0 then [4] else []) ++ (if s.2 = 1 then [5] else []) ++ (if s.1 = true then [] else [6])) (fun s => 1 + (if s.1 then 0 else 1) + (2 - s.2.val)) (fun s => true) (fun s => decide (s.2 = 2) && s.1) (fun q a w_ => ∃ t30 t31 t7 : Value, a = ((a0.put (some 30) t30).put (some 31) t31).put (some 7) t7 ∧ RS s (w.heap.size) C q.1 q.2 t30 t31 t7 w_) ?_ ?_ ?_ 4 (false, 0) _ _ _ (by decide) (by decide) (by decide) hHeld ⟨a0.tmps.getD 30 undef, a0.tmps.getD 31 undef, a0.tmps.getD 7 undef, (by simp only [put_self]), ⟨fun _ => row_on HC2.out (Below.refl _ _).drew, fun h => absurd h (by simp), fun h => absurd h (by simp), row_on HZ2.out (Below.refl _ _).drew, hlt⟩⟩
  · rintro ⟨y, c⟩
    dsimp only
    revert y c
    decide +kernel
  · rintro ⟨y, c⟩ i hok hfin hi
    dsimp only at hok hfin hi
    simp only [List.mem_append, mem_ifn, mem_ifc] at hi
    rcases hi with (hi | hi) | hi
    · obtain ⟨rfl, rfl⟩ := hi
      refine ⟨(y, 1), rfl, rfl, ?_, ?_⟩
      · clear hfin hok; revert y; decide +kernel
      rintro a w_ hSw ⟨t30, t31, t7, rfl, hn⟩
      dsimp only at hn ⊢
      refine wpOp_step (i := 4) rfl (fun K hK => ?_)
      have HK : Shut _ := hK
      clear hK
      rw [HA0.out]
      simp only [Act.put, List.setIfInBounds_toArray, List.set_cons_zero, List.set_cons_succ]
      go_simp
      go_at_call 104
      refine (varC C s 1 false hs h1 w_ (hn.c0 rfl)).mono ?_
      rintro e w2 ⟨n, a1, b1, rfl, hst, hcu, hg⟩
      go_wp2_with fail
      have hCl : w.heap.size < C := hn.lt
      exact HK.out _ _ ⟨hSw.trans ((Below.refl _ _).grown hg hSw.size (fun k hk => by cases hk; omega)), .int .i64 n, t31, t7, (by rw [HA0.out]; simp only [Act.put, List.setIfInBounds_toArray, List.set_cons_zero, List.set_cons_succ]), ⟨fun h => absurd h (by simp), fun _ => ⟨n, a1, b1, rfl, hst, hcu, fun h => absurd h (by simp)⟩, fun h => by obtain ⟨b, e1, e2, e3⟩ := hn.y h; exact ⟨b, e1, grQ hg e2 (by omega), e3⟩, grQ hg hn.z (by omega), hCl⟩⟩
    · obtain ⟨rfl, rfl⟩ := hi
      refine ⟨(y, 2), rfl, rfl, ?_, ?_⟩
      · clear hfin hok; revert y; decide +kernel
      rintro a w_ hSw ⟨t30, t31, t7, rfl, hn⟩
      dsimp only at hn ⊢
      refine wpOp_step (i := 5) rfl (fun K hK => ?_)
      have HK : Shut _ := hK
      clear hK
      rw [HA0.out]
      simp only [Act.put, List.setIfInBounds_toArray, List.set_cons_zero, List.set_cons_succ]
      obtain ⟨n, a1, b1, rfl, hst, hcu, _⟩ := hn.c1 (by simp)
      go_simp
      exact HK.out _ _ ⟨hSw, .int .i64 n, .agg #[.int .i64 (bt s 0), .int .i64 n, .int .i64 0, .int .i64 0], t7, (by rw [HA0.out]; simp only [Act.put, List.setIfInBounds_toArray, List.set_cons_zero, List.set_cons_succ]), ⟨fun h => absurd h (by simp), fun _ => ⟨n, a1, b1, rfl, hst, hcu, fun _ => rfl⟩, hn.y, hn.z, hn.lt⟩⟩
    · obtain ⟨hy, rfl⟩ := hi
      subst hy
      refine ⟨(true, c), rfl, rfl, ?_, ?_⟩
      · clear hfin hok; revert c; decide +kernel
      rintro a w_ hSw ⟨t30, t31, t7, rfl, hn⟩
      dsimp only at hn ⊢
      refine wpOp_step (i := 6) rfl (fun K hK => ?_)
      have HK : Shut _ := hK
      clear hK
      rw [HA0.out]
      simp only [Act.put, List.setIfInBounds_toArray, List.set_cons_zero, List.set_cons_succ]
      go_simp
      exact HK.out _ _ ⟨bel_on (Nat.le_refl _) hSw (alQ w_ _), t30, t31, _, (by rw [HA0.out]; simp only [Act.put, List.setIfInBounds_toArray, List.set_cons_zero, List.set_cons_succ]), ⟨fun h => row_on (hn.c0 h) (alQ w_ _), fun h => by obtain ⟨n, a1, b1, e1, e2, e3, e4⟩ := hn.c1 h; exact ⟨n, a1, b1, e1, e2, row_on e3 (alQ w_ _), e4⟩, fun _ => ⟨w_.heap.size, rfl, heap_new w_ _, hn.clt⟩, row_on hn.z (alQ w_ _), hn.lt⟩⟩
  · rintro ⟨y, c⟩ a w_ f2 hok hfin hf hSw ⟨t30, t31, t7, rfl, hn⟩
    dsimp only at hok hfin hf hn ⊢
    obtain ⟨rfl, rfl⟩ : c = 2 ∧ y = true := by simpa using hfin
    obtain ⟨f3, rfl⟩ : ∃ f3, f2 = f3 + 1 := ⟨f2 - 1, by have h3 : 1 ≤ f2 := (by first | exact hf | simpa using hf); omega⟩
    obtain ⟨n, a1, b1, rfl, hst1, hcu, ht31⟩ := hn.c1 (by simp)
    obtain rfl := ht31 rfl
    obtain ⟨b, rfl, hrow, hCb⟩ := hn.y rfl
    have hz := hn.z
    have kk := box4_cells hrow
    rw [HA0.out]
    simp only [Act.put, List.setIfInBounds_toArray, List.set_cons_zero, List.set_cons_succ]
    refine wpAnyH_ready (rs := [7]) (by kernel_rfl) (by simp) ?_
    refine AllReadyH.cons rfl (fun K hK => ?_) AllReadyH.nil
    go_simp
    have hbC : w.heap.size < b := by have := hn.lt; omega
    have HQ4 : Hid (((((w_.setCell ⟨b, 0, none⟩ (.int .i64 (bt s 0))).setCell ⟨b, 1, none⟩ (.int .i64 n)).setCell ⟨b, 2, none⟩ (.int .i64 0)).setCell ⟨b, 3, none⟩ (.int .i64 0)).heap[b]? = some (oB (bt s 0) n 0 0)) := set_row5 (set_row5 (set_row5 (set_row5 hrow 0 _) 1 _) 2 _) 3 _
    have HC4 : Hid (CurX ((((w_.setCell ⟨b, 0, none⟩ (.int .i64 (bt s 0))).setCell ⟨b, 1, none⟩ (.int .i64 n)).setCell ⟨b, 2, none⟩ (.int .i64 0)).setCell ⟨b, 3, none⟩ (.int .i64 0)) C s a1 b1) := set_far (set_far (set_far (set_far hcu (by omega)) (by omega)) (by omega)) (by omega)
    have HZ4 : Hid (((((w_.setCell ⟨b, 0, none⟩ (.int .i64 (bt s 0))).setCell ⟨b, 1, none⟩ (.int .i64 n)).setCell ⟨b, 2, none⟩ (.int .i64 0)).setCell ⟨b, 3, none⟩ (.int .i64 0)).heap[w.heap.size]? = some (oB 0 0 0 0)) := set_far (set_far (set_far (set_far hz (by omega)) (by omega)) (by omega)) (by omega)
    have HB4 : Hid (Below w.heap.size w ((((w_.setCell ⟨b, 0, none⟩ (.int .i64 (bt s 0))).setCell ⟨b, 1, none⟩ (.int .i64 n)).setCell ⟨b, 2, none⟩ (.int .i64 0)).setCell ⟨b, 3, none⟩ (.int .i64 0))) := (((hSw.setCell (show w.heap.size ≤ b by omega) _).setCell (show w.heap.size ≤ b by omega) _).setCell (show w.heap.size ≤ b by omega) _).setCell (show w.heap.size ≤ b by omega) _
    have hlC := hn.lt
    refine hK.out _ _ HB4.out (fun hHeld2 => ?_)
    clear hK K hHeld2
    obtain ⟨w4, hw4⟩ : ∃ W, W = ((((w_.setCell ⟨b, 0, none⟩ (.int .i64 (bt s 0))).setCell ⟨b, 1, none⟩ (.int .i64 n)).setCell ⟨b, 2, none⟩ (.int .i64 0)).setCell ⟨b, 3, none⟩ (.int .i64 0)) := ⟨_, rfl⟩
    rw [← hw4] at HQ4 HC4 HZ4 HB4 ⊢
    clear hw4 hn hrow hcu hz hSw kk HA0 HC2 HZ2 HB2 hHeld hf hfin hok
    refine wpAnyH_done (by kernel_rfl) ?_ _
    have HN1 := hst1.num h1
    have hst1' : Hid (StepV s 1 false n a1 b1) := hst1
    clear hst1
    go_wp2_with fail
    refine (varC C s a1 b1 hs HN1.2.2 _ HC4.out).mono ?_
    rintro e w5 ⟨d, a2, b2, rfl, hst2, hcu5, hg5⟩
    have HQ5 : Hid ((w5.setCell ⟨b, 2, none⟩ (.int .i64 d)).heap[b]? = some (oB (bt s 0) n d 0)) := set_row5 (grQ hg5 HQ4.out (by omega)) 2 _
    have HC5 : Hid (CurX (w5.setCell ⟨b, 2, none⟩ (.int .i64 d)) C s a2 b2) := set_far hcu5 (by omega)
    have HZ5 : Hid ((w5.setCell ⟨b, 2, none⟩ (.int .i64 d)).heap[w.heap.size]? = some (oB 0 0 0 0)) := set_far (grQ hg5 HZ4.out (by omega)) (by omega)
    have HB5 : Hid (Below w.heap.size w (w5.setCell ⟨b, 2, none⟩ (.int .i64 d))) := (HB4.out.trans ((Below.refl _ _).grown hg5 HB4.out.size (fun k hk => by cases hk; omega))).setCell (show w.heap.size ≤ b by omega) _
    have kq5 := box4_cells (grQ hg5 HQ4.out (show b ≠ C by omega))
    have HN2 := hst2.num HN1.2.2
    have hst2' : Hid (StepV s a1 b1 d a2 b2) := hst2
    clear hst2 hcu5 hg5 HQ4 HC4 HZ4 HB4
    go_upto_region 7 with fail
    obtain ⟨w6, hw6⟩ : ∃ W, W = w5.setCell ⟨b, 2, none⟩ (.int .i64 d) := ⟨_, rfl⟩
    rw [← hw6] at HQ5 HC5 HZ5 HB5 ⊢
    clear hw6 kq5
    go_wp2_with fail
    refine (varC C s a2 b2 hs HN2.2.2 _ HC5.out).mono ?_
    rintro e w7 ⟨v, a3, b3, rfl, hst3, hcu7, hg7⟩
    have HQ7 : Hid ((w7.setCell ⟨b, 3, none⟩ (.int .i64 v)).heap[b]? = some (oB (bt s 0) n d v)) := set_row5 (grQ hg7 HQ5.out (by omega)) 3 _
    have HC7 : Hid (CurX (w7.setCell ⟨b, 3, none⟩ (.int .i64 v)) C s a3 b3) := set_far hcu7 (by omega)
    have HZ7 : Hid ((w7.setCell ⟨b, 3, none⟩ (.int .i64 v)).heap[w.heap.size]? = some (oB 0 0 0 0)) := set_far (grQ hg7 HZ5.out (by omega)) (by omega)
    have HB7 : Hid (Below w.heap.size w (w7.setCell ⟨b, 3, none⟩ (.int .i64 v))) := (HB5.out.trans ((Below.refl _ _).grown hg7 HB5.out.size (fun k hk => by cases hk; omega))).setCell (show w.heap.size ≤ b by omega) _
    have kq7 := box4_cells (grQ hg7 HQ5.out (show b ≠ C by omega))
    have hst3' : Hid (StepV s a2 b2 v a3 b3) := hst3
    clear hst3 hcu7 hg7 HQ5 HC5 HZ5 HB5
    go_upto_region 8 with fail
    obtain ⟨w8, hw8⟩ : ∃ W, W = w7.setCell ⟨b, 3, none⟩ (.int .i64 v) := ⟨_, rfl⟩
    rw [← hw8] at HQ7 HC7 HZ7 HB7 ⊢
    clear hw8 kq7
    have HOUT : Hid (¬ (b3 = false ∧ OrdR (bt s 0) n d v ∧ ordT (bt s 0) n d v = t) → RdOr t 0 0 0 0 false) := fun hno => .inr ⟨fun k' n' d' v' h1' h2' => hno (read_all HU.out h1' h2' hst1'.out hst2'.out hst3'.out), rfl, rfl, rfl, rfl, rfl⟩
    have kq := box4_cells HQ7.out
    by_cases hR : OrdR (bt s 0) n d v
    · go_wp2_with fail
      refine (textS (bt s 0) n d v hR _).mono ?_
      rintro e w9 ⟨rfl, hb9⟩
      have HC9 : Hid (CurX w9 C s a3 b3) := row_on HC7.out hb9
      have HQ9 : Hid (w9.heap[b]? = some (oB (bt s 0) n d v)) := row_on HQ7.out hb9
      have HZ9 : Hid (w9.heap[w.heap.size]? = some (oB 0 0 0 0)) := row_on HZ7.out hb9
      have HB9 := bq HB7 hb9
      clear hb9 HC7 HQ7 HZ7 HB7 kq
      have kc := row3_cells HC9.out
      have kq := box4_cells HQ9.out
      have kz := box4_cells HZ9.out
      have HRR : Hid (OrdR (bt s 0) n d v) := hR
      obtain ⟨T, hT⟩ : ∃ T, ordT (bt s 0) n d v = T := ⟨_, rfl⟩
      rw [hT] at HOUT ⊢
      have HT : Hid (ordT (bt s 0) n d v = T) := hT
      clear hT hR
      cases b3
      · by_cases he : T = t
        · subst he
          have HY : Hid (RdOr T (bt s 0) n d v true) := .inl ⟨HRR.out, HT.out, rfl⟩
          go_wp2
          have HQ : Hid (((((w9.setCell ⟨w.heap.size, 0, none⟩ (.int .i64 (bt s 0))).setCell ⟨w.heap.size, 1, none⟩ (.int .i64 n)).setCell ⟨w.heap.size, 2, none⟩ (.int .i64 d)).setCell ⟨w.heap.size, 3, none⟩ (.int .i64 v)).heap[w.heap.size]? = some (oB (bt s 0) n d v)) := set_row5 (set_row5 (set_row5 (set_row5 HZ9.out 0 _) 1 _) 2 _) 3 _
          have HBD : Hid (Below w.heap.size w ((((w9.setCell ⟨w.heap.size, 0, none⟩ (.int .i64 (bt s 0))).setCell ⟨w.heap.size, 1, none⟩ (.int .i64 n)).setCell ⟨w.heap.size, 2, none⟩ (.int .i64 d)).setCell ⟨w.heap.size, 3, none⟩ (.int .i64 v))) := (((HB9.out.setCell (Nat.le_refl _) _).setCell (Nat.le_refl _) _).setCell (Nat.le_refl _) _).setCell (Nat.le_refl _) _
          obtain ⟨WD, hWD⟩ : ∃ W, W = ((((w9.setCell ⟨w.heap.size, 0, none⟩ (.int .i64 (bt s 0))).setCell ⟨w.heap.size, 1, none⟩ (.int .i64 n)).setCell ⟨w.heap.size, 2, none⟩ (.int .i64 d)).setCell ⟨w.heap.size, 3, none⟩ (.int .i64 v)) := ⟨_, rfl⟩
          rw [← hWD] at HQ HBD ⊢
          clear hWD kz
          have kf := box4_cells HQ.out
          exact bodyPost_ret (v := .tuple #[.agg #[.int .i64 (bt s 0), .int .i64 n, .int .i64 d, .int .i64 v], .bool true]) (by simp [results, Tryz.results51, go_sem, kf]) rfl ⟨bt s 0, n, d, v, true, rfl, HY.out, HBD.out⟩
        · have HR : Hid (RdOr t 0 0 0 0 false) := HOUT.out (fun h => he h.2.2)
          have hbq : (T.toList == t.toList) = false := beq_eq_false_iff_ne.mpr fun h => he (ba_eq (by rw [← ByteArray.toList_eq, ← ByteArray.toList_eq]; exact h))
          clear he
          go_wp2
          have HQ : Hid (((((w9.setCell ⟨w.heap.size, 0, none⟩ (.int .i64 0)).setCell ⟨w.heap.size, 1, none⟩ (.int .i64 0)).setCell ⟨w.heap.size, 2, none⟩ (.int .i64 0)).setCell ⟨w.heap.size, 3, none⟩ (.int .i64 0)).heap[w.heap.size]? = some (oB 0 0 0 0)) := set_row5 (set_row5 (set_row5 (set_row5 HZ9.out 0 _) 1 _) 2 _) 3 _
          have HBD : Hid (Below w.heap.size w ((((w9.setCell ⟨w.heap.size, 0, none⟩ (.int .i64 0)).setCell ⟨w.heap.size, 1, none⟩ (.int .i64 0)).setCell ⟨w.heap.size, 2, none⟩ (.int .i64 0)).setCell ⟨w.heap.size, 3, none⟩ (.int .i64 0))) := (((HB9.out.setCell (Nat.le_refl _) _).setCell (Nat.le_refl _) _).setCell (Nat.le_refl _) _).setCell (Nat.le_refl _) _
          obtain ⟨WD, hWD⟩ : ∃ W, W = ((((w9.setCell ⟨w.heap.size, 0, none⟩ (.int .i64 0)).setCell ⟨w.heap.size, 1, none⟩ (.int .i64 0)).setCell ⟨w.heap.size, 2, none⟩ (.int .i64 0)).setCell ⟨w.heap.size, 3, none⟩ (.int .i64 0)) := ⟨_, rfl⟩
          rw [← hWD] at HQ HBD ⊢
          clear hWD kz
          have kf := box4_cells HQ.out
          exact bodyPost_ret (v := .tuple #[.agg #[.int .i64 0, .int .i64 0, .int .i64 0, .int .i64 0], .bool false]) (by simp [results, Tryz.results51, go_sem, kf]) rfl ⟨0, 0, 0, 0, false, rfl, HR.out, HBD.out⟩
      · have HR : Hid (RdOr t 0 0 0 0 false) := HOUT.out (fun h => by cases h.1)
        go_wp2
        have HQ : Hid (((((w9.setCell ⟨w.heap.size, 0, none⟩ (.int .i64 0)).setCell ⟨w.heap.size, 1, none⟩ (.int .i64 0)).setCell ⟨w.heap.size, 2, none⟩ (.int .i64 0)).setCell ⟨w.heap.size, 3, none⟩ (.int .i64 0)).heap[w.heap.size]? = some (oB 0 0 0 0)) := set_row5 (set_row5 (set_row5 (set_row5 HZ9.out 0 _) 1 _) 2 _) 3 _
        have HBD : Hid (Below w.heap.size w ((((w9.setCell ⟨w.heap.size, 0, none⟩ (.int .i64 0)).setCell ⟨w.heap.size, 1, none⟩ (.int .i64 0)).setCell ⟨w.heap.size, 2, none⟩ (.int .i64 0)).setCell ⟨w.heap.size, 3, none⟩ (.int .i64 0))) := (((HB9.out.setCell (Nat.le_refl _) _).setCell (Nat.le_refl _) _).setCell (Nat.le_refl _) _).setCell (Nat.le_refl _) _
        obtain ⟨WD, hWD⟩ : ∃ W, W = ((((w9.setCell ⟨w.heap.size, 0, none⟩ (.int .i64 0)).setCell ⟨w.heap.size, 1, none⟩ (.int .i64 0)).setCell ⟨w.heap.size, 2, none⟩ (.int .i64 0)).setCell ⟨w.heap.size, 3, none⟩ (.int .i64 0)) := ⟨_, rfl⟩
        rw [← hWD] at HQ HBD ⊢
        clear hWD kz
        have kf := box4_cells HQ.out
        exact bodyPost_ret (v := .tuple #[.agg #[.int .i64 0, .int .i64 0, .int .i64 0, .int .i64 0], .bool false]) (by simp [results, Tryz.results51, go_sem, kf]) rfl ⟨0, 0, 0, 0, false, rfl, HR.out, HBD.out⟩
    · have HR : Hid (RdOr t 0 0 0 0 false) := HOUT.out (fun h => hR h.2.1)
      go_wp2_with fail
      refine (textNo (bt s 0) n d v hR _).mono ?_
      rintro e w9 ⟨rfl, hb9⟩
      have HC9 : Hid (CurX w9 C s a3 b3) := row_on HC7.out hb9
      have HZ9 : Hid (w9.heap[w.heap.size]? = some (oB 0 0 0 0)) := row_on HZ7.out hb9
      have HB9 := bq HB7 hb9
      clear hb9 HC7 HQ7 HZ7 HB7 kq hR
      have kc := row3_cells HC9.out
      have kz := box4_cells HZ9.out
      cases b3
      · go_wp2
        have HQ : Hid (((((w9.setCell ⟨w.heap.size, 0, none⟩ (.int .i64 0)).setCell ⟨w.heap.size, 1, none⟩ (.int .i64 0)).setCell ⟨w.heap.size, 2, none⟩ (.int .i64 0)).setCell ⟨w.heap.size, 3, none⟩ (.int .i64 0)).heap[w.heap.size]? = some (oB 0 0 0 0)) := set_row5 (set_row5 (set_row5 (set_row5 HZ9.out 0 _) 1 _) 2 _) 3 _
        have HBD : Hid (Below w.heap.size w ((((w9.setCell ⟨w.heap.size, 0, none⟩ (.int .i64 0)).setCell ⟨w.heap.size, 1, none⟩ (.int .i64 0)).setCell ⟨w.heap.size, 2, none⟩ (.int .i64 0)).setCell ⟨w.heap.size, 3, none⟩ (.int .i64 0))) := (((HB9.out.setCell (Nat.le_refl _) _).setCell (Nat.le_refl _) _).setCell (Nat.le_refl _) _).setCell (Nat.le_refl _) _
        obtain ⟨WD, hWD⟩ : ∃ W, W = ((((w9.setCell ⟨w.heap.size, 0, none⟩ (.int .i64 0)).setCell ⟨w.heap.size, 1, none⟩ (.int .i64 0)).setCell ⟨w.heap.size, 2, none⟩ (.int .i64 0)).setCell ⟨w.heap.size, 3, none⟩ (.int .i64 0)) := ⟨_, rfl⟩
        rw [← hWD] at HQ HBD ⊢
        clear hWD kz
        have kf := box4_cells HQ.out
        exact bodyPost_ret (v := .tuple #[.agg #[.int .i64 0, .int .i64 0, .int .i64 0, .int .i64 0], .bool false]) (by simp [results, Tryz.results51, go_sem, kf]) rfl ⟨0, 0, 0, 0, false, rfl, HR.out, HBD.out⟩
      · go_wp2
        have HQ : Hid (((((w9.setCell ⟨w.heap.size, 0, none⟩ (.int .i64 0)).setCell ⟨w.heap.size, 1, none⟩ (.int .i64 0)).setCell ⟨w.heap.size, 2, none⟩ (.int .i64 0)).setCell ⟨w.heap.size, 3, none⟩ (.int .i64 0)).heap[w.heap.size]? = some (oB 0 0 0 0)) := set_row5 (set_row5 (set_row5 (set_row5 HZ9.out 0 _) 1 _) 2 _) 3 _
        have HBD : Hid (Below w.heap.size w ((((w9.setCell ⟨w.heap.size, 0, none⟩ (.int .i64 0)).setCell ⟨w.heap.size, 1, none⟩ (.int .i64 0)).setCell ⟨w.heap.size, 2, none⟩ (.int .i64 0)).setCell ⟨w.heap.size, 3, none⟩ (.int .i64 0))) := (((HB9.out.setCell (Nat.le_refl _) _).setCell (Nat.le_refl _) _).setCell (Nat.le_refl _) _).setCell (Nat.le_refl _) _
        obtain ⟨WD, hWD⟩ : ∃ W, W = ((((w9.setCell ⟨w.heap.size, 0, none⟩ (.int .i64 0)).setCell ⟨w.heap.size, 1, none⟩ (.int .i64 0)).setCell ⟨w.heap.size, 2, none⟩ (.int .i64 0)).setCell ⟨w.heap.size, 3, none⟩ (.int .i64 0)) := ⟨_, rfl⟩
        rw [← hWD] at HQ HBD ⊢
        clear hWD kz
        have kf := box4_cells HQ.out
        exact bodyPost_ret (v := .tuple #[.agg #[.int .i64 0, .int .i64 0, .int .i64 0, .int .i64 0], .bool false]) (by simp [results, Tryz.results51, go_sem, kf]) rfl ⟨0, 0, 0, 0, false, rfl, HR.out, HBD.out⟩
end Go.Proofs.YtfhhnelffldggaaGreatDoor
