/-
  Rows of a device: stores into parts of it; ticks that the call owns.
-/
import Derived.Test.YtfhhnelffldggaaGreatDoorUqAV
import Derived.Test.YtfhhnelffldggaaGreatDoorUqAW
import Derived.Deep.MidRow
import Derived.Test.YtfhhnelffldggaaGreatDoorUqAI
import Derived.Test.YtfhhnelffldggaaGreatDoorUqAC
import Derived.Test.YtfhhnelffldggaaGreatDoorUqAT
set_option maxRecDepth 100000
set_option maxHeartbeats 16000000
namespace Go.Proofs.YtfhhnelffldggaaGreatDoor
open Go.RowKit Go.PlainAid
set_option linter.unusedVariables false
set_option linter.unusedSimpArgs false
def OwnU (w : World) (B g n c : Nat) (l : List Tk3) : Prop := w.ownsRow B 64 3 (.slice (some ⟨g, 0, none⟩) n c) n (tkV l)
theorem OwnU.own {w : World} {B g n c : Nat} {l : List Tk3} (h : OwnU w B g n c l) : OwnY w B (.slice (some ⟨g, 0, none⟩) n c) n l := h
theorem OwnU.len {w : World} {B g n c : Nat} {l : List Tk3} (h : OwnU w B g n c l) : l.length = n := h.own.len
theorem OwnU.ge {w : World} {B g n c : Nat} {l : List Tk3} (h : OwnU w B g n c l) : B ≤ g := own_ge h g rfl
theorem OwnU.lt {w : World} {B g n c : Nat} {l : List Tk3} (h : OwnU w B g n c l) : g < w.heap.size := own_lt h g rfl
theorem OwnU.on {w w' : World} {B g n c : Nat} {l : List Tk3} (h : OwnU w B g n c l) (hb : Below w.heap.size w w') : OwnU w' B g n c l := own_keep h hb (own_lt h)
theorem OwnU.mono {w : World} {B C g n c : Nat} {l : List Tk3} (h : OwnU w B g n c l) (hC : C ≤ B) : OwnU w C g n c l := own_mono h hC
theorem OwnU.rd {w : World} {B g n c : Nat} {l : List Tk3} (h : OwnU w B g n c l) : RdY w (some ⟨g, 0, none⟩) l := h.own.rd
theorem OwnU.drew {w : World} {B g n c : Nat} {l : List Tk3} (h : OwnU w B g n c l) : OwnU w.drew B g n c l := h
theorem OwnU.same {w w' : World} {B g n c : Nat} {l : List Tk3} (h : OwnU w B g n c l) (hg : w'.heap[g]? = w.heap[g]?) : OwnU w' B g n c l := by
 refine ⟨h.1, ?_⟩
 rcases h.2 with h2 | ⟨g', cap, cur, e, h3, h4, h5⟩
 · exact .inl h2
 ·
  cases e
  exact .inr ⟨_, _, _, rfl, h3, hg.trans h4, h5⟩
theorem OwnU.put {w w' : World} {B g n c k : Nat} {l : List Tk3} {o : Obj} (h : OwnU w B g n c l) (hp : PutM w w' k o) (hne : g ≠ k) : OwnU w' B g n c l := h.same (hp.2.1 g hne)
theorem ownU_empty (w : World) (B : Nat) (hB : B ≤ w.heap.size) : OwnU (w.alloc (.cells #[] 64)) B w.heap.size 0 0 [] :=
 ⟨rfl, Or.inr ⟨_, 0, #[], rfl, hB, by show (w.heap.push _)[w.heap.size]? = _; simp, Nat.le_refl _, by decide, rfl, rfl⟩⟩
theorem RdY.cells {w : World} {ad : Addr} {l : List Tk3} (h : RdY w (some ad) l) : ∀ j u, (tkV l)[j]? = some u → w.cell? (ad.add j) = some u := by
 intro j v hv
 have hj : j < l.length * 3 := by
  rcases Nat.lt_or_ge j (l.length * 3) with h' | h'
  · exact h'
  · rw [List.getElem?_eq_none (by rw [tkV_len]; exact h')] at hv; cases hv
 obtain ⟨g, off, ha, hc⟩ := h (by omega)
 cases ha
 obtain ⟨a0, a1, a2⟩ := tkV_at l (j / 3) (by omega)
 obtain ⟨b0, b1, b2⟩ := hc (j / 3) (by omega)
 rw [add_at]
 have e4 : j % 3 = 0 ∨ j % 3 = 1 ∨ j % 3 = 2 := by omega
 rcases e4 with e | e | e
 ·
  rw [show j / 3 * 3 = j by omega, hv] at a0
  rw [show off + j / 3 * 3 = off + j by omega] at b0
  rw [b0]; exact a0.symm
 ·
  rw [show j / 3 * 3 + 1 = j by omega, hv] at a1
  rw [show off + j / 3 * 3 + 1 = off + j by omega] at b1
  rw [b1]; exact a1.symm
 ·
  rw [show j / 3 * 3 + 2 = j by omega, hv] at a2
  rw [show off + j / 3 * 3 + 2 = off + j by omega] at b2
  rw [b2]; exact a2.symm
theorem run_appY (W : World) (ty : TypeId) (B g n c : Nat) (l : List Tk3) (q : Option Addr) (m cx : Nat) (l' : List Tk3) (hown : OwnU W B g n c l) (hl : l'.length = m) (hq : q = none → m = 0 ∧ cx = 0) (hr : RdY W q l') (hn : n + m ≤ 3000000) (hB : B ≤ W.heap.size) :
  ∃ g' c' w', (Builtin.append_ #[35, 35] ty #[.slice (some ⟨g, 0, none⟩) n c, .slice q m cx]).run Tryz.prog W = .ok (.slice (some ⟨g', 0, none⟩) (n + m) c') w' ∧ OwnU w' B g' (n + m) c' (l ++ l') ∧ W.grownBy w' (some g) := by
 obtain ⟨i0, hi, hz0, hz1, hz2⟩ := info_parts infoY
 cases q with
 | none =>
  obtain ⟨rfl, rfl⟩ := hq rfl
  refine ⟨g, c, W, ?_, ?_, World.grownBy.refl _ _⟩
  · exact run_append_owned_none (P := Tryz.prog) (w := W) B 35 ty 64 i0 3 Tryz.underlying35 hi _ n _ hown
  · rw [List.length_eq_zero_iff.1 hl, List.append_nil]; exact hown
 | some ad =>
  obtain ⟨v', w', hrun, h2, h3, h4, h5⟩ := run_append_own_at (P := Tryz.prog) W B 35 ty 64 i0 (.agg #[.int .i64 0, .int .i64 0, .int .i64 0]) 3 24 Tryz.underlying35 hi hz0 hz1 hz2 rfl (by decide) _ n _ hown ad m cx (tkV l') (by rw [tkV_len, hl]) hr.cells (tkV_one l') (by unfold maxLen; omega) (by omega) hB
  rcases h2.2 with ⟨hv, _⟩ | ⟨g', cap, cur, rfl, _⟩
  · have := h4.1 hv; simp at this
  ·
   refine ⟨g', cap, w', hrun, ?_, h3⟩
   unfold OwnU
   rw [tkV_append]
   exact h2
theorem wpY {o : Oper} {a : Act} {K : Act → World → Prop} {Q : Exit → Act → World → Prop} (W : World) (s x : Operand)
  (ho : o.op = .call { callee := .builtin .append, args := #[s, x], argTypes := #[35, 35] }) (B g n c : Nat) (l : List Tk3) (q : Option Addr) (m cx : Nat) (l' : List Tk3)
  (hs : a.eval s = .slice (some ⟨g, 0, none⟩) n c) (hx : a.eval x = .slice q m cx) (hown : OwnU W B g n c l) (hl : l'.length = m) (hq : q = none → m = 0 ∧ cx = 0) (hr : RdY W q l') (hn : n + m ≤ 3000000) (hB : B ≤ W.heap.size)
  (h : ∀ g' c' w', OwnU w' B g' (n + m) c' (l ++ l') → W.grownBy w' (some g) → K (a.put o.dst (.slice (some ⟨g', 0, none⟩) (n + m) c')) w') : o.wp Tryz.prog a W K Q := by
 obtain ⟨g', c', w', hrun, h2, h3⟩ := run_appY W o.type B g n c l q m cx l' hown hl hq hr hn hB
 unfold Oper.wp execOp
 simp only [ho, resolve, invoke, builtin, Sem.run_bind, Sem.run_pure, Result.andThen_ok, List.map_toArray, List.map_cons, List.map_nil, hs, hx, hrun]
 exact h g' c' w' h2 h3
theorem listY {ops : Array Oper} {rest : List Oper} {o : Oper} {a : Act} {Q : Exit → Act → World → Prop} {W : World} (hgd : o.guard = none) (s x : Operand)
  (ho : o.op = .call { callee := .builtin .append, args := #[s, x], argTypes := #[35, 35] }) (B g n c : Nat) (l : List Tk3) (q : Option Addr) (m cx : Nat) (l' : List Tk3)
  (hs : a.eval s = .slice (some ⟨g, 0, none⟩) n c) (hx : a.eval x = .slice q m cx) (hown : OwnU W B g n c l) (hl : l'.length = m) (hq : q = none → m = 0 ∧ cx = 0) (hr : RdY W q l') (hn : n + m ≤ 3000000) (hB : B ≤ W.heap.size)
  (h : ∀ g' c' w', OwnU w' B g' (n + m) c' (l ++ l') → W.grownBy w' (some g) → wpList Tryz.prog ops Q rest (a.put o.dst (.slice (some ⟨g', 0, none⟩) (n + m) c')) w') : wpList Tryz.prog ops Q (o :: rest) a W :=
 wpList_plain hgd fun _ hK => wpY W s x ho B g n c l q m cx l' hs hx hown hl hq hr hn hB fun g' c' w' h2 h3 => hK _ _ (h g' c' w' h2 h3)
theorem one_rowY (w : World) (x y z : Int) : RowY (w.alloc (.cells #[.int .i64 x, .int .i64 y, .int .i64 z] 64)) w.heap.size [(x, y, z)] := heap_new w _
def OwnI3 (w : World) (B g n c : Nat) (l : List In3) : Prop := w.ownsRow B 46 3 (.slice (some ⟨g, 0, none⟩) n c) n (inV l)
theorem OwnI3.own {w : World} {B g n c : Nat} {l : List In3} (h : OwnI3 w B g n c l) : OwnZ w B (.slice (some ⟨g, 0, none⟩) n c) n l := h
theorem OwnI3.len {w : World} {B g n c : Nat} {l : List In3} (h : OwnI3 w B g n c l) : l.length = n := h.own.len
theorem OwnI3.ge {w : World} {B g n c : Nat} {l : List In3} (h : OwnI3 w B g n c l) : B ≤ g := own_ge h g rfl
theorem OwnI3.lt {w : World} {B g n c : Nat} {l : List In3} (h : OwnI3 w B g n c l) : g < w.heap.size := own_lt h g rfl
theorem OwnI3.on {w w' : World} {B g n c : Nat} {l : List In3} (h : OwnI3 w B g n c l) (hb : Below w.heap.size w w') : OwnI3 w' B g n c l := own_keep h hb (own_lt h)
theorem OwnI3.mono {w : World} {B C g n c : Nat} {l : List In3} (h : OwnI3 w B g n c l) (hC : C ≤ B) : OwnI3 w C g n c l := own_mono h hC
theorem OwnI3.rd {w : World} {B g n c : Nat} {l : List In3} (h : OwnI3 w B g n c l) : RdZ w (some ⟨g, 0, none⟩) l := h.own.rd
theorem OwnI3.drew {w : World} {B g n c : Nat} {l : List In3} (h : OwnI3 w B g n c l) : OwnI3 w.drew B g n c l := h
theorem OwnI3.same {w w' : World} {B g n c : Nat} {l : List In3} (h : OwnI3 w B g n c l) (hg : w'.heap[g]? = w.heap[g]?) : OwnI3 w' B g n c l := by
 refine ⟨h.1, ?_⟩
 rcases h.2 with h2 | ⟨g', cap, cur, e, h3, h4, h5⟩
 · exact .inl h2
 ·
  cases e
  exact .inr ⟨_, _, _, rfl, h3, hg.trans h4, h5⟩
theorem OwnI3.put {w w' : World} {B g n c k : Nat} {l : List In3} {o : Obj} (h : OwnI3 w B g n c l) (hp : PutM w w' k o) (hne : g ≠ k) : OwnI3 w' B g n c l := h.same (hp.2.1 g hne)
theorem ownI3_empty (w : World) (B : Nat) (hB : B ≤ w.heap.size) : OwnI3 (w.alloc (.cells #[] 46)) B w.heap.size 0 0 [] :=
 ⟨rfl, Or.inr ⟨_, 0, #[], rfl, hB, by show (w.heap.push _)[w.heap.size]? = _; simp, Nat.le_refl _, by decide, rfl, rfl⟩⟩
theorem RdZ.cells {w : World} {ad : Addr} {l : List In3} (h : RdZ w (some ad) l) : ∀ j u, (inV l)[j]? = some u → w.cell? (ad.add j) = some u := by
 intro j v hv
 have hj : j < l.length * 3 := by
  rcases Nat.lt_or_ge j (l.length * 3) with h' | h'
  · exact h'
  · rw [List.getElem?_eq_none (by rw [inV_len]; exact h')] at hv; cases hv
 obtain ⟨g, off, ha, hc⟩ := h (by omega)
 cases ha
 obtain ⟨a0, a1, a2⟩ := inV_at l (j / 3) (by omega)
 obtain ⟨b0, b1, b2⟩ := hc (j / 3) (by omega)
 rw [add_at]
 have e4 : j % 3 = 0 ∨ j % 3 = 1 ∨ j % 3 = 2 := by omega
 rcases e4 with e | e | e
 ·
  rw [show j / 3 * 3 = j by omega, hv] at a0
  rw [show off + j / 3 * 3 = off + j by omega] at b0
  rw [b0]; exact a0.symm
 ·
  rw [show j / 3 * 3 + 1 = j by omega, hv] at a1
  rw [show off + j / 3 * 3 + 1 = off + j by omega] at b1
  rw [b1]; exact a1.symm
 ·
  rw [show j / 3 * 3 + 2 = j by omega, hv] at a2
  rw [show off + j / 3 * 3 + 2 = off + j by omega] at b2
  rw [b2]; exact a2.symm
theorem run_appZ (W : World) (ty : TypeId) (B g n c : Nat) (l : List In3) (q : Option Addr) (m cx : Nat) (l' : List In3) (hown : OwnI3 W B g n c l) (hl : l'.length = m) (hq : q = none → m = 0 ∧ cx = 0) (hr : RdZ W q l') (hn : n + m ≤ 3000000) (hB : B ≤ W.heap.size) :
  ∃ g' c' w', (Builtin.append_ #[24, 24] ty #[.slice (some ⟨g, 0, none⟩) n c, .slice q m cx]).run Tryz.prog W = .ok (.slice (some ⟨g', 0, none⟩) (n + m) c') w' ∧ OwnI3 w' B g' (n + m) c' (l ++ l') ∧ W.grownBy w' (some g) := by
 obtain ⟨i0, hi, hz0, hz1, hz2⟩ := info_parts infoZ
 cases q with
 | none =>
  obtain ⟨rfl, rfl⟩ := hq rfl
  refine ⟨g, c, W, ?_, ?_, World.grownBy.refl _ _⟩
  · exact run_append_owned_none (P := Tryz.prog) (w := W) B 24 ty 46 i0 3 Tryz.underlying24 hi _ n _ hown
  · rw [List.length_eq_zero_iff.1 hl, List.append_nil]; exact hown
 | some ad =>
  obtain ⟨v', w', hrun, h2, h3, h4, h5⟩ := run_append_own_at (P := Tryz.prog) W B 24 ty 46 i0 (.agg #[.int .i64 0, .string ⟨#[]⟩, .string ⟨#[]⟩]) 3 40 Tryz.underlying24 hi hz0 hz1 hz2 rfl (by decide) _ n _ hown ad m cx (inV l') (by rw [inV_len, hl]) hr.cells (inV_one l') (by unfold maxLen; omega) (by omega) hB
  rcases h2.2 with ⟨hv, _⟩ | ⟨g', cap, cur, rfl, _⟩
  · have := h4.1 hv; simp at this
  ·
   refine ⟨g', cap, w', hrun, ?_, h3⟩
   unfold OwnI3
   rw [inV_append]
   exact h2
theorem wpZ {o : Oper} {a : Act} {K : Act → World → Prop} {Q : Exit → Act → World → Prop} (W : World) (s x : Operand)
  (ho : o.op = .call { callee := .builtin .append, args := #[s, x], argTypes := #[24, 24] }) (B g n c : Nat) (l : List In3) (q : Option Addr) (m cx : Nat) (l' : List In3)
  (hs : a.eval s = .slice (some ⟨g, 0, none⟩) n c) (hx : a.eval x = .slice q m cx) (hown : OwnI3 W B g n c l) (hl : l'.length = m) (hq : q = none → m = 0 ∧ cx = 0) (hr : RdZ W q l') (hn : n + m ≤ 3000000) (hB : B ≤ W.heap.size)
  (h : ∀ g' c' w', OwnI3 w' B g' (n + m) c' (l ++ l') → W.grownBy w' (some g) → K (a.put o.dst (.slice (some ⟨g', 0, none⟩) (n + m) c')) w') : o.wp Tryz.prog a W K Q := by
 obtain ⟨g', c', w', hrun, h2, h3⟩ := run_appZ W o.type B g n c l q m cx l' hown hl hq hr hn hB
 unfold Oper.wp execOp
 simp only [ho, resolve, invoke, builtin, Sem.run_bind, Sem.run_pure, Result.andThen_ok, List.map_toArray, List.map_cons, List.map_nil, hs, hx, hrun]
 exact h g' c' w' h2 h3
theorem listZ {ops : Array Oper} {rest : List Oper} {o : Oper} {a : Act} {Q : Exit → Act → World → Prop} {W : World} (hgd : o.guard = none) (s x : Operand)
  (ho : o.op = .call { callee := .builtin .append, args := #[s, x], argTypes := #[24, 24] }) (B g n c : Nat) (l : List In3) (q : Option Addr) (m cx : Nat) (l' : List In3)
  (hs : a.eval s = .slice (some ⟨g, 0, none⟩) n c) (hx : a.eval x = .slice q m cx) (hown : OwnI3 W B g n c l) (hl : l'.length = m) (hq : q = none → m = 0 ∧ cx = 0) (hr : RdZ W q l') (hn : n + m ≤ 3000000) (hB : B ≤ W.heap.size)
  (h : ∀ g' c' w', OwnI3 w' B g' (n + m) c' (l ++ l') → W.grownBy w' (some g) → wpList Tryz.prog ops Q rest (a.put o.dst (.slice (some ⟨g', 0, none⟩) (n + m) c')) w') : wpList Tryz.prog ops Q (o :: rest) a W :=
 wpList_plain hgd fun _ hK => wpZ W s x ho B g n c l q m cx l' hs hx hown hl hq hr hn hB fun g' c' w' h2 h3 => hK _ _ (h g' c' w' h2 h3)
theorem one_rowZ (w : World) (x : Int) (y z : ByteArray) : RowZ (w.alloc (.cells #[.int .i64 x, .string y, .string z] 46)) w.heap.size [(x, y, z)] := heap_new w _
theorem dcopyS (p : Pm) (a : Option Addr) (n cap : Nat) (al : Int) (m : Mn) (ta : Option Addr) (tn tc : Nat) (rf : Int) (l : List Int) (t : List Tk3) (hl : l.length = n) (hn : n ≤ 1048576) (ha : a = none → n = 0 ∧ cap = 0) (ht : t.length = tn) (htn : tn ≤ 1048576) (hta : ta = none → tn = 0 ∧ tc = 0) (w : World) (hr : G.Rd w a l) (hrt : RdY w ta t) :
  Calls Tryz.prog 49 #[.agg #[.int .i64 p.s, .int .i64 p.n, .int .i64 p.d, .int .i64 p.r, .int .i64 p.l, .int .i64 p.b, .int .i64 p.g, .int .i64 p.k, .slice a n cap, .int .i64 al, .int .i64 m.a, .bool m.b, .int .i64 m.n, .int .i64 m.d, .string ⟨m.s.toArray⟩, .slice ta tn tc, .int .i64 rf]] w fun e w' => ∃ g c gt ct, e = .returned (.agg #[.int .i64 p.s, .int .i64 p.n, .int .i64 p.d, .int .i64 p.r, .int .i64 p.l, .int .i64 p.b, .int .i64 p.g, .int .i64 p.k, .slice (some ⟨g, 0, none⟩) n c, .int .i64 al, .int .i64 m.a, .bool m.b, .int .i64 m.n, .int .i64 m.d, .string ⟨m.s.toArray⟩, .slice (some ⟨gt, 0, none⟩) tn ct, .int .i64 rf]) ∧ G.OwnN w' w.heap.size g n c l ∧ OwnU w' w.heap.size gt tn ct t ∧ Below w.heap.size w w' := by
 have HL := hq hl
 have HT := hq ht
 have HA := hq ha
 have HTA := hq hta
 have HRL := hq hr
 have HRT := hq hrt
 have h0 := heap_new w (dO p (.slice a n cap) al m (.slice ta tn tc) rf)
 have h1 := heap_new (w.alloc (dO p (.slice a n cap) al m (.slice ta tn tc) rf)) (dZ)
 rw [show (w.alloc (dO p (.slice a n cap) al m (.slice ta tn tc) rf)).heap.size = w.heap.size + 1 by simp] at h1
 have HB0 : Hid (Below w.heap.size w ((w.alloc (dO p (.slice a n cap) al m (.slice ta tn tc) rf)).alloc (dZ))) := bel_on (Nat.le_refl _) (alM _ _) (alM _ _)
 have HX0 : Hid (((w.alloc (dO p (.slice a n cap) al m (.slice ta tn tc) rf)).alloc (dZ)).heap[w.heap.size]? = some (dO p (.slice a n cap) al m (.slice ta tn tc) rf)) := row_on h0 (alM _ _)
 have HZ0 := hq h1
 have HR0 : Hid (G.Rd ((w.alloc (dO p (.slice a n cap) al m (.slice ta tn tc) rf)).alloc (dZ)) a l) := hr.keep HB0.out (Nat.le_refl _)
 have c0 := box17_cells HX0.out
 clear h0 h1 hl ht ha hta hr hrt
 go_enter Tryz.func49, Tryz.ntmps49
 go_wp2_with fail
 refine (G.copyGS a al l n cap HL.out hn HA.out _ HR0.out).mono ?_
 rintro e w1 ⟨g1, c1, rfl, how, hb⟩
 have HG1 : Hid (G.OwnN w1 w.heap.size g1 n c1 l) := G.own_mono how (by simp; omega)
 have HB1 := bq HB0 hb
 have HX1 := rq HX0 hb
 have HZ1 := rq HZ0 hb
 have hg1 : w.heap.size + 2 ≤ g1 := by have := G.own_ge how g1 rfl; simp at this; omega
 clear how hb HB0 HX0 HZ0 HR0 c0
 go_wp2_with (refine listGuard rfl rfl _ _ _ rfl w.heap.size (.slice (some ⟨g1, 0, none⟩) n c1) (.int .i64 al) rfl rfl HX1.out (by kernel_rfl) (by kernel_rfl) ?_)
 intro w2 hput
 have HB2 := hq (hput.2.2.2 _ _ (Nat.le_refl _) HB1.out)
 have HX2 := hq hput.1
 have HZ2 := hq (hput.far HZ1.out (by omega))
 have HG2 : Hid (G.OwnN w2 w.heap.size g1 n c1 l) := own_putM HG1.out hput (fun g e => by have e' := Option.some.inj e; dsimp only at e'; omega)
 clear hput HB1 HX1 HZ1 HG1
 have HB3 : Hid (Below w.heap.size w (w2.alloc (.cells #[] 64))) := bel_on (Nat.le_refl _) HB2.out (alM _ _)
 have HX3 : Hid ((w2.alloc (.cells #[] 64)).heap[w.heap.size]? = some (dO p (.slice (some ⟨g1, 0, none⟩) n c1) al m (.slice ta tn tc) rf)) := row_on HX2.out (alM _ _)
 have HZ3 : Hid ((w2.alloc (.cells #[] 64)).heap[w.heap.size + 1]? = some (dZ)) := row_on HZ2.out (alM _ _)
 have HG3 : Hid (G.OwnN (w2.alloc (.cells #[] 64)) w.heap.size g1 n c1 l) := G.own_keep HG2.out (alM _ _) (G.own_lt HG2.out)
 have HU3 : Hid (OwnU (w2.alloc (.cells #[] 64)) (w.heap.size + 2) w2.heap.size 0 0 []) := ownU_empty w2 _ (by have := row_lt HZ2.out; omega)
 have HY3 : Hid (RdY (w2.alloc (.cells #[] 64)) ta t) := HRT.out.keep HB3.out (Nat.le_refl _)
 have hz2 := row_lt HZ2.out
 have hg2 := G.own_lt HG2.out g1 rfl
 have hs3 := HB3.out.size
 have c3 := box17_cells HX3.out
 clear HB2 HX2 HZ2 HG2
 go_upto_region 2 with fail
 go_wp2_with (refine listY rfl (.tmp 7) (.tmp 9) rfl (w.heap.size + 2) w2.heap.size 0 0 [] ta tn tc t rfl rfl HU3.out HT.out HTA.out HY3.out (by omega) (by have := row_lt HZ3.out; omega) ?_)
 intro g4 c4 w4 hown4 hgr4
 have HU4 : Hid (OwnU w4 (w.heap.size + 2) g4 tn c4 t) := by show OwnU _ _ _ _ _ _; simpa using hown4
 have HB4 : Hid (Below w.heap.size w w4) := HB3.out.grown hgr4 HB3.out.size (fun m hm => by have := Option.some.inj hm; omega)
 have HX4 : Hid (w4.heap[w.heap.size]? = some (dO p (.slice (some ⟨g1, 0, none⟩) n c1) al m (.slice ta tn tc) rf)) := row_grown HX3.out hgr4 (fun e => by have := Option.some.inj e; omega)
 have HZ4 : Hid (w4.heap[w.heap.size + 1]? = some (dZ)) := row_grown HZ3.out hgr4 (fun e => by have := Option.some.inj e; omega)
 have HG4 : Hid (G.OwnN w4 w.heap.size g1 n c1 l) := own_grownM HG3.out hgr4 (fun g e e2 => by have e' := Option.some.inj e; have e3 := Option.some.inj e2; dsimp only at e'; omega)
 have hg4 : w.heap.size + 2 ≤ g4 := HU4.out.ge
 clear hown4 hgr4 HB3 HX3 HZ3 HG3 HU3 HY3 c3
 go_wp2_with (refine listStoreU rfl rfl _ _ _ rfl rfl w.heap.size 15 tn c4 (some ⟨g4, 0, none⟩) rfl rfl HX4.out (by simp) ?_)
 intro w5 hput
 have HB5 := hq (hput.2.2.2 _ _ (Nat.le_refl _) HB4.out)
 have HX5 := hq hput.1
 have HZ5 := hq (hput.far HZ4.out (by omega))
 have HG5 : Hid (G.OwnN w5 w.heap.size g1 n c1 l) := own_putM HG4.out hput (fun g e => by have e' := Option.some.inj e; dsimp only at e'; omega)
 have HU5 : Hid (OwnU w5 (w.heap.size + 2) g4 tn c4 t) := own_putM HU4.out hput (fun g e => by have e' := Option.some.inj e; dsimp only at e'; omega)
 clear hput HB4 HX4 HZ4 HG4 HU4
 go_upto_region 3 with fail
 go_wp2_with (first | refine wpList_load_row rfl _ _ rfl w.heap.size rfl _ _ _ _ HX5.out Tryz.underlying37 rfl (by kernel_rfl) ?_ | refine listStoreD rfl rfl _ _ _ rfl rfl (w.heap.size + 1) (dR p (.slice (some ⟨g1, 0, none⟩) n c1) al m (.slice (some ⟨g4, 0, none⟩) tn c4) rf) rfl rfl rfl (by kernel_rfl) HZ5.out rfl ?_)
 intro w6 hput
 have HB6 := hq (hput.2.2.2 _ _ (Nat.le_succ _) HB5.out)
 have HG6 : Hid (G.OwnN w6 w.heap.size g1 n c1 l) := own_putM HG5.out hput (fun g e => by have e' := Option.some.inj e; dsimp only at e'; omega)
 have HU6 : Hid (OwnU w6 (w.heap.size + 2) g4 tn c4 t) := own_putM HU5.out hput (fun g e => by have e' := Option.some.inj e; dsimp only at e'; omega)
 have HZ6 := hq hput.1
 clear hput HB5 HX5 HZ5 HG5 HU5
 go_wp2
 refine bodyPost_ret (v := .agg #[.int .i64 p.s, .int .i64 p.n, .int .i64 p.d, .int .i64 p.r, .int .i64 p.l, .int .i64 p.b, .int .i64 p.g, .int .i64 p.k, .slice (some ⟨g1, 0, none⟩) n c1, .int .i64 al, .int .i64 m.a, .bool m.b, .int .i64 m.n, .int .i64 m.d, .string ⟨m.s.toArray⟩, .slice (some ⟨g4, 0, none⟩) tn c4, .int .i64 rf]) (results_cell_row Tryz.results49 _ _ (w.heap.size + 1) _ _ _ _ rfl HZ6.out Tryz.underlying37 rfl (by kernel_rfl)) rfl ⟨g1, c1, g4, c4, rfl, HG6.out, HU6.out.mono (by omega), HB6.out⟩
def plsF (t : List Tk3) : List Int := t.map (·.1)
structure TruS (D : Dv) : Prop where
 ok : D.ok
 past : D.l = (plsF D.t).reverse.take 9
 win : ∀ a b c, plsF D.t = a ++ b ++ c → b.length ≤ 10 → G.sumN b ≤ 30
 nn : ∀ x ∈ D.t, 0 ≤ x.1 ∧ x.1 ≤ 30
 stop : ∀ x ∈ D.t, x.2.1 ≠ 0 → x.1 = 0
 last : (D.t = [] ∧ D.al = 0) ∨ ∃ t n s, D.t = t ++ [(n, D.al, s)]
theorem tru_new : TruS newD := by
 refine ⟨newD_ok, rfl, ?_, ?_, ?_, .inl ⟨rfl, rfl⟩⟩
 ·
  intro a b c h _
  have hb : b = [] := by
   have h' : ([] : List Int) = a ++ b ++ c := h
   have h2 := congrArg List.length h'
   simp at h2
   exact List.length_eq_zero_iff.1 (by omega)
  subst hb
  show (0 : Int) ≤ 30
  decide
 ·
  intro x h
  cases h
 ·
  intro x h
  cases h
theorem num_room {D : Dv} (h : D.ok) (i : Ic) : 0 ≤ numD D i ∧ numD D i + G.sumN D.l ≤ 30 ∧ G.letG D.l (numD D i) = numD D i := by
 have h2 := G.letG_bd h.g (ordsD D i).p.wants
 have h3 := h.g.2.2.2
 have h1 : 0 ≤ numD D i ∧ numD D i + G.sumN D.l ≤ 30 := by
  unfold numD
  split
  · omega
  · omega
 refine ⟨h1.1, h1.2, ?_⟩
 unfold G.letG
 omega
theorem suffix_sum {s a b : List Int} (h : s = a ++ b) (hb : b.length ≤ 9) (hn : ∀ x ∈ s, 0 ≤ x ∧ x ≤ 30) : G.sumN b ≤ G.sumN (s.reverse.take 9) := by
 have e : s.reverse = b.reverse ++ a.reverse := by rw [h, List.reverse_append]
 have e2 : (s.reverse.take 9).take b.length = b.reverse := by
  rw [List.take_take, Nat.min_eq_left hb, e, List.take_left' (by rw [List.length_reverse])]
 rw [← G.sumN_rev b, ← e2]
 refine G.sumN_cut (fun i hi => ?_) _
 have hm := List.getElem_mem hi
 have hm2 := List.mem_of_mem_take hm
 exact hn _ (List.mem_reverse.1 hm2)
theorem tru_tick {D : Dv} (h : TruS D) {i : Ic} (hi : i.ok) : TruS (tickD D i) := by
 obtain ⟨n0, n1, n2⟩ := num_room h.ok i
 have hbd := num_bd h.ok i
 have et : (tickD D i).t = D.t ++ [(numD D i, alD D i, (pmpD D i).s)] := rfl
 have ef : plsF (tickD D i).t = plsF D.t ++ [numD D i] := by rw [et]; unfold plsF; rw [List.map_append]; rfl
 have hnn : ∀ x ∈ plsF D.t, 0 ≤ x ∧ x ≤ 30 := fun x hx => by
  obtain ⟨y, hy, rfl⟩ := List.mem_map.1 hx
  exact h.nn y hy
 refine ⟨(tick_ok h.ok hi).1, ?_, ?_, ?_, ?_, ?_⟩
 ·
  show G.passL true D.l (numD D i) = _
  rw [ef, List.reverse_append]
  unfold G.passL
  rw [if_pos rfl, n2]
  show _ = (numD D i :: (plsF D.t).reverse).take 9
  rw [List.take_succ_cons, List.take_succ_cons, h.past, List.take_take]
  rfl
 ·
  intro a b c hs hb
  rw [ef] at hs
  rcases List.eq_nil_or_concat c with rfl | ⟨c', z, rfl⟩
  ·
   rw [List.append_nil] at hs
   rcases List.eq_nil_or_concat b with rfl | ⟨b', z, rfl⟩
   ·
    show (0 : Int) ≤ 30
    decide
   ·
    rw [List.concat_eq_append, ← List.append_assoc] at hs
    obtain ⟨h1, h2⟩ := List.append_inj' hs rfl
    have hz : numD D i = z := by simpa using h2
    have hl : b'.length ≤ 9 := by rw [List.concat_eq_append, List.length_append] at hb; simp at hb; omega
    have h3 := suffix_sum h1 hl hnn
    rw [← h.past] at h3
    rw [List.concat_eq_append, G.sumN_app]
    show G.sumN b' + (z + 0) ≤ 30
    omega
  ·
   rw [List.concat_eq_append, ← List.append_assoc] at hs
   obtain ⟨h1, _⟩ := List.append_inj' hs rfl
   exact h.win a b c' h1 hb
 ·
  intro x hx
  rw [et] at hx
  rcases List.mem_append.1 hx with hx | hx
  · exact h.nn x hx
  · rw [List.mem_singleton.1 hx]; exact ⟨hbd.1, hbd.2.1⟩
 ·
  intro x hx ha
  rw [et] at hx
  rcases List.mem_append.1 hx with hx | hx
  · exact h.stop x hx ha
  ·
   rw [List.mem_singleton.1 hx] at ha ⊢
   show numD D i = 0
   unfold numD
   rw [if_neg ha]
 · exact .inr ⟨D.t, numD D i, (pmpD D i).s, rfl⟩
theorem tru_run : ∀ (l : List Ic) {D : Dv}, TruS D → (∀ i ∈ l, i.ok) → TruS (runD D l)
 | [], _, h, _ => h
 | i :: l, D, h, hl => by
  rw [runD_cons]
  exact tru_run l (tru_tick h (hl i (List.mem_cons_self ..))) (fun j hj => hl j (List.mem_cons_of_mem _ hj))
theorem tru_span {D : Dv} (h : TruS D) (i : Nat) : G.sumN (((plsF D.t).drop i).take 10) ≤ 30 := by
 refine h.win ((plsF D.t).take i) _ (((plsF D.t).drop i).drop 10) ?_ (List.length_take_le ..)
 rw [List.append_assoc, List.take_append_drop, List.take_append_drop]
theorem tru_al (D : Dv) {i : Ic} (hi : i.ok) : alD D i = if (ordsD D i).s = true then i.b else G.orI D.al i.b := by
 unfold alD
 by_cases h : (ordsD D i).s = true
 · rw [h, feel_seen hi.1, if_pos rfl]
 ·
  have h' : (ordsD D i).s = false := by simpa using h
  rw [h', feel_or hi.1, if_neg (by decide)]
theorem takeL_seen : ∀ (l : List Od4) (x : Tks), (takeL x l).s = (x.s || l.any (fun o => o.1 == 5))
 | [], x => by simp [takeL]
 | o :: l, x => by
  rw [takeL_cons, takeL_seen l]
  by_cases h5 : o.1 = 5
  ·
   rw [stepK_seen h5]
   simp [h5]
  ·
   rw [stepK_take h5]
   have : (o.1 == 5) = false := by simpa using h5
   simp [this]
end Go.Proofs.YtfhhnelffldggaaGreatDoor
namespace Go.Proofs.YtfhhnelffldggaaGreatDoor
open Go.ChangeShapes Go.WideShapes Go.ChangeAt Go.RowKit Go.Deep Go.PlainAid
set_option linter.unusedVariables false
set_option linter.unusedSimpArgs false
def OwnGN (w : World) (B : Nat) (A : Option Addr) (nn c : Nat) (l : List Int) : Prop := (A = none ∧ nn = 0 ∧ c = 0 ∧ l = []) ∨ ∃ g, A = some ⟨g, 0, none⟩ ∧ G.OwnN w B g nn c l
def OwnUN (w : World) (B : Nat) (A : Option Addr) (nn c : Nat) (l : List Tk3) : Prop := (A = none ∧ nn = 0 ∧ c = 0 ∧ l = []) ∨ ∃ g, A = some ⟨g, 0, none⟩ ∧ OwnU w B g nn c l
theorem OwnGN.on {w w' : World} {B : Nat} {A : Option Addr} {nn c : Nat} {l : List Int} (h : OwnGN w B A nn c l) (hb : Below w.heap.size w w') : OwnGN w' B A nn c l := by
 rcases h with h | ⟨g, e, h⟩
 · exact .inl h
 · exact .inr ⟨g, e, h.on hb⟩
theorem OwnUN.on {w w' : World} {B : Nat} {A : Option Addr} {nn c : Nat} {l : List Tk3} (h : OwnUN w B A nn c l) (hb : Below w.heap.size w w') : OwnUN w' B A nn c l := by
 rcases h with h | ⟨g, e, h⟩
 · exact .inl h
 · exact .inr ⟨g, e, h.on hb⟩
theorem OwnGN.same {w w' : World} {B : Nat} {A : Option Addr} {nn c : Nat} {l : List Int} (h : OwnGN w B A nn c l) (hb : ∀ g, B ≤ g → g < w.heap.size → w'.heap[g]? = w.heap[g]?) : OwnGN w' B A nn c l := by
 rcases h with h | ⟨g, e, h⟩
 · exact .inl h
 ·
  refine .inr ⟨g, e, h.1, ?_⟩
  have hlt := h.lt
  have hge := h.ge
  rcases h.2 with ⟨e1, e2⟩ | ⟨g', cap, cur, e1, hg, hh, h3⟩
  · exact .inl ⟨e1, e2⟩
  ·
   cases e1
   exact .inr ⟨g, _, cur, rfl, hg, by rw [hb g hge hlt]; exact hh, h3⟩
theorem OwnUN.same {w w' : World} {B : Nat} {A : Option Addr} {nn c : Nat} {l : List Tk3} (h : OwnUN w B A nn c l) (hb : ∀ g, B ≤ g → g < w.heap.size → w'.heap[g]? = w.heap[g]?) : OwnUN w' B A nn c l := by
 rcases h with h | ⟨g, e, h⟩
 · exact .inl h
 · exact .inr ⟨g, e, h.same (hb g h.ge h.lt)⟩
theorem OwnGN.rd {w : World} {B : Nat} {A : Option Addr} {nn c : Nat} {l : List Int} (h : OwnGN w B A nn c l) : G.Rd w A l := by
 rcases h with ⟨_, _, _, rfl⟩ | ⟨g, rfl, h⟩
 · exact fun h => by simp at h
 · exact h.rd
theorem OwnUN.rd {w : World} {B : Nat} {A : Option Addr} {nn c : Nat} {l : List Tk3} (h : OwnUN w B A nn c l) : RdY w A l := by
 rcases h with ⟨_, _, _, rfl⟩ | ⟨g, rfl, h⟩
 · exact fun h => by simp at h
 · exact h.rd
theorem gu_ne {w : World} {B C g nn c gt tn ct : Nat} {l : List Int} {t : List Tk3} (h : G.OwnN w B g nn c l) (h' : OwnU w C gt tn ct t) : g ≠ gt := by
 intro e
 subst e
 rcases h.2 with ⟨hv, _⟩ | ⟨g', cap, cur, hv, _, hh, _⟩
 · cases hv
 ·
  cases hv
  rcases h'.2 with ⟨hv, _⟩ | ⟨g2, cap2, cur2, hv, _, hh2, _⟩
  · cases hv
  ·
   cases hv
   rw [hh] at hh2
   have e2 := Option.some.inj hh2
   injection e2 with e3 e4 e5
   exact absurd e4 (by decide)
theorem OwnUN.grown {w w' : World} {B C : Nat} {A TA : Option Addr} {nn c tn ct : Nat} {l : List Int} {t : List Tk3} (h : OwnUN w B TA tn ct t) (h' : OwnGN w C A nn c l) (hg : w.grownBy w' (A.map (·.block))) : OwnUN w' B TA tn ct t := by
 rcases h with h | ⟨gt, e, h⟩
 · exact .inl h
 ·
  refine .inr ⟨gt, e, own_grownM h hg (fun g2 e2 e3 => ?_)⟩
  cases e2
  rcases h' with ⟨rfl, _⟩ | ⟨g, rfl, h'⟩
  · cases e3
  · exact gu_ne h' h (Option.some.inj e3)
theorem OwnGN.grown {w w' : World} {B C : Nat} {A TA : Option Addr} {nn c tn ct : Nat} {l : List Int} {t : List Tk3} (h : OwnGN w B A nn c l) (h' : OwnUN w C TA tn ct t) (hg : w.grownBy w' (TA.map (·.block))) : OwnGN w' B A nn c l := by
 rcases h with h | ⟨g, e, h⟩
 · exact .inl h
 ·
  refine .inr ⟨g, e, own_grownM h hg (fun g2 e2 e3 => ?_)⟩
  cases e2
  rcases h' with ⟨rfl, _⟩ | ⟨gt, rfl, h'⟩
  · cases e3
  · exact gu_ne h h' (Option.some.inj e3).symm
theorem OwnGN.far {w w' : World} {B : Nat} {A : Option Addr} {nn c : Nat} {l : List Int} (h : OwnGN w B A nn c l) (hg : w.grownBy w' (A.map (·.block))) (k : Nat) (cs : Array Value) (fr : Nat × Nat) (hk : w.heap[k]? = some (.cells cs 37 fr)) : w'.heap[k]? = some (.cells cs 37 fr) := by
 refine (hg.block _ (row_lt hk) ?_).trans hk
 rcases h with ⟨rfl, _⟩ | ⟨g, rfl, h⟩
 · exact fun e => by cases e
 ·
  intro e
  have e2 : g = k := (Option.some.inj e).symm
  rcases h.2 with ⟨hv, _⟩ | ⟨g', cap, cur, hv, _, hh, _⟩
  · cases hv
  ·
   cases hv
   rw [e2, hk] at hh
   have e5 := Option.some.inj hh
   injection e5 with e3 e4 e6
   exact absurd e4 (by decide)
theorem OwnUN.far {w w' : World} {B : Nat} {A : Option Addr} {nn c : Nat} {l : List Tk3} (h : OwnUN w B A nn c l) (hg : w.grownBy w' (A.map (·.block))) (k : Nat) (cs : Array Value) (fr : Nat × Nat) (hk : w.heap[k]? = some (.cells cs 37 fr)) : w'.heap[k]? = some (.cells cs 37 fr) := by
 refine (hg.block _ (row_lt hk) ?_).trans hk
 rcases h with ⟨rfl, _⟩ | ⟨g, rfl, h⟩
 · exact fun e => by cases e
 ·
  intro e
  have e2 : g = k := (Option.some.inj e).symm
  rcases h.2 with ⟨hv, _⟩ | ⟨g', cap, cur, hv, _, hh, _⟩
  · cases hv
  ·
   cases hv
   rw [e2, hk] at hh
   have e5 := Option.some.inj hh
   injection e5 with e3 e4 e6
   exact absurd e4 (by decide)
end Go.Proofs.YtfhhnelffldggaaGreatDoor
