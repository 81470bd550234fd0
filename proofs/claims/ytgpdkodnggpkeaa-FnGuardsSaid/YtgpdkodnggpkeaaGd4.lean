/-
  Guards: Feel and Pass of the specification.
-/
import Derived.Test.YtgpdkodnggpkeaaGd3
import Derived.Great.BuildSlice
import Derived.Deep.CutBlock
namespace Go.Proofs.Ytgpdkodnggpkeaa
open Go.RowKit Go.PlainAid
set_option linter.unusedVariables false
set_option linter.unusedSimpArgs false

theorem alG (w : World) (o : Obj) : Below w.heap.size w (w.alloc o) := (Below.refl _ _).alloc (Nat.le_refl _) _
theorem al_atG (w : World) (o : Obj) {k : Nat} (h : w.heap.size = k) : (w.alloc o).heap[k]? = some o := by subst h; exact heap_new w o
theorem set_rowG {w : World} {k : Nat} {T : TypeId} {a : Array Value} (h : w.heap[k]? = some (.cells a T)) (i : Nat) (x : Value) : (w.setCell ⟨k, i, none⟩ x).heap[k]? = some (.cells (a.setIfInBounds i x) T) := heap_setCell_same w k i _ _ x h
/-- what a store leaves: one row is another, all else is as it was -/
def PutG (w w' : World) (g : Nat) (o : Obj) : Prop := w'.heap[g]? = some o ∧ (∀ k, k ≠ g → w'.heap[k]? = w.heap[k]?) ∧ w'.heap.size = w.heap.size ∧ (∀ B W, B ≤ g → Below B W w → Below B W w')
theorem PutG.far {w w' : World} {g k : Nat} {o p : Obj} (h : PutG w w' g o) (hr : w.heap[k]? = some p) (hne : k ≠ g) : w'.heap[k]? = some p := (h.2.1 k hne).trans hr
theorem own_same {w w' : World} {B g n c : Nat} {l : List Int} (h : OwnN w B g n c l) (hg : w'.heap[g]? = w.heap[g]?) : OwnN w' B g n c l := by
  refine ⟨h.1, ?_⟩
  rcases h.2 with h2 | ⟨g', cap, cur, e, h3, h4, h5⟩
  · exact .inl h2
  · cases e
    exact .inr ⟨_, _, _, rfl, h3, hg.trans h4, h5⟩
theorem OwnN.cap {w : World} {B g n c : Nat} {l : List Int} (h : OwnN w B g n c l) : n ≤ c := by
  rcases h.2 with h2 | ⟨g', cap, cur, e, h3, h4, h5, _⟩
  · cases h2.1
  · cases e
    exact h5
theorem rd_take {w : World} {a : Option Addr} {l : List Int} (h : Rd w a l) (m : Nat) : Rd w a (l.take m) := fun h0 => by
  have hl : (l.take m).length ≤ l.length := by simp; omega
  obtain ⟨g, off, ha, hc⟩ := h (by omega)
  refine ⟨g, off, ha, fun j hj => ?_⟩
  rw [List.getElem_take]
  exact hc j (by omega)
theorem PutG.own {w w' : World} {g B k n c : Nat} {o : Obj} {l : List Int} (h : PutG w w' g o) (hr : OwnN w B k n c l) (hne : k ≠ g) : OwnN w' B k n c l := own_same hr (h.2.1 k hne)
/-- a guard stored into a row, as one -/
theorem listStoreG {ops : Array Oper} {rest : List Oper} {o : Oper} {a : Act} {Q : Exit → Act → World → Prop} {w : World} (hgd : o.guard = none) (hd : o.dst = none) (x y : Operand) (ty : TypeId) (ho : o.op = .store ty x y) (hty : ty = 26)
    (g : Nat) (q : Option Addr) (n c : Nat) (z : Int) (hx : a.eval x = .pointer (some ⟨g, 0, none⟩)) (hy : a.eval y = .agg #[.slice q n c, .int .i64 z])
    {u0 u1 : Value} (hg : w.heap[g]? = some (.cells #[u0, u1] 26))
    (h : ∀ w' : World, PutG w w' g (.cells #[.slice q n c, .int .i64 z] 26) → wpList Try.prog ops Q rest a w') : wpList Try.prog ops Q (o :: rest) a w := by
  subst hty
  refine wpList_store_rowTo hgd _ x y ho hd g _ hx hy _ _ hg (by kernel_rfl) rfl (by kernel_rfl) ?_
  refine h _ ⟨setRow_heap w g _ _ _ _ hg, fun k hk => setRow_other w g k _ hk, setRow_size w g _, fun B W hB hb => ?_⟩
  exact ⟨hb.os, hb.tape, hb.output, by rw [setRow_size]; exact hb.size, fun k hk => by rw [setRow_other w g k _ (by omega)]; exact hb.block k hk⟩
theorem storeV_run {w : World} {g i : Nat} {z : Int} {cs : Array Value} {T : TypeId} (hg : w.heap[g]? = some (.cells cs T)) (hi : i < cs.size) : (Instr.storeAt 3 (.pointer (some ⟨g, i, none⟩)) (.int .i64 z)).run Try.prog w = .ok () (w.setCell ⟨g, i, none⟩ (.int .i64 z)) := by
  have k1 : w.cell? ⟨g, i, none⟩ = some cs[i] := by simp [World.cell?, hg, hi]
  have k2 : w.frozen? ⟨g, i, none⟩ = false := by simp [World.frozen?, hg]
  simp [go_sem, Instr.storeAt, k1, k2]
theorem storeL_run {w : World} {g i : Nat} {q : Option Addr} {n c : Nat} {cs : Array Value} {T : TypeId} (hg : w.heap[g]? = some (.cells cs T)) (hi : i < cs.size) : (Instr.storeAt 24 (.pointer (some ⟨g, i, none⟩)) (.slice q n c)).run Try.prog w = .ok () (w.setCell ⟨g, i, none⟩ (.slice q n c)) := by
  have k1 : w.cell? ⟨g, i, none⟩ = some cs[i] := by simp [World.cell?, hg, hi]
  have k2 : w.frozen? ⟨g, i, none⟩ = false := by simp [World.frozen?, hg]
  simp [go_sem, Instr.storeAt, k1, k2]
theorem putG_set {w : World} {g i : Nat} {v : Value} {cs : Array Value} {T : TypeId} (hg : w.heap[g]? = some (.cells cs T)) : PutG w (w.setCell ⟨g, i, none⟩ v) g (.cells (cs.setIfInBounds i v) T) :=
  ⟨set_rowG hg i _, fun k hk => Below.heap_setCell _ _ _ _ hk, by simp, fun B W hB hb => hb.setCell hB _⟩
/-- one number stored into a row -/
theorem listStoreI {ops : Array Oper} {rest : List Oper} {o : Oper} {a : Act} {Q : Exit → Act → World → Prop} {w : World} (hgd : o.guard = none) (hd : o.dst = none) (x y : Operand) (ty : TypeId) (ho : o.op = .store ty x y) (hty : ty = 3)
    (g i : Nat) (z : Int) (hx : a.eval x = .pointer (some ⟨g, i, none⟩)) (hy : a.eval y = .int .i64 z)
    {cs : Array Value} {T : TypeId} (hg : w.heap[g]? = some (.cells cs T)) (hi : i < cs.size)
    (h : ∀ w' : World, PutG w w' g (.cells (cs.setIfInBounds i (.int .i64 z)) T) → wpList Try.prog ops Q rest a w') : wpList Try.prog ops Q (o :: rest) a w := by
  subst hty
  refine wpList_plain hgd fun _ hK => ?_
  unfold Oper.wp
  simp only [execOp, ho, hx, hy, Sem.run_bind, storeV_run hg hi, Result.andThen, Sem.run_pure]
  exact hK _ _ (by rw [hd]; exact h _ (putG_set hg))
/-- a list stored into a row -/
theorem listStoreL {ops : Array Oper} {rest : List Oper} {o : Oper} {a : Act} {Q : Exit → Act → World → Prop} {w : World} (hgd : o.guard = none) (hd : o.dst = none) (x y : Operand) (ty : TypeId) (ho : o.op = .store ty x y) (hty : ty = 24)
    (g i : Nat) (q : Option Addr) (n c : Nat) (hx : a.eval x = .pointer (some ⟨g, i, none⟩)) (hy : a.eval y = .slice q n c)
    {cs : Array Value} {T : TypeId} (hg : w.heap[g]? = some (.cells cs T)) (hi : i < cs.size)
    (h : ∀ w' : World, PutG w w' g (.cells (cs.setIfInBounds i (.slice q n c)) T) → wpList Try.prog ops Q rest a w') : wpList Try.prog ops Q (o :: rest) a w := by
  subst hty
  refine wpList_plain hgd fun _ hK => ?_
  unfold Oper.wp
  simp only [execOp, ho, hx, hy, Sem.run_bind, storeL_run hg hi, Result.andThen, Sem.run_pure]
  exact hK _ _ (by rw [hd]; exact h _ (putG_set hg))
def feelA (b : Bool) (al x : Int) (seen : Bool) : Int := if b = true ∧ (0 ≤ x ∧ x ≤ 15) then (if seen = true then x else orI al x) else al
set_option maxRecDepth 100000 in
set_option maxHeartbeats 4000000 in
theorem feelS (a : Option Addr) (al : Int) (l : List Int) (n cap : Nat) (x : Int) (seen : Bool) (b : Bool) (y : Int) (hy : feelA b al x seen = y) (hl : l.length = n) (hn : n ≤ 1048576) (ha : a = none → n = 0 ∧ cap = 0) (hb : b = true ↔ GdR l al) (w : World) (hr : Rd w a l) :
    Calls Try.prog 25 #[.agg #[.slice a n cap, .int .i64 al], .int .i64 x, .bool seen] w fun e w' => ∃ g c, e = .returned (.agg #[.slice (some ⟨g, 0, none⟩) n c, .int .i64 y]) ∧ OwnN w' (w.heap.size + 2) g n c l ∧ Below w.heap.size w w' := by
  have HY : Hid (feelA b al x seen = y) := hy
  clear hy
  have HL : Hid (l.length = n) := hl
  have HR : Hid (Rd w a l) := hr
  have HN : Hid (a = none → n = 0 ∧ cap = 0) := ha
  have HBo : Hid (b = true ↔ GdR l al) := hb
  have HB0 : Hid (Below w.heap.size w ((w.alloc (.cells #[.slice a n cap, .int .i64 al] 26)).alloc (.cells #[.slice none 0 0, .int .i64 0] 26))) := bel_on (Nat.le_refl _) (alG _ _) (alG _ _)
  have HP0 : Hid (((w.alloc (.cells #[.slice a n cap, .int .i64 al] 26)).alloc (.cells #[.slice none 0 0, .int .i64 0] 26)).heap[w.heap.size]? = some (.cells #[.slice a n cap, .int .i64 al] 26)) := row_on (heap_new w _) (alG _ _)
  have HZ0 : Hid (((w.alloc (.cells #[.slice a n cap, .int .i64 al] 26)).alloc (.cells #[.slice none 0 0, .int .i64 0] 26)).heap[w.heap.size + 1]? = some (.cells #[.slice none 0 0, .int .i64 0] 26)) := al_atG (w.alloc (.cells #[.slice a n cap, .int .i64 al] 26)) _ (by simp)
  have p0 := row2_cells HP0.out
  clear hl hr ha hb
  go_enter Try.func25, Try.ntmps25
  go_wp2_with fail
  refine (copyGS a al l n cap HL.out hn HN.out _ (HR.out.keep HB0.out (Nat.le_refl _))).mono ?_
  rintro e w1 ⟨g, c, rfl, hown, hb1⟩
  have hs0 : ((w.alloc (.cells #[.slice a n cap, .int .i64 al] 26)).alloc (.cells #[.slice none 0 0, .int .i64 0] 26)).heap.size = w.heap.size + 1 + 1 := by simp
  have HO1 : Hid (OwnN w1 (w.heap.size + 2) g n c l) := hown.mono (by omega)
  have HB1 : Hid (Below w.heap.size w w1) := bel_on (Nat.le_refl _) HB0.out hb1
  have HP1 : Hid (w1.heap[w.heap.size]? = some (.cells #[.slice a n cap, .int .i64 al] 26)) := row_on HP0.out hb1
  have HZ1 : Hid (w1.heap[w.heap.size + 1]? = some (.cells #[.slice none 0 0, .int .i64 0] 26)) := row_on HZ0.out hb1
  have hl1 := row_lt HZ1.out
  have hg1 := HO1.out.ge
  have hg2 := HO1.out.lt
  clear hown hb1 HB0 HP0 HZ0 p0 hs0
  have HQ2 : Hid ((w1.alloc (.cells #[.slice (some ⟨g, 0, none⟩) n c, .int .i64 al] 26)).heap[w1.heap.size]? = some (.cells #[.slice (some ⟨g, 0, none⟩) n c, .int .i64 al] 26)) := heap_new w1 _
  have HB2 : Hid (Below w.heap.size w (w1.alloc (.cells #[.slice (some ⟨g, 0, none⟩) n c, .int .i64 al] 26))) := bel_on (Nat.le_refl _) HB1.out (alG _ _)
  have HP2 : Hid ((w1.alloc (.cells #[.slice (some ⟨g, 0, none⟩) n c, .int .i64 al] 26)).heap[w.heap.size]? = some (.cells #[.slice a n cap, .int .i64 al] 26)) := row_on HP1.out (alG _ _)
  have HZ2 : Hid ((w1.alloc (.cells #[.slice (some ⟨g, 0, none⟩) n c, .int .i64 al] 26)).heap[w.heap.size + 1]? = some (.cells #[.slice none 0 0, .int .i64 0] 26)) := row_on HZ1.out (alG _ _)
  have HO2 : Hid (OwnN (w1.alloc (.cells #[.slice (some ⟨g, 0, none⟩) n c, .int .i64 al] 26)) (w.heap.size + 2) g n c l) := HO1.out.on (alG _ _)
  have p2 := row2_cells HP2.out
  have q2 := row2_cells HQ2.out
  clear HB1 HP1 HZ1 HO1
  obtain ⟨Q, hQ⟩ : ∃ Q, w1.heap.size = Q := ⟨_, rfl⟩
  go_wp2_with fail
  refine (guardokS a al l n cap b HL.out (by omega) HBo.out _ (HR.out.keep HB2.out (Nat.le_refl _))).mono ?_
  rintro e w3 ⟨rfl, hb1⟩
  rw [hQ] at HQ2 hl1 hg2
  have HB3 : Hid (Below w.heap.size w w3) := bel_on (Nat.le_refl _) HB2.out hb1
  have HP3 : Hid (w3.heap[w.heap.size]? = some (.cells #[.slice a n cap, .int .i64 al] 26)) := row_on HP2.out hb1
  have HZ3 : Hid (w3.heap[w.heap.size + 1]? = some (.cells #[.slice none 0 0, .int .i64 0] 26)) := row_on HZ2.out hb1
  have HO3 : Hid (OwnN w3 (w.heap.size + 2) g n c l) := HO2.out.on hb1
  have HQ3 : Hid (w3.heap[Q]? = some (.cells #[.slice (some ⟨g, 0, none⟩) n c, .int .i64 al] 26)) := row_on HQ2.out hb1
  have p3 := row2_cells HP3.out
  have q3 := row2_cells HQ3.out
  clear hb1 HB2 HP2 HZ2 HO2 HQ2 p2 q2
  clear hQ
  cases b
  · obtain rfl : al = y := by rw [← HY.out]; simp [feelA]
    clear HY
    go_upto_region 3 with fail
    go_wp2_with (refine listStoreG rfl rfl _ _ _ rfl rfl (w.heap.size + 1) (some ⟨g, 0, none⟩) n c (al) rfl rfl HZ3.out ?_)
    intro w9 hput
    have HB9 : Hid (Below w.heap.size w w9) := hput.2.2.2 _ _ (Nat.le_succ _) HB3.out
    have HO9 : Hid (OwnN w9 (w.heap.size + 2) g n c l) := hput.own HO3.out (by omega)
    obtain ⟨z0, z1, _⟩ := row2_cells hput.1
    clear hput
    go_wp2
    refine bodyPost_ret (v := .agg #[.slice (some ⟨g, 0, none⟩) n c, .int .i64 (al)]) (by simp only [results, Try.results25]; simp [go_sem, z0, z1]) rfl ⟨g, c, rfl, HO9.out, HB9.out⟩
  by_cases hx : 0 ≤ x ∧ x ≤ 15
  case neg =>
    obtain rfl : al = y := by rw [← HY.out]; simp only [feelA]; rw [if_neg (fun h => hx h.2)]
    have hd := decide_eq_false hx
    clear HY hx
    go_wp2_with fail
    refine (H.senseS x false hd _).mono ?_
    rintro e w4 ⟨rfl, rfl⟩
    go_upto_region 3 with fail
    go_wp2_with (refine listStoreG rfl rfl _ _ _ rfl rfl (w.heap.size + 1) (some ⟨g, 0, none⟩) n c (al) rfl rfl HZ3.out ?_)
    intro w9 hput
    have HB9 : Hid (Below w.heap.size w w9) := hput.2.2.2 _ _ (Nat.le_succ _) HB3.out
    have HO9 : Hid (OwnN w9 (w.heap.size + 2) g n c l) := hput.own HO3.out (by omega)
    obtain ⟨z0, z1, _⟩ := row2_cells hput.1
    clear hput
    go_wp2
    refine bodyPost_ret (v := .agg #[.slice (some ⟨g, 0, none⟩) n c, .int .i64 (al)]) (by simp only [results, Try.results25]; simp [go_sem, z0, z1]) rfl ⟨g, c, rfl, HO9.out, HB9.out⟩
  have hd := decide_eq_true hx
  have hy := HY.out
  unfold feelA at hy
  rw [if_pos ⟨rfl, hx⟩] at hy
  obtain ⟨u, hu⟩ : ∃ u, orI al x = u := ⟨_, rfl⟩
  rw [hu] at hy
  have HU : Hid (orI al x = u) := hu
  have HX : Hid (0 ≤ x ∧ x ≤ 15) := hx
  have HAL : Hid (0 ≤ al ∧ al ≤ 15) := (HBo.out.1 rfl).2.1
  clear HY hx hu
  go_wp2_with fail
  refine (H.senseS x true hd _).mono ?_
  rintro e w4 ⟨rfl, rfl⟩
  clear hd
  go_wp2_with fail
  refine (bothS al x HAL.out HX.out u HU.out _).mono ?_
  rintro e w5 ⟨rfl, rfl⟩
  go_wp2_with (refine listStoreI rfl rfl _ _ _ rfl rfl Q 1 (u) rfl rfl HQ3.out (by simp) ?_)
  intro w4 hput
  have HB4 : Hid (Below w.heap.size w w4) := hput.2.2.2 _ _ (by omega) HB3.out
  have HP4 : Hid (w4.heap[w.heap.size]? = some (.cells #[.slice a n cap, .int .i64 al] 26)) := hput.far HP3.out (by omega)
  have HZ4 : Hid (w4.heap[w.heap.size + 1]? = some (.cells #[.slice none 0 0, .int .i64 0] 26)) := hput.far HZ3.out (by omega)
  have HO4 : Hid (OwnN w4 (w.heap.size + 2) g n c l) := hput.own HO3.out (by omega)
  have HQ4 : Hid (w4.heap[Q]? = some (.cells #[.slice (some ⟨g, 0, none⟩) n c, .int .i64 u] 26)) := hput.1
  have p4 := row2_cells HP4.out
  have q4 := row2_cells HQ4.out
  clear hput HB3 HP3 HZ3 HO3 HQ3 p3 q3
  cases seen
  · simp at hy
    subst hy
    go_upto_region 7 with fail
    go_wp2_with (refine listStoreG rfl rfl _ _ _ rfl rfl (w.heap.size + 1) (some ⟨g, 0, none⟩) n c (u) rfl rfl HZ4.out ?_)
    intro w9 hput
    have HB9 : Hid (Below w.heap.size w w9) := hput.2.2.2 _ _ (Nat.le_succ _) HB4.out
    have HO9 : Hid (OwnN w9 (w.heap.size + 2) g n c l) := hput.own HO4.out (by omega)
    obtain ⟨z0, z1, _⟩ := row2_cells hput.1
    clear hput
    go_wp2
    refine bodyPost_ret (v := .agg #[.slice (some ⟨g, 0, none⟩) n c, .int .i64 (u)]) (by simp only [results, Try.results25]; simp [go_sem, z0, z1]) rfl ⟨g, c, rfl, HO9.out, HB9.out⟩
  · simp at hy
    subst hy
    go_upto_region 6 with fail
    go_wp2_with (refine listStoreI rfl rfl _ _ _ rfl rfl Q 1 (x) rfl rfl HQ4.out (by simp) ?_)
    intro w5 hput
    have HB5 : Hid (Below w.heap.size w w5) := hput.2.2.2 _ _ (by omega) HB4.out
    have HP5 : Hid (w5.heap[w.heap.size]? = some (.cells #[.slice a n cap, .int .i64 al] 26)) := hput.far HP4.out (by omega)
    have HZ5 : Hid (w5.heap[w.heap.size + 1]? = some (.cells #[.slice none 0 0, .int .i64 0] 26)) := hput.far HZ4.out (by omega)
    have HO5 : Hid (OwnN w5 (w.heap.size + 2) g n c l) := hput.own HO4.out (by omega)
    have HQ5 : Hid (w5.heap[Q]? = some (.cells #[.slice (some ⟨g, 0, none⟩) n c, .int .i64 x] 26)) := hput.1
    have p5 := row2_cells HP5.out
    have q5 := row2_cells HQ5.out
    clear hput HB4 HP4 HZ4 HO4 HQ4 p4 q4
    go_upto_region 7 with fail
    go_wp2_with (refine listStoreG rfl rfl _ _ _ rfl rfl (w.heap.size + 1) (some ⟨g, 0, none⟩) n c (x) rfl rfl HZ5.out ?_)
    intro w9 hput
    have HB9 : Hid (Below w.heap.size w w9) := hput.2.2.2 _ _ (Nat.le_succ _) HB5.out
    have HO9 : Hid (OwnN w9 (w.heap.size + 2) g n c l) := hput.own HO5.out (by omega)
    obtain ⟨z0, z1, _⟩ := row2_cells hput.1
    clear hput
    go_wp2
    refine bodyPost_ret (v := .agg #[.slice (some ⟨g, 0, none⟩) n c, .int .i64 (x)]) (by simp only [results, Try.results25]; simp [go_sem, z0, z1]) rfl ⟨g, c, rfl, HO9.out, HB9.out⟩
/-- three boxed guards behind what only grew -/
def KG3 (w w' : World) (Q : Nat) (p z q : Obj) : Prop := w'.heap[w.heap.size]? = some p ∧ w'.heap[w.heap.size + 1]? = some z ∧ w'.heap[Q]? = some q ∧ Below w.heap.size w w'
theorem KG3.on {w w' w2 : World} {Q : Nat} {p z q : Obj} (h : KG3 w w' Q p z q) (hb : Below w'.heap.size w' w2) : KG3 w w2 Q p z q := ⟨row_on h.1 hb, row_on h.2.1 hb, row_on h.2.2.1 hb, bel_on (Nat.le_refl _) h.2.2.2 hb⟩
theorem KG3.grown {w w' w2 : World} {Q k : Nat} {p z q : Obj} (h : KG3 w w' Q p z q) (hg : w'.grownBy w2 (some k)) (h1 : w.heap.size + 1 < k) (h2 : Q ≠ k) : KG3 w w2 Q p z q := by
  have b : ∀ m o, w'.heap[m]? = some o → m ≠ k → w2.heap[m]? = some o := fun m o hm hne => (hg.block m (row_lt hm) (fun e => hne (Option.some.inj e))).trans hm
  exact ⟨b _ _ h.1 (by omega), b _ _ h.2.1 (by omega), b _ _ h.2.2.1 h2, h.2.2.2.grown hg h.2.2.2.size (fun m hm => by cases hm; omega)⟩
theorem kg_conj {w w' : World} {Q : Nat} {x y : Value} {T : TypeId} {z q : Obj} (h : KG3 w w' Q (.cells #[x, y] T) z q) : w'.cell? ⟨w.heap.size, 0, none⟩ = some x ∧ w'.cell? ⟨w.heap.size, 1, none⟩ = some y ∧ Below w.heap.size w w' := by
  refine ⟨?_, ?_, h.2.2.2⟩ <;> simp [World.cell?, h.1]
def passL (b : Bool) (l : List Int) (x : Int) : List Int := if b = true then (letG l x :: l).take 9 else l
set_option maxRecDepth 100000 in
set_option maxHeartbeats 8000000 in
theorem passS (a : Option Addr) (al : Int) (l : List Int) (n cap : Nat) (x : Int) (b : Bool) (Y : List Int) (m : Nat) (hY : passL b l x = Y) (hm : Y.length = m) (hl : l.length = n) (hn : n ≤ 1048576) (ha : a = none → n = 0 ∧ cap = 0) (hb : b = true ↔ GdR l al) (w : World) (hr : Rd w a l) :
    Calls Try.prog 29 #[.agg #[.slice a n cap, .int .i64 al], .int .i64 x] w fun e w' => ∃ g c, e = .returned (.agg #[.slice (some ⟨g, 0, none⟩) m c, .int .i64 al]) ∧ OwnN w' (w.heap.size + 2) g m c Y ∧ Below w.heap.size w w' := by
  have HY : Hid (passL b l x = Y) := hY
  have HM0 : Hid (Y.length = m) := hm
  clear hY hm
  have HL : Hid (l.length = n) := hl
  have HR : Hid (Rd w a l) := hr
  have HN : Hid (a = none → n = 0 ∧ cap = 0) := ha
  have HBo : Hid (b = true ↔ GdR l al) := hb
  have HB0 : Hid (Below w.heap.size w ((w.alloc (.cells #[.slice a n cap, .int .i64 al] 26)).alloc (.cells #[.slice none 0 0, .int .i64 0] 26))) := bel_on (Nat.le_refl _) (alG _ _) (alG _ _)
  have HP0 : Hid (((w.alloc (.cells #[.slice a n cap, .int .i64 al] 26)).alloc (.cells #[.slice none 0 0, .int .i64 0] 26)).heap[w.heap.size]? = some (.cells #[.slice a n cap, .int .i64 al] 26)) := row_on (heap_new w _) (alG _ _)
  have HZ0 : Hid (((w.alloc (.cells #[.slice a n cap, .int .i64 al] 26)).alloc (.cells #[.slice none 0 0, .int .i64 0] 26)).heap[w.heap.size + 1]? = some (.cells #[.slice none 0 0, .int .i64 0] 26)) := al_atG (w.alloc (.cells #[.slice a n cap, .int .i64 al] 26)) _ (by simp)
  have p0 := row2_cells HP0.out
  clear hl hr ha hb
  go_enter Try.func29, Try.ntmps29
  go_wp2_with fail
  refine (copyGS a al l n cap HL.out hn HN.out _ (HR.out.keep HB0.out (Nat.le_refl _))).mono ?_
  rintro e w1 ⟨g, c, rfl, hown, hb1⟩
  have hs0 : ((w.alloc (.cells #[.slice a n cap, .int .i64 al] 26)).alloc (.cells #[.slice none 0 0, .int .i64 0] 26)).heap.size = w.heap.size + 1 + 1 := by simp
  have HO1 : Hid (OwnN w1 (w.heap.size + 2) g n c l) := hown.mono (by omega)
  have HB1 : Hid (Below w.heap.size w w1) := bel_on (Nat.le_refl _) HB0.out hb1
  have HP1 : Hid (w1.heap[w.heap.size]? = some (.cells #[.slice a n cap, .int .i64 al] 26)) := row_on HP0.out hb1
  have HZ1 : Hid (w1.heap[w.heap.size + 1]? = some (.cells #[.slice none 0 0, .int .i64 0] 26)) := row_on HZ0.out hb1
  have hl1 := row_lt HZ1.out
  have hg1 := HO1.out.ge
  have hg2 := HO1.out.lt
  clear hown hb1 HB0 HP0 HZ0 p0 hs0
  have HQ2 : Hid ((w1.alloc (.cells #[.slice (some ⟨g, 0, none⟩) n c, .int .i64 al] 26)).heap[w1.heap.size]? = some (.cells #[.slice (some ⟨g, 0, none⟩) n c, .int .i64 al] 26)) := heap_new w1 _
  have HB2 : Hid (Below w.heap.size w (w1.alloc (.cells #[.slice (some ⟨g, 0, none⟩) n c, .int .i64 al] 26))) := bel_on (Nat.le_refl _) HB1.out (alG _ _)
  have HP2 : Hid ((w1.alloc (.cells #[.slice (some ⟨g, 0, none⟩) n c, .int .i64 al] 26)).heap[w.heap.size]? = some (.cells #[.slice a n cap, .int .i64 al] 26)) := row_on HP1.out (alG _ _)
  have HZ2 : Hid ((w1.alloc (.cells #[.slice (some ⟨g, 0, none⟩) n c, .int .i64 al] 26)).heap[w.heap.size + 1]? = some (.cells #[.slice none 0 0, .int .i64 0] 26)) := row_on HZ1.out (alG _ _)
  have HO2 : Hid (OwnN (w1.alloc (.cells #[.slice (some ⟨g, 0, none⟩) n c, .int .i64 al] 26)) (w.heap.size + 2) g n c l) := HO1.out.on (alG _ _)
  have p2 := row2_cells HP2.out
  have q2 := row2_cells HQ2.out
  clear HB1 HP1 HZ1 HO1
  obtain ⟨Q, hQ⟩ : ∃ Q, w1.heap.size = Q := ⟨_, rfl⟩
  go_wp2_with fail
  refine (guardokS a al l n cap b HL.out (by omega) HBo.out _ (HR.out.keep HB2.out (Nat.le_refl _))).mono ?_
  rintro e w3 ⟨rfl, hb1⟩
  rw [hQ] at HQ2 hl1 hg2
  have HB3 : Hid (Below w.heap.size w w3) := bel_on (Nat.le_refl _) HB2.out hb1
  have HP3 : Hid (w3.heap[w.heap.size]? = some (.cells #[.slice a n cap, .int .i64 al] 26)) := row_on HP2.out hb1
  have HZ3 : Hid (w3.heap[w.heap.size + 1]? = some (.cells #[.slice none 0 0, .int .i64 0] 26)) := row_on HZ2.out hb1
  have HO3 : Hid (OwnN w3 (w.heap.size + 2) g n c l) := HO2.out.on hb1
  have HQ3 : Hid (w3.heap[Q]? = some (.cells #[.slice (some ⟨g, 0, none⟩) n c, .int .i64 al] 26)) := row_on HQ2.out hb1
  have p3 := row2_cells HP3.out
  have q3 := row2_cells HQ3.out
  clear hb1 HB2 HP2 HZ2 HO2 HQ2 p2 q2
  clear hQ
  cases b
  · obtain rfl : l = Y := by rw [← HY.out]; simp [passL]
    obtain rfl : n = m := by rw [← HM0.out]; exact HL.out.symm
    clear HY HM0
    go_upto_region 3 with fail
    go_wp2_with (refine listStoreG rfl rfl _ _ _ rfl rfl (w.heap.size + 1) (some ⟨g, 0, none⟩) n c (al) rfl rfl HZ3.out ?_)
    intro w9 hput
    have HB9 : Hid (Below w.heap.size w w9) := hput.2.2.2 _ _ (Nat.le_succ _) HB3.out
    have HO9 : Hid (OwnN w9 (w.heap.size + 2) g n c l) := hput.own HO3.out (by omega)
    obtain ⟨z0, z1, _⟩ := row2_cells hput.1
    clear hput
    go_wp2
    refine bodyPost_ret (v := .agg #[.slice (some ⟨g, 0, none⟩) n c, .int .i64 (al)]) (by simp only [results, Try.results29]; simp [go_sem, z0, z1]) rfl ⟨g, c, rfl, HO9.out, HB9.out⟩
  have hG := HBo.out.1 rfl
  have hn9 : n ≤ 9 := by have := hG.1; have := HL.out; omega
  obtain ⟨hr1, hr2, hr3⟩ := room_bd hG
  obtain ⟨R, hR⟩ : ∃ R, 30 - sumN l = R := ⟨_, rfl⟩
  rw [hR] at hr1 hr2 hr3
  have HRM : Hid (IntKind.i64.wrap (30 - sumW l) = R) := hr1
  obtain ⟨v, hv⟩ : ∃ v, letG l x = v := ⟨_, rfl⟩
  have hv2 : max (min x R) 0 = v := by rw [← hv, ← hR]; rfl
  have HYv : Hid ((v :: l).take 9 = Y) := by show _ = _; rw [← HY.out, ← hv]; simp [passL]
  clear hG hr1 hR hv HY
  by_cases hx : x < 0
  · have HM : Hid (min 0 R = v) := by show _ = _; omega
    clear hv2
    have HK0 : Hid (KG3 w w3.drew Q (.cells #[.slice a n cap, .int .i64 al] 26) (.cells #[.slice none 0 0, .int .i64 0] 26) (.cells #[.slice (some ⟨g, 0, none⟩) n c, .int .i64 al] 26)) := ⟨HP3.out, HZ3.out, HQ3.out, HB3.out.drew⟩
    go_upto_region 6 with fail
    clear p3 q3 HP3 HZ3 HQ3 HB3 HO3
    refine wp_region_held_drew (S := fun w' => w'.cell? ⟨w.heap.size, 0, none⟩ = some (.slice a n cap) ∧ w'.cell? ⟨w.heap.size, 1, none⟩ = some (.int .i64 al) ∧ Below w.heap.size w w') (by kernel_rfl) (kg_conj HK0.out) (fun hHeld => ?_)
    refine wpAnyH_take (i := 0) (v := ?_) rfl (by kernel_rfl) (by kernel_rfl) (by kernel_rfl) (fun _ _ _ h => h) (Or.inl ⟨by rfl, ?_⟩) (by assumption) ?_
    rotate_left
    · intro w_ hSw; (try dsimp only at hSw); go_simp <;> with_reducible rfl
    try simp only [Act.put, List.setIfInBounds_toArray, List.set_cons_zero, List.set_cons_succ, List.getElem_toArray, List.getElem_cons_zero, List.getElem_cons_succ]
    refine wpAnyH_take (i := 1) (v := ?_) rfl (by kernel_rfl) (by kernel_rfl) (by kernel_rfl) (fun _ _ _ h => h) (Or.inl ⟨by rfl, ?_⟩) (by assumption) ?_
    rotate_left
    · intro w_ hSw; (try dsimp only at hSw); go_simp <;> with_reducible rfl
    try simp only [Act.put, List.setIfInBounds_toArray, List.set_cons_zero, List.set_cons_succ, List.getElem_toArray, List.getElem_cons_zero, List.getElem_cons_succ]
    refine wpAnyH_take (i := 5) (v := ?_) rfl (by kernel_rfl) (by kernel_rfl) (by kernel_rfl) (fun _ _ _ h => h) (Or.inl ⟨by rfl, ?_⟩) (by assumption) ?_
    rotate_left
    · intro w_ hSw; (try dsimp only at hSw); go_simp <;> with_reducible rfl
    try simp only [Act.put, List.setIfInBounds_toArray, List.set_cons_zero, List.set_cons_succ, List.getElem_toArray, List.getElem_cons_zero, List.getElem_cons_succ]
    refine wpAnyH_take (i := 6) (v := ?_) rfl (by kernel_rfl) (by kernel_rfl) (by kernel_rfl) (fun _ _ _ h => h) (Or.inl ⟨by rfl, ?_⟩) (by assumption) ?_
    rotate_left
    · intro w_ hSw; (try dsimp only at hSw); go_simp <;> with_reducible rfl
    try simp only [Act.put, List.setIfInBounds_toArray, List.set_cons_zero, List.set_cons_succ, List.getElem_toArray, List.getElem_cons_zero, List.getElem_cons_succ]
    refine wpAnyH_ready (rs := [2]) (by kernel_rfl) (by simp) ?_
    refine AllReadyH.cons rfl (fun J hJ => ?_) AllReadyH.nil
    go_simp
    go_at_call 17
    refine (roomS a al l n cap R HRM.out HL.out (by omega) _ (HR.out.keep HK0.out.2.2.2 (Nat.le_refl _))).mono ?_
    rintro e v1 ⟨rfl, hbc⟩
    have HK1 : Hid (KG3 w v1 Q (.cells #[.slice a n cap, .int .i64 al] 26) (.cells #[.slice none 0 0, .int .i64 0] 26) (.cells #[.slice (some ⟨g, 0, none⟩) n c, .int .i64 al] 26)) := HK0.out.on hbc
    clear hbc HK0
    go_wp2_with fail
    refine hJ.out _ _ (kg_conj HK1.out) (fun hHeld1 => ?_)
    clear hJ J
    try simp only [Act.put, List.setIfInBounds_toArray, List.set_cons_zero, List.set_cons_succ, List.getElem_toArray, List.getElem_cons_zero, List.getElem_cons_succ]
    refine wpAnyH_ready (rs := [3]) (by kernel_rfl) (by simp) ?_
    refine AllReadyH.cons rfl (fun J hJ => ?_) AllReadyH.nil
    go_simp
    go_at_call 51
    refine (lesS 0 R v HM.out _).mono ?_
    rintro e v2 ⟨rfl, hv2⟩
    obtain rfl : v1 = v2 := hv2.symm
    have HK2 : Hid (KG3 w v1 Q (.cells #[.slice a n cap, .int .i64 al] 26) (.cells #[.slice none 0 0, .int .i64 0] 26) (.cells #[.slice (some ⟨g, 0, none⟩) n c, .int .i64 al] 26)) := HK1.out
    clear HK1
    go_wp2_with fail
    refine hJ.out _ _ (kg_conj HK2.out) (fun hHeld2 => ?_)
    clear hJ J
    try simp only [Act.put, List.setIfInBounds_toArray, List.set_cons_zero, List.set_cons_succ, List.getElem_toArray, List.getElem_cons_zero, List.getElem_cons_succ]
    refine wpAnyH_ready (rs := [4]) (by kernel_rfl) (by simp) ?_
    refine AllReadyH.cons rfl (fun J hJ => ?_) AllReadyH.nil
    go_simp
    have HK3 : Hid (KG3 w (v1.alloc (.cells #[.int .i64 v] 3)) Q (.cells #[.slice a n cap, .int .i64 al] 26) (.cells #[.slice none 0 0, .int .i64 0] 26) (.cells #[.slice (some ⟨g, 0, none⟩) n c, .int .i64 al] 26)) := HK2.out.on (alG _ _)
    have hQv : Q < v1.heap.size := row_lt HK2.out.2.2.1
    have hZv : w.heap.size + 1 < v1.heap.size := row_lt HK2.out.2.1
    have HOv : Hid (OwnN (v1.alloc (.cells #[.int .i64 v] 3)) (w.heap.size + 2) v1.heap.size 1 1 [v]) := RowAt.ownN (l := [v]) (heap_new v1 _) (by omega) rfl (by omega)
    refine hJ.out _ _ (kg_conj HK3.out) (fun hHeld3 => ?_)
    clear hJ J HK2
    try simp only [Act.put, List.setIfInBounds_toArray, List.set_cons_zero, List.set_cons_succ, List.getElem_toArray, List.getElem_cons_zero, List.getElem_cons_succ]
    refine wpAnyH_ready (rs := [7]) (by kernel_rfl) (by simp) ?_
    refine AllReadyH.cons rfl (fun J hJ => ?_) AllReadyH.nil
    refine anyN rfl (.tmp 18) (.tmp 20) rfl (w.heap.size + 2) v1.heap.size 1 1 [v] a n cap l rfl rfl HOv.out HL.out HN.out (HR.out.keep HK3.out.2.2.2 (Nat.le_refl _)) (by omega) (by simp; omega) ?_
    intro g4 c4 w4 hown4 hgr4 hat4
    have HK4 : Hid (KG3 w w4 Q (.cells #[.slice a n cap, .int .i64 al] 26) (.cells #[.slice none 0 0, .int .i64 0] 26) (.cells #[.slice (some ⟨g, 0, none⟩) n c, .int .i64 al] 26)) := HK3.out.grown hgr4 (by omega) (by omega)
    have HO4 : Hid (OwnN w4 (w.heap.size + 2) g4 (1 + n) c4 ([v] ++ l)) := hown4
    have hg4 : g4 ≠ Q ∧ w.heap.size + 2 ≤ g4 := by
      refine ⟨?_, hown4.ge⟩
      rcases hat4 with h | h
      · omega
      · simp at h
        omega
    refine hJ.out _ _ (kg_conj HK4.out) (fun hHeld4 => ?_)
    clear hJ J HK3 HOv hown4 hgr4 hat4
    try simp only [Act.put, List.setIfInBounds_toArray, List.set_cons_zero, List.set_cons_succ, List.getElem_toArray, List.getElem_cons_zero, List.getElem_cons_succ]
    refine wpAnyH_take (i := 8) (v := ?_) rfl (by kernel_rfl) (by kernel_rfl) (by kernel_rfl) (fun _ _ _ h => h) (Or.inl ⟨by rfl, ?_⟩) (by assumption) ?_
    rotate_left
    · intro w_ hSw; (try dsimp only at hSw); go_simp <;> with_reducible rfl
    try simp only [Act.put, List.setIfInBounds_toArray, List.set_cons_zero, List.set_cons_succ, List.getElem_toArray, List.getElem_cons_zero, List.getElem_cons_succ]
    refine wpAnyH_ready (rs := [9]) (by kernel_rfl) (by simp) ?_
    refine AllReadyH.cons rfl (fun J hJ => ?_) AllReadyH.nil
    have kq := row2_cells HK4.out.2.2.1
    go_simp
    have hput : PutG w4 (w4.setCell ⟨Q, 0, none⟩ (.slice (some ⟨g4, 0, none⟩) (1 + n) c4)) Q (.cells #[.slice (some ⟨g4, 0, none⟩) (1 + n) c4, .int .i64 al] 26) := putG_set HK4.out.2.2.1
    have HB5 : Hid (Below w.heap.size w (w4.setCell ⟨Q, 0, none⟩ (.slice (some ⟨g4, 0, none⟩) (1 + n) c4))) := hput.2.2.2 _ _ (by omega) HK4.out.2.2.2
    have HP5 : Hid ((w4.setCell ⟨Q, 0, none⟩ (.slice (some ⟨g4, 0, none⟩) (1 + n) c4)).heap[w.heap.size]? = some (.cells #[.slice a n cap, .int .i64 al] 26)) := hput.far HK4.out.1 (by omega)
    have HZ5 : Hid ((w4.setCell ⟨Q, 0, none⟩ (.slice (some ⟨g4, 0, none⟩) (1 + n) c4)).heap[w.heap.size + 1]? = some (.cells #[.slice none 0 0, .int .i64 0] 26)) := hput.far HK4.out.2.1 (by omega)
    have HO5 : Hid (OwnN (w4.setCell ⟨Q, 0, none⟩ (.slice (some ⟨g4, 0, none⟩) (1 + n) c4)) (w.heap.size + 2) g4 (1 + n) c4 ([v] ++ l)) := hput.own HO4.out hg4.1
    have HQ5 : Hid ((w4.setCell ⟨Q, 0, none⟩ (.slice (some ⟨g4, 0, none⟩) (1 + n) c4)).heap[Q]? = some (.cells #[.slice (some ⟨g4, 0, none⟩) (1 + n) c4, .int .i64 al] 26)) := hput.1
    have kp5 := row2_cells HP5.out
    refine hJ.out _ _ ⟨kp5.1, kp5.2.1, HB5.out⟩ (fun hHeld5 => ?_)
    clear hJ J kq kp5 HK4 HO4 hput
    try simp only [Act.put, List.setIfInBounds_toArray, List.set_cons_zero, List.set_cons_succ, List.getElem_toArray, List.getElem_cons_zero, List.getElem_cons_succ]
    generalize w4.setCell ⟨Q, 0, none⟩ (.slice (some ⟨g4, 0, none⟩) (1 + n) c4) = w5 at *
    refine wpAnyH_done (by kernel_rfl) ?_ _
    clear hHeld hHeld1 hHeld2 hHeld3 hHeld4 hHeld5
    have q5 := row2_cells HQ5.out
    by_cases h8 : n ≤ 8
    · have h8' : ¬ (9 : Int) < ((1 + n : Nat) : Int) := by omega
      obtain rfl : ([v] ++ l) = Y := by rw [← HYv.out]; simp; exact (List.take_of_length_le (by have := HL.out; omega)).symm
      obtain rfl : 1 + n = m := by rw [← HM0.out]; simp; have := HL.out; omega
      clear HYv HM0
      go_upto_region 9 with fail
      go_wp2_with (refine listStoreG rfl rfl _ _ _ rfl rfl (w.heap.size + 1) (some ⟨g4, 0, none⟩) (1 + n) c4 al rfl rfl HZ5.out ?_)
      intro w9 hput
      have HB9 : Hid (Below w.heap.size w w9) := hput.2.2.2 _ _ (Nat.le_succ _) HB5.out
      have HO9 : Hid (OwnN w9 (w.heap.size + 2) g4 (1 + n) c4 ([v] ++ l)) := hput.own HO5.out (by omega)
      obtain ⟨z0, z1, _⟩ := row2_cells hput.1
      clear hput
      go_wp2
      refine bodyPost_ret (v := .agg #[.slice (some ⟨g4, 0, none⟩) (1 + n) c4, .int .i64 al]) (by simp only [results, Try.results29]; simp [go_sem, z0, z1]) rfl ⟨g4, c4, rfl, HO9.out, HB9.out⟩
    · obtain rfl : n = 9 := by omega
      have hc4 : 10 ≤ c4 := by have := HO5.out.cap; omega
      have hc4' : 9 ≤ c4 := by omega
      have HRt : Hid (Rd w5 (some ⟨g4, 0, none⟩) ((v :: l).take 9)) := rd_take HO5.out.rd 9
      have HLt : Hid (((v :: l).take 9).length = 9) := by show _ = _; simp; have := HL.out; omega
      obtain rfl : 9 = m := by rw [← HM0.out, ← HYv.out]; exact HLt.out.symm
      have h8' : (9 : Int) < ((1 + 9 : Nat) : Int) := by omega
      have hz5 := row_lt HZ5.out
      have hQ5 := row_lt HQ5.out
      have HOn : Hid (OwnN (w5.alloc (.cells #[] 3)) (w.heap.size + 2) w5.heap.size 0 0 []) := own_new w5 _ (by omega)
      have HRn : Hid (Rd (w5.alloc (.cells #[] 3)) (some ⟨g4, 0, none⟩) ((v :: l).take 9)) := HRt.out.on (alG _ _)
      have HQn : Hid ((w5.alloc (.cells #[] 3)).heap[Q]? = some (.cells #[.slice (some ⟨g4, 0, none⟩) (1 + 9) c4, .int .i64 al] 26)) := row_on HQ5.out (alG _ _)
      have HZn : Hid ((w5.alloc (.cells #[] 3)).heap[w.heap.size + 1]? = some (.cells #[.slice none 0 0, .int .i64 0] 26)) := row_on HZ5.out (alG _ _)
      have HBn : Hid (Below w.heap.size w (w5.alloc (.cells #[] 3))) := bel_on (Nat.le_refl _) HB5.out (alG _ _)
      have qn := row2_cells HQn.out
      go_wp2_with (refine listN rfl (.tmp 27) (.tmp 30) rfl (w.heap.size + 2) w5.heap.size 0 0 [] (some ⟨g4, 0, none⟩) 9 c4 ((v :: l).take 9) rfl rfl HOn.out HLt.out (fun e => by cases e) HRn.out (by omega) (by simp; omega) ?_)
      intro g6 c6 w6 hown6 hgr6 hat6
      have b6 : ∀ m o, (w5.alloc (.cells #[] 3)).heap[m]? = some o → m ≠ w5.heap.size → w6.heap[m]? = some o := fun m o hm hne => (hgr6.block m (row_lt hm) (fun e => hne (Option.some.inj e))).trans hm
      have HQ6 : Hid (w6.heap[Q]? = some (.cells #[.slice (some ⟨g4, 0, none⟩) (1 + 9) c4, .int .i64 al] 26)) := b6 _ _ HQn.out (by omega)
      have HZ6 : Hid (w6.heap[w.heap.size + 1]? = some (.cells #[.slice none 0 0, .int .i64 0] 26)) := b6 _ _ HZn.out (by omega)
      have HB6 : Hid (Below w.heap.size w w6) := HBn.out.grown hgr6 HBn.out.size (fun k hk => by cases hk; omega)
      have HO6 : Hid (OwnN w6 (w.heap.size + 2) g6 9 c6 Y) := by
        have h := hown6
        rw [show (v :: List.take 8 l) = Y from HYv.out] at h
        exact h
      have hg6 : g6 ≠ Q ∧ w.heap.size + 2 ≤ g6 := by
        refine ⟨?_, hown6.ge⟩
        rcases hat6 with h | h
        · omega
        · (try simp at h)
          omega
      clear hown6 hgr6 hat6 b6 HQn HZn HBn HRn HOn HRt HLt HQ5 HZ5 HB5 HO5 qn q5
      go_wp2_with (refine listStoreL rfl rfl _ _ _ rfl rfl Q 0 (some ⟨g6, 0, none⟩) 9 c6 rfl rfl HQ6.out (by simp) ?_)
      intro w7 hput
      have HB7 : Hid (Below w.heap.size w w7) := hput.2.2.2 _ _ (by omega) HB6.out
      have HZ7 : Hid (w7.heap[w.heap.size + 1]? = some (.cells #[.slice none 0 0, .int .i64 0] 26)) := hput.far HZ6.out (by omega)
      have HO7 : Hid (OwnN w7 (w.heap.size + 2) g6 9 c6 Y) := hput.own HO6.out hg6.1
      have HQ7 : Hid (w7.heap[Q]? = some (.cells #[.slice (some ⟨g6, 0, none⟩) 9 c6, .int .i64 al] 26)) := hput.1
      have q7 := row2_cells HQ7.out
      clear hput HB6 HZ6 HO6 HQ6
      go_upto_region 9 with fail
      go_wp2_with (refine listStoreG rfl rfl _ _ _ rfl rfl (w.heap.size + 1) (some ⟨g6, 0, none⟩) 9 c6 al rfl rfl HZ7.out ?_)
      intro w9 hput
      have HB9 : Hid (Below w.heap.size w w9) := hput.2.2.2 _ _ (Nat.le_succ _) HB7.out
      have HO9 : Hid (OwnN w9 (w.heap.size + 2) g6 9 c6 Y) := hput.own HO7.out (by omega)
      obtain ⟨z0, z1, _⟩ := row2_cells hput.1
      clear hput
      go_wp2
      refine bodyPost_ret (v := .agg #[.slice (some ⟨g6, 0, none⟩) 9 c6, .int .i64 al]) (by simp only [results, Try.results29]; simp [go_sem, z0, z1]) rfl ⟨g6, c6, rfl, HO9.out, HB9.out⟩
  · have HM : Hid (min x R = v) := by show _ = _; omega
    clear hv2
    have HK0 : Hid (KG3 w w3.drew Q (.cells #[.slice a n cap, .int .i64 al] 26) (.cells #[.slice none 0 0, .int .i64 0] 26) (.cells #[.slice (some ⟨g, 0, none⟩) n c, .int .i64 al] 26)) := ⟨HP3.out, HZ3.out, HQ3.out, HB3.out.drew⟩
    go_upto_region 6 with fail
    clear p3 q3 HP3 HZ3 HQ3 HB3 HO3
    refine wp_region_held_drew (S := fun w' => w'.cell? ⟨w.heap.size, 0, none⟩ = some (.slice a n cap) ∧ w'.cell? ⟨w.heap.size, 1, none⟩ = some (.int .i64 al) ∧ Below w.heap.size w w') (by kernel_rfl) (kg_conj HK0.out) (fun hHeld => ?_)
    refine wpAnyH_take (i := 0) (v := ?_) rfl (by kernel_rfl) (by kernel_rfl) (by kernel_rfl) (fun _ _ _ h => h) (Or.inl ⟨by rfl, ?_⟩) (by assumption) ?_
    rotate_left
    · intro w_ hSw; (try dsimp only at hSw); go_simp <;> with_reducible rfl
    try simp only [Act.put, List.setIfInBounds_toArray, List.set_cons_zero, List.set_cons_succ, List.getElem_toArray, List.getElem_cons_zero, List.getElem_cons_succ]
    refine wpAnyH_take (i := 1) (v := ?_) rfl (by kernel_rfl) (by kernel_rfl) (by kernel_rfl) (fun _ _ _ h => h) (Or.inl ⟨by rfl, ?_⟩) (by assumption) ?_
    rotate_left
    · intro w_ hSw; (try dsimp only at hSw); go_simp <;> with_reducible rfl
    try simp only [Act.put, List.setIfInBounds_toArray, List.set_cons_zero, List.set_cons_succ, List.getElem_toArray, List.getElem_cons_zero, List.getElem_cons_succ]
    refine wpAnyH_take (i := 5) (v := ?_) rfl (by kernel_rfl) (by kernel_rfl) (by kernel_rfl) (fun _ _ _ h => h) (Or.inl ⟨by rfl, ?_⟩) (by assumption) ?_
    rotate_left
    · intro w_ hSw; (try dsimp only at hSw); go_simp <;> with_reducible rfl
    try simp only [Act.put, List.setIfInBounds_toArray, List.set_cons_zero, List.set_cons_succ, List.getElem_toArray, List.getElem_cons_zero, List.getElem_cons_succ]
    refine wpAnyH_take (i := 6) (v := ?_) rfl (by kernel_rfl) (by kernel_rfl) (by kernel_rfl) (fun _ _ _ h => h) (Or.inl ⟨by rfl, ?_⟩) (by assumption) ?_
    rotate_left
    · intro w_ hSw; (try dsimp only at hSw); go_simp <;> with_reducible rfl
    try simp only [Act.put, List.setIfInBounds_toArray, List.set_cons_zero, List.set_cons_succ, List.getElem_toArray, List.getElem_cons_zero, List.getElem_cons_succ]
    refine wpAnyH_ready (rs := [2]) (by kernel_rfl) (by simp) ?_
    refine AllReadyH.cons rfl (fun J hJ => ?_) AllReadyH.nil
    go_simp
    go_at_call 17
    refine (roomS a al l n cap R HRM.out HL.out (by omega) _ (HR.out.keep HK0.out.2.2.2 (Nat.le_refl _))).mono ?_
    rintro e v1 ⟨rfl, hbc⟩
    have HK1 : Hid (KG3 w v1 Q (.cells #[.slice a n cap, .int .i64 al] 26) (.cells #[.slice none 0 0, .int .i64 0] 26) (.cells #[.slice (some ⟨g, 0, none⟩) n c, .int .i64 al] 26)) := HK0.out.on hbc
    clear hbc HK0
    go_wp2_with fail
    refine hJ.out _ _ (kg_conj HK1.out) (fun hHeld1 => ?_)
    clear hJ J
    try simp only [Act.put, List.setIfInBounds_toArray, List.set_cons_zero, List.set_cons_succ, List.getElem_toArray, List.getElem_cons_zero, List.getElem_cons_succ]
    refine wpAnyH_ready (rs := [3]) (by kernel_rfl) (by simp) ?_
    refine AllReadyH.cons rfl (fun J hJ => ?_) AllReadyH.nil
    go_simp
    go_at_call 51
    refine (lesS x R v HM.out _).mono ?_
    rintro e v2 ⟨rfl, hv2⟩
    obtain rfl : v1 = v2 := hv2.symm
    have HK2 : Hid (KG3 w v1 Q (.cells #[.slice a n cap, .int .i64 al] 26) (.cells #[.slice none 0 0, .int .i64 0] 26) (.cells #[.slice (some ⟨g, 0, none⟩) n c, .int .i64 al] 26)) := HK1.out
    clear HK1
    go_wp2_with fail
    refine hJ.out _ _ (kg_conj HK2.out) (fun hHeld2 => ?_)
    clear hJ J
    try simp only [Act.put, List.setIfInBounds_toArray, List.set_cons_zero, List.set_cons_succ, List.getElem_toArray, List.getElem_cons_zero, List.getElem_cons_succ]
    refine wpAnyH_ready (rs := [4]) (by kernel_rfl) (by simp) ?_
    refine AllReadyH.cons rfl (fun J hJ => ?_) AllReadyH.nil
    go_simp
    have HK3 : Hid (KG3 w (v1.alloc (.cells #[.int .i64 v] 3)) Q (.cells #[.slice a n cap, .int .i64 al] 26) (.cells #[.slice none 0 0, .int .i64 0] 26) (.cells #[.slice (some ⟨g, 0, none⟩) n c, .int .i64 al] 26)) := HK2.out.on (alG _ _)
    have hQv : Q < v1.heap.size := row_lt HK2.out.2.2.1
    have hZv : w.heap.size + 1 < v1.heap.size := row_lt HK2.out.2.1
    have HOv : Hid (OwnN (v1.alloc (.cells #[.int .i64 v] 3)) (w.heap.size + 2) v1.heap.size 1 1 [v]) := RowAt.ownN (l := [v]) (heap_new v1 _) (by omega) rfl (by omega)
    refine hJ.out _ _ (kg_conj HK3.out) (fun hHeld3 => ?_)
    clear hJ J HK2
    try simp only [Act.put, List.setIfInBounds_toArray, List.set_cons_zero, List.set_cons_succ, List.getElem_toArray, List.getElem_cons_zero, List.getElem_cons_succ]
    refine wpAnyH_ready (rs := [7]) (by kernel_rfl) (by simp) ?_
    refine AllReadyH.cons rfl (fun J hJ => ?_) AllReadyH.nil
    refine anyN rfl (.tmp 18) (.tmp 20) rfl (w.heap.size + 2) v1.heap.size 1 1 [v] a n cap l rfl rfl HOv.out HL.out HN.out (HR.out.keep HK3.out.2.2.2 (Nat.le_refl _)) (by omega) (by simp; omega) ?_
    intro g4 c4 w4 hown4 hgr4 hat4
    have HK4 : Hid (KG3 w w4 Q (.cells #[.slice a n cap, .int .i64 al] 26) (.cells #[.slice none 0 0, .int .i64 0] 26) (.cells #[.slice (some ⟨g, 0, none⟩) n c, .int .i64 al] 26)) := HK3.out.grown hgr4 (by omega) (by omega)
    have HO4 : Hid (OwnN w4 (w.heap.size + 2) g4 (1 + n) c4 ([v] ++ l)) := hown4
    have hg4 : g4 ≠ Q ∧ w.heap.size + 2 ≤ g4 := by
      refine ⟨?_, hown4.ge⟩
      rcases hat4 with h | h
      · omega
      · simp at h
        omega
    refine hJ.out _ _ (kg_conj HK4.out) (fun hHeld4 => ?_)
    clear hJ J HK3 HOv hown4 hgr4 hat4
    try simp only [Act.put, List.setIfInBounds_toArray, List.set_cons_zero, List.set_cons_succ, List.getElem_toArray, List.getElem_cons_zero, List.getElem_cons_succ]
    refine wpAnyH_take (i := 8) (v := ?_) rfl (by kernel_rfl) (by kernel_rfl) (by kernel_rfl) (fun _ _ _ h => h) (Or.inl ⟨by rfl, ?_⟩) (by assumption) ?_
    rotate_left
    · intro w_ hSw; (try dsimp only at hSw); go_simp <;> with_reducible rfl
    try simp only [Act.put, List.setIfInBounds_toArray, List.set_cons_zero, List.set_cons_succ, List.getElem_toArray, List.getElem_cons_zero, List.getElem_cons_succ]
    refine wpAnyH_ready (rs := [9]) (by kernel_rfl) (by simp) ?_
    refine AllReadyH.cons rfl (fun J hJ => ?_) AllReadyH.nil
    have kq := row2_cells HK4.out.2.2.1
    go_simp
    have hput : PutG w4 (w4.setCell ⟨Q, 0, none⟩ (.slice (some ⟨g4, 0, none⟩) (1 + n) c4)) Q (.cells #[.slice (some ⟨g4, 0, none⟩) (1 + n) c4, .int .i64 al] 26) := putG_set HK4.out.2.2.1
    have HB5 : Hid (Below w.heap.size w (w4.setCell ⟨Q, 0, none⟩ (.slice (some ⟨g4, 0, none⟩) (1 + n) c4))) := hput.2.2.2 _ _ (by omega) HK4.out.2.2.2
    have HP5 : Hid ((w4.setCell ⟨Q, 0, none⟩ (.slice (some ⟨g4, 0, none⟩) (1 + n) c4)).heap[w.heap.size]? = some (.cells #[.slice a n cap, .int .i64 al] 26)) := hput.far HK4.out.1 (by omega)
    have HZ5 : Hid ((w4.setCell ⟨Q, 0, none⟩ (.slice (some ⟨g4, 0, none⟩) (1 + n) c4)).heap[w.heap.size + 1]? = some (.cells #[.slice none 0 0, .int .i64 0] 26)) := hput.far HK4.out.2.1 (by omega)
    have HO5 : Hid (OwnN (w4.setCell ⟨Q, 0, none⟩ (.slice (some ⟨g4, 0, none⟩) (1 + n) c4)) (w.heap.size + 2) g4 (1 + n) c4 ([v] ++ l)) := hput.own HO4.out hg4.1
    have HQ5 : Hid ((w4.setCell ⟨Q, 0, none⟩ (.slice (some ⟨g4, 0, none⟩) (1 + n) c4)).heap[Q]? = some (.cells #[.slice (some ⟨g4, 0, none⟩) (1 + n) c4, .int .i64 al] 26)) := hput.1
    have kp5 := row2_cells HP5.out
    refine hJ.out _ _ ⟨kp5.1, kp5.2.1, HB5.out⟩ (fun hHeld5 => ?_)
    clear hJ J kq kp5 HK4 HO4 hput
    try simp only [Act.put, List.setIfInBounds_toArray, List.set_cons_zero, List.set_cons_succ, List.getElem_toArray, List.getElem_cons_zero, List.getElem_cons_succ]
    generalize w4.setCell ⟨Q, 0, none⟩ (.slice (some ⟨g4, 0, none⟩) (1 + n) c4) = w5 at *
    refine wpAnyH_done (by kernel_rfl) ?_ _
    clear hHeld hHeld1 hHeld2 hHeld3 hHeld4 hHeld5
    have q5 := row2_cells HQ5.out
    by_cases h8 : n ≤ 8
    · have h8' : ¬ (9 : Int) < ((1 + n : Nat) : Int) := by omega
      obtain rfl : ([v] ++ l) = Y := by rw [← HYv.out]; simp; exact (List.take_of_length_le (by have := HL.out; omega)).symm
      obtain rfl : 1 + n = m := by rw [← HM0.out]; simp; have := HL.out; omega
      clear HYv HM0
      go_upto_region 9 with fail
      go_wp2_with (refine listStoreG rfl rfl _ _ _ rfl rfl (w.heap.size + 1) (some ⟨g4, 0, none⟩) (1 + n) c4 al rfl rfl HZ5.out ?_)
      intro w9 hput
      have HB9 : Hid (Below w.heap.size w w9) := hput.2.2.2 _ _ (Nat.le_succ _) HB5.out
      have HO9 : Hid (OwnN w9 (w.heap.size + 2) g4 (1 + n) c4 ([v] ++ l)) := hput.own HO5.out (by omega)
      obtain ⟨z0, z1, _⟩ := row2_cells hput.1
      clear hput
      go_wp2
      refine bodyPost_ret (v := .agg #[.slice (some ⟨g4, 0, none⟩) (1 + n) c4, .int .i64 al]) (by simp only [results, Try.results29]; simp [go_sem, z0, z1]) rfl ⟨g4, c4, rfl, HO9.out, HB9.out⟩
    · obtain rfl : n = 9 := by omega
      have hc4 : 10 ≤ c4 := by have := HO5.out.cap; omega
      have hc4' : 9 ≤ c4 := by omega
      have HRt : Hid (Rd w5 (some ⟨g4, 0, none⟩) ((v :: l).take 9)) := rd_take HO5.out.rd 9
      have HLt : Hid (((v :: l).take 9).length = 9) := by show _ = _; simp; have := HL.out; omega
      obtain rfl : 9 = m := by rw [← HM0.out, ← HYv.out]; exact HLt.out.symm
      have h8' : (9 : Int) < ((1 + 9 : Nat) : Int) := by omega
      have hz5 := row_lt HZ5.out
      have hQ5 := row_lt HQ5.out
      have HOn : Hid (OwnN (w5.alloc (.cells #[] 3)) (w.heap.size + 2) w5.heap.size 0 0 []) := own_new w5 _ (by omega)
      have HRn : Hid (Rd (w5.alloc (.cells #[] 3)) (some ⟨g4, 0, none⟩) ((v :: l).take 9)) := HRt.out.on (alG _ _)
      have HQn : Hid ((w5.alloc (.cells #[] 3)).heap[Q]? = some (.cells #[.slice (some ⟨g4, 0, none⟩) (1 + 9) c4, .int .i64 al] 26)) := row_on HQ5.out (alG _ _)
      have HZn : Hid ((w5.alloc (.cells #[] 3)).heap[w.heap.size + 1]? = some (.cells #[.slice none 0 0, .int .i64 0] 26)) := row_on HZ5.out (alG _ _)
      have HBn : Hid (Below w.heap.size w (w5.alloc (.cells #[] 3))) := bel_on (Nat.le_refl _) HB5.out (alG _ _)
      have qn := row2_cells HQn.out
      go_wp2_with (refine listN rfl (.tmp 27) (.tmp 30) rfl (w.heap.size + 2) w5.heap.size 0 0 [] (some ⟨g4, 0, none⟩) 9 c4 ((v :: l).take 9) rfl rfl HOn.out HLt.out (fun e => by cases e) HRn.out (by omega) (by simp; omega) ?_)
      intro g6 c6 w6 hown6 hgr6 hat6
      have b6 : ∀ m o, (w5.alloc (.cells #[] 3)).heap[m]? = some o → m ≠ w5.heap.size → w6.heap[m]? = some o := fun m o hm hne => (hgr6.block m (row_lt hm) (fun e => hne (Option.some.inj e))).trans hm
      have HQ6 : Hid (w6.heap[Q]? = some (.cells #[.slice (some ⟨g4, 0, none⟩) (1 + 9) c4, .int .i64 al] 26)) := b6 _ _ HQn.out (by omega)
      have HZ6 : Hid (w6.heap[w.heap.size + 1]? = some (.cells #[.slice none 0 0, .int .i64 0] 26)) := b6 _ _ HZn.out (by omega)
      have HB6 : Hid (Below w.heap.size w w6) := HBn.out.grown hgr6 HBn.out.size (fun k hk => by cases hk; omega)
      have HO6 : Hid (OwnN w6 (w.heap.size + 2) g6 9 c6 Y) := by
        have h := hown6
        rw [show (v :: List.take 8 l) = Y from HYv.out] at h
        exact h
      have hg6 : g6 ≠ Q ∧ w.heap.size + 2 ≤ g6 := by
        refine ⟨?_, hown6.ge⟩
        rcases hat6 with h | h
        · omega
        · (try simp at h)
          omega
      clear hown6 hgr6 hat6 b6 HQn HZn HBn HRn HOn HRt HLt HQ5 HZ5 HB5 HO5 qn q5
      go_wp2_with (refine listStoreL rfl rfl _ _ _ rfl rfl Q 0 (some ⟨g6, 0, none⟩) 9 c6 rfl rfl HQ6.out (by simp) ?_)
      intro w7 hput
      have HB7 : Hid (Below w.heap.size w w7) := hput.2.2.2 _ _ (by omega) HB6.out
      have HZ7 : Hid (w7.heap[w.heap.size + 1]? = some (.cells #[.slice none 0 0, .int .i64 0] 26)) := hput.far HZ6.out (by omega)
      have HO7 : Hid (OwnN w7 (w.heap.size + 2) g6 9 c6 Y) := hput.own HO6.out hg6.1
      have HQ7 : Hid (w7.heap[Q]? = some (.cells #[.slice (some ⟨g6, 0, none⟩) 9 c6, .int .i64 al] 26)) := hput.1
      have q7 := row2_cells HQ7.out
      clear hput HB6 HZ6 HO6 HQ6
      go_upto_region 9 with fail
      go_wp2_with (refine listStoreG rfl rfl _ _ _ rfl rfl (w.heap.size + 1) (some ⟨g6, 0, none⟩) 9 c6 al rfl rfl HZ7.out ?_)
      intro w9 hput
      have HB9 : Hid (Below w.heap.size w w9) := hput.2.2.2 _ _ (Nat.le_succ _) HB7.out
      have HO9 : Hid (OwnN w9 (w.heap.size + 2) g6 9 c6 Y) := hput.own HO7.out (by omega)
      obtain ⟨z0, z1, _⟩ := row2_cells hput.1
      clear hput
      go_wp2
      refine bodyPost_ret (v := .agg #[.slice (some ⟨g6, 0, none⟩) 9 c6, .int .i64 al]) (by simp only [results, Try.results29]; simp [go_sem, z0, z1]) rfl ⟨g6, c6, rfl, HO9.out, HB9.out⟩
end Go.Proofs.Ytgpdkodnggpkeaa
