/-
  Machines: copies and answers: the contracts of the program's and of the specification's.
-/
import Derived.Test.YthnocibkgpofnaaCpu2
import Derived.Maps.AppendAt
namespace Go.Proofs.Ythnocibkgpofnaa
open Go.RowKit Go.PlainAid
set_option linter.unusedVariables false

/-- append onto a list of numbers that the call owns -/
theorem run_appN (W : World) (ty : TypeId) (B g n c : Nat) (l : List Int) (q : Option Addr) (m cx : Nat) (l' : List Int) (hown : OwnN W B g n c l) (hl : l'.length = m) (hq : q = none → m = 0 ∧ cx = 0) (hr : Rd W q l') (hn : n + m ≤ 3000000) (hB : B ≤ W.heap.size) :
    ∃ g' c' w', (Builtin.append_ #[23, 23] ty #[.slice (some ⟨g, 0, none⟩) n c, .slice q m cx]).run Try.prog W = .ok (.slice (some ⟨g', 0, none⟩) (n + m) c') w' ∧ OwnN w' B g' (n + m) c' (l ++ l') ∧ W.grownBy w' (some g) ∧ (g' = g ∨ g' = W.heap.size) := by
  obtain ⟨i0, hi, hz0, hz1, hz2⟩ := info_parts info3
  cases q with
  | none =>
    obtain ⟨rfl, rfl⟩ := hq rfl
    refine ⟨g, c, W, ?_, ?_, World.grownBy.refl _ _, .inl rfl⟩
    · exact run_append_owned_none (P := Try.prog) (w := W) B 23 ty 3 i0 1 Try.underlying23 hi _ n _ hown
    · rw [List.length_eq_zero_iff.1 hl, List.append_nil]; exact hown
  | some ad =>
    obtain ⟨v', w', hrun, h2, h3, h4, h5⟩ := run_append_own_at (P := Try.prog) W B 23 ty 3 i0 (.int .i64 0) 1 8 Try.underlying23 hi hz0 hz1 hz2 rfl (by decide) _ n _ hown ad m cx (intsV l') (by rw [intsV_len, hl]; simp) (fun j u hu => by
      obtain ⟨hj, rfl⟩ := intsV_at hu
      obtain ⟨b, off, ha, hc⟩ := hr (by omega)
      cases ha
      rw [add_at]
      exact hc j hj) intsV_one (by unfold maxLen; omega) (by omega) hB
    rcases h2.2 with ⟨hv, _⟩ | ⟨g', cap, cur, rfl, _⟩
    · have := h4.1 hv; simp at this
    · refine ⟨g', cap, w', hrun, ?_, h3, ?_⟩
      · unfold OwnN
        rw [show intsV (l ++ l') = intsV l ++ intsV l' by simp [intsV]]
        exact h2
      · simp [Value.ownBlock] at h5
        exact h5

theorem wpN {o : Oper} {a : Act} {K : Act → World → Prop} {Q : Exit → Act → World → Prop} (W : World) (s x : Operand)
    (ho : o.op = .call { callee := .builtin .append, args := #[s, x], argTypes := #[23, 23] }) (B g n c : Nat) (l : List Int) (q : Option Addr) (m cx : Nat) (l' : List Int)
    (hs : a.eval s = .slice (some ⟨g, 0, none⟩) n c) (hx : a.eval x = .slice q m cx) (hown : OwnN W B g n c l) (hl : l'.length = m) (hq : q = none → m = 0 ∧ cx = 0) (hr : Rd W q l') (hn : n + m ≤ 3000000) (hB : B ≤ W.heap.size)
    (h : ∀ g' c' w', OwnN w' B g' (n + m) c' (l ++ l') → W.grownBy w' (some g) → (g' = g ∨ g' = W.heap.size) → K (a.put o.dst (.slice (some ⟨g', 0, none⟩) (n + m) c')) w') : o.wp Try.prog a W K Q := by
  obtain ⟨g', c', w', hrun, h2, h3, h4⟩ := run_appN W o.type B g n c l q m cx l' hown hl hq hr hn hB
  unfold Oper.wp execOp
  simp only [ho, resolve, invoke, builtin, Sem.run_bind, Sem.run_pure, Result.andThen_ok, List.map_toArray, List.map_cons, List.map_nil, hs, hx, hrun]
  exact h g' c' w' h2 h3 h4
/-- .. in a plain region -/
theorem listN {ops : Array Oper} {rest : List Oper} {o : Oper} {a : Act} {Q : Exit → Act → World → Prop} {W : World} (hgd : o.guard = none) (s x : Operand)
    (ho : o.op = .call { callee := .builtin .append, args := #[s, x], argTypes := #[23, 23] }) (B g n c : Nat) (l : List Int) (q : Option Addr) (m cx : Nat) (l' : List Int)
    (hs : a.eval s = .slice (some ⟨g, 0, none⟩) n c) (hx : a.eval x = .slice q m cx) (hown : OwnN W B g n c l) (hl : l'.length = m) (hq : q = none → m = 0 ∧ cx = 0) (hr : Rd W q l') (hn : n + m ≤ 3000000) (hB : B ≤ W.heap.size)
    (h : ∀ g' c' w', OwnN w' B g' (n + m) c' (l ++ l') → W.grownBy w' (some g) → (g' = g ∨ g' = W.heap.size) → wpList Try.prog ops Q rest (a.put o.dst (.slice (some ⟨g', 0, none⟩) (n + m) c')) w') : wpList Try.prog ops Q (o :: rest) a W :=
  wpList_plain hgd fun _ hK => wpN W s x ho B g n c l q m cx l' hs hx hown hl hq hr hn hB fun g' c' w' h2 h3 h4 => hK _ _ (h g' c' w' h2 h3 h4)
/-- .. in a region that draws its order -/
theorem anyN {ops : Array Oper} {o : Oper} {a : Act} {K : Act → World → Prop} {Q : Exit → Act → World → Prop} {E : Prop} {W : World} (hw : Region.wanted o (yielded ops a.tmps) = true) (s x : Operand)
    (ho : o.op = .call { callee := .builtin .append, args := #[s, x], argTypes := #[23, 23] }) (B g n c : Nat) (l : List Int) (q : Option Addr) (m cx : Nat) (l' : List Int)
    (hs : a.eval s = .slice (some ⟨g, 0, none⟩) n c) (hx : a.eval x = .slice q m cx) (hown : OwnN W B g n c l) (hl : l'.length = m) (hq : q = none → m = 0 ∧ cx = 0) (hr : Rd W q l') (hn : n + m ≤ 3000000) (hB : B ≤ W.heap.size)
    (h : ∀ g' c' w', OwnN w' B g' (n + m) c' (l ++ l') → W.grownBy w' (some g) → (g' = g ∨ g' = W.heap.size) → K (a.put o.dst (.slice (some ⟨g', 0, none⟩) (n + m) c')) w') :
    if Region.wanted o (yielded ops a.tmps) = true then Oper.wp Try.prog o a W K Q else E := by
  rw [if_pos hw]
  exact wpN W s x ho B g n c l q m cx l' hs hx hown hl hq hr hn hB h

theorem box2b (w : World) (x y x' y' : Value) (t r : TypeId) :
    ((w.alloc (.cells #[x, y] t)).alloc (.cells #[x', y'] r)).heap[w.heap.size]? = some (.cells #[x, y] t) ∧ ((w.alloc (.cells #[x, y] t)).alloc (.cells #[x', y'] r)).heap[w.heap.size + 1]? = some (.cells #[x', y'] r) ∧ Below w.heap.size w ((w.alloc (.cells #[x, y] t)).alloc (.cells #[x', y'] r)) ∧ ((w.alloc (.cells #[x, y] t)).alloc (.cells #[x', y'] r)).heap.size = w.heap.size + 2 := by
  have h0 := heap_new w (.cells #[x, y] t)
  have h1 := heap_new (w.alloc (.cells #[x, y] t)) (.cells #[x', y'] r)
  refine ⟨(Below.heap_alloc _ _ _ (by simp)).trans h0, by simpa using h1, ((Below.refl _ _).alloc (Nat.le_refl _) _).alloc (by simp) _, by simp⟩

set_option maxRecDepth 100000 in
set_option maxHeartbeats 400000 in
theorem copyCI (a : Option Addr) (pc : Int) (l : List Int) (n cap : Nat) (hl : l.length = n) (hn : n ≤ 1048576) (w : World) (hr : Rd w a l) :
    Calls Try.prog 70 #[.agg #[.int .i64 pc, .slice a n cap]] w fun e w' => e = .returned (.agg #[.int .i64 pc, .slice (some ⟨w.heap.size + 2, 0, none⟩) n n]) ∧ RowAt w' (w.heap.size + 2) l ∧ Below w.heap.size w w' := by
  obtain ⟨hA, hZ, hW, hS⟩ := box2b w (.int .i64 pc) (.slice a n cap) (.int .i64 0) (.slice none 0 0) 55 55
  have HA : Hid (_ = _) := hA
  have HZ : Hid (_ = _) := hZ
  have HW : Hid (Below _ _ _) := hW
  have HS : Hid (_ = _) := hS
  have HR : Hid (Rd w a l) := hr
  have HL : Hid (l.length = n) := hl
  clear hA hZ hW hS hr hl
  go_enter Try.func70, Try.ntmps70
  go_wp2_with fail
  refine (copyI a l n cap HL.out hn _ (HR.out.keep HW.out (Nat.le_refl _))).mono ?_
  rintro e w1 ⟨rfl, hrow, hb1⟩
  rw [HS.out] at hrow hb1 ⊢
  have kx := row2_cells (row_after HA.out hb1 (by omega))
  have ky := row2_cells (row_after HZ.out hb1 (by omega))
  have HROW : Hid (RowAt w1 (w.heap.size + 2) l) := hrow
  have HW1 : Hid (Below w.heap.size w w1) := HW.out.trans (hb1.mono (by omega))
  clear hrow hb1 HA HZ HW HS HR
  go_wp2
  refine bodyPost_ret (v := .agg #[.int .i64 pc, .slice (some ⟨w.heap.size + 2, 0, none⟩) n n]) (by simp [results, Try.results70, go_sem, ky]) rfl ⟨rfl, ?_, ?_⟩
  · unfold RowAt
    rw [Below.heap_setCell _ _ _ _ (by simp), Below.heap_setCell _ _ _ _ (by simp), Below.heap_setCell _ _ _ _ (by simp)]
    exact HROW.out
  · exact ((HW1.out.setCell (by simp) _).setCell (by simp) _).setCell (by simp) _

/-- what the specification's copy holds while its region draws -/
theorem l6_set {w W : World} {x y : Value} {k i : Nat} {z : Value} (hk : w.heap.size < k) (h : W.cell? ⟨w.heap.size, 0, none⟩ = some x ∧ W.cell? ⟨w.heap.size, 1, none⟩ = some y ∧ Below w.heap.size w W) :
    (W.setCell ⟨k, i, none⟩ z).cell? ⟨w.heap.size, 0, none⟩ = some x ∧ (W.setCell ⟨k, i, none⟩ z).cell? ⟨w.heap.size, 1, none⟩ = some y ∧ Below w.heap.size w (W.setCell ⟨k, i, none⟩ z) := by
  refine ⟨?_, ?_, h.2.2.setCell (by simp; omega) _⟩
  · rw [World.cell?_of_block (w := W) (Below.heap_setCell _ _ _ _ (by simp; omega))]; exact h.1
  · rw [World.cell?_of_block (w := W) (Below.heap_setCell _ _ _ _ (by simp; omega))]; exact h.2.1
theorem l6_grown {w W W' : World} {x y : Value} {r : Nat} (h : W.cell? ⟨w.heap.size, 0, none⟩ = some x ∧ W.cell? ⟨w.heap.size, 1, none⟩ = some y ∧ Below w.heap.size w W) (hg : W.grownBy W' (some r)) (hr : w.heap.size < r) :
    W'.cell? ⟨w.heap.size, 0, none⟩ = some x ∧ W'.cell? ⟨w.heap.size, 1, none⟩ = some y ∧ Below w.heap.size w W' := by
  have hlt := World.block_lt_of_cell? W ⟨w.heap.size, 0, none⟩ h.1
  exact ⟨(hg.cell_far ⟨w.heap.size, 0, none⟩ hlt (by simp; omega)).trans h.1, (hg.cell_far ⟨w.heap.size, 1, none⟩ hlt (by simp; omega)).trans h.2.1, h.2.2.grown hg h.2.2.size (fun k hk => by cases hk; omega)⟩
theorem l6_alloc {w W : World} {x y : Value} (h : W.cell? ⟨w.heap.size, 0, none⟩ = some x ∧ W.cell? ⟨w.heap.size, 1, none⟩ = some y ∧ Below w.heap.size w W) (o : Obj) :
    (W.alloc o).cell? ⟨w.heap.size, 0, none⟩ = some x ∧ (W.alloc o).cell? ⟨w.heap.size, 1, none⟩ = some y ∧ Below w.heap.size w (W.alloc o) := by
  have hb : Below W.heap.size W (W.alloc o) := (Below.refl _ _).alloc (Nat.le_refl _) _
  exact ⟨cell_on h.1 hb, cell_on h.2.1 hb, h.2.2.alloc h.2.2.size _⟩
theorem own_new (w : World) (B : Nat) (hB : B ≤ w.heap.size) : OwnN (w.alloc (.cells #[] 3)) B w.heap.size 0 0 [] := own_built3 w B hB
theorem own_new' (w : World) (B k : Nat) (hk : k = w.heap.size) (hB : B ≤ w.heap.size) : OwnN (w.alloc (.cells #[] 3)) B k 0 0 [] := by subst hk; exact own_built3 w B hB
theorem Rd.drew {w : World} {a : Option Addr} {l : List Int} (h : Rd w a l) : Rd w.drew a l := h
theorem OwnN.drew {w : World} {B g n c : Nat} {l : List Int} (h : OwnN w B g n c l) : OwnN w.drew B g n c l := h

set_option maxRecDepth 100000 in
set_option maxHeartbeats 1000000 in
theorem copyCS (a : Option Addr) (pc : Int) (l : List Int) (n cap : Nat) (hl : l.length = n) (hn : n ≤ 1048576) (ha : a = none → n = 0 ∧ cap = 0) (w : World) (hr : Rd w a l) :
    Calls Try.prog 52 #[.agg #[.int .i64 pc, .slice a n cap]] w fun e w' => ∃ g c, e = .returned (.agg #[.int .i64 pc, .slice (some ⟨g, 0, none⟩) n c]) ∧ OwnN w' (w.heap.size + 2) g n c l ∧ Below w.heap.size w w' := by
  obtain ⟨hA, hZ, hW, hS⟩ := box2b w (.int .i64 pc) (.slice a n cap) (.int .i64 0) (.slice none 0 0) 55 55
  have HA : Hid (_ = _) := hA
  have HZ : Hid (_ = _) := hZ
  have HW : Hid (Below _ _ _) := hW
  have HS : Hid (_ = _) := hS
  have HR : Hid (Rd w a l) := hr
  have HL : Hid (l.length = n) := hl
  have HN : Hid (a = none → n = 0 ∧ cap = 0) := ha
  have HQ : Hid (_ ∧ _ ∧ _) := ⟨(row2_cells hA).1, (row2_cells hA).2.1, hW⟩
  clear hA hZ hW hS hr hl ha
  go_enter Try.func52, Try.ntmps52
  go_wp2_with fail
  generalize hW0 : (w.alloc (.cells #[.int .i64 pc, .slice a n cap] 55)).alloc (.cells #[.int .i64 0, .slice none 0 0] 55) = W0 at *
  clear hW0
  have HS2 : Hid (w.heap.size + 2 ≤ W0.heap.size) := by rw [HS.out]; exact Nat.le_refl _
  go_region_held3 (fun w' => w'.cell? ⟨w.heap.size, 0, none⟩ = some (.int .i64 pc) ∧ w'.cell? ⟨w.heap.size, 1, none⟩ = some (.slice a n cap) ∧ Below w.heap.size w w') (first | (exact HSz.out) | (exact l6_set (by omega) (l6_set (by omega) HSz.out)) | (exact l6_alloc (by assumption) _) | (exact ⟨HQ.out.1, HQ.out.2.1, HQ.out.2.2.drew⟩)) (first | (refine anyN rfl (.tmp 5) (.tmp 7) rfl (w.heap.size + 2) W0.heap.size 0 0 [] a n cap l rfl rfl (own_new W0 _ HS2.out).drew HL.out HN.out ?_ (by omega) (Nat.le_trans HS2.out (by simp)) ?_; (exact (HR.out.keep (And.right (And.right (by assumption))) (Nat.le_refl _))); intro g3 c3 w3 hown3 hgr3 hat3; have HSz : Hid (_ ∧ _ ∧ _) := l6_grown (by assumption) hgr3 (by have := HS2.out; omega); have HO3 : Hid (OwnN w3 _ _ _ _ _) := hown3; have kz := row2_cells (grown_row hgr3 ((Below.heap_alloc _ _ _ (row_lt HZ.out)).trans HZ.out) (by intro e; have := Option.some.inj e; have := HS.out; omega)); clear hown3 hgr3 hat3))
  rename_i hHeld
  have HSe : Hid (_ ∧ _ ∧ _) := hHeld
  clear hHeld
  go_wp2
  refine bodyPost_ret (v := .agg #[.int .i64 pc, .slice (some ⟨g3, 0, none⟩) n c3]) (by simp [results, Try.results52, go_sem, kz]) rfl ⟨g3, c3, rfl, ?_, HSe.out.2.2⟩
  have h := HO3.out
  have hge := h.ge
  rw [Nat.zero_add, List.nil_append] at h
  exact own_setOther (own_setOther h (fun k hk => by simp [Value.ownBlock] at hk; omega)) (fun k hk => by simp [Value.ownBlock] at hk; omega)

theorem rd_one (w : World) (y : Int) : Rd (w.alloc (.cells #[.int .i64 y] 3)) (some ⟨w.heap.size, 0, none⟩) [y] := by
  intro _
  refine ⟨w.heap.size, 0, rfl, fun j hj => ?_⟩
  have hj0 : j = 0 := by simp at hj; omega
  subst hj0
  exact (row1_cells (heap_new w (.cells #[.int .i64 y] 3))).1
theorem two_sets {w : World} {k : Nat} {t : TypeId} {x y x' y' : Value} (h : w.heap[k]? = some (.cells #[x, y] t)) : ((w.setCell ⟨k, 0, none⟩ x').setCell ⟨k, 1, none⟩ y').heap[k]? = some (.cells #[x', y'] t) := set1_row (i := 1) (set1_row (i := 0) h)
theorem set_b {w : World} {k : Nat} {t : TypeId} {x y y' : Value} (h : w.heap[k]? = some (.cells #[x, y] t)) : (w.setCell ⟨k, 1, none⟩ y').heap[k]? = some (.cells #[x, y'] t) := set1_row (i := 1) h
/-- an owned list stays behind writes into other blocks -/
theorem OwnN.set {w : World} {B g n c k i : Nat} {l : List Int} {x : Value} (h : OwnN w B g n c l) (hk : g ≠ k) : OwnN (w.setCell ⟨k, i, none⟩ x) B g n c l := own_setOther h (fun j hj => by simp [Value.ownBlock] at hj; omega)

set_option maxRecDepth 100000 in
set_option maxHeartbeats 2000000 in
theorem answerI (a : Option Addr) (pc : Int) (l : List Int) (n cap : Nat) (x : Int) (b : Bool) (hl : l.length = n) (hn : n ≤ 1048576) (hb : b = true ↔ (CpuR pc l ∧ n ≠ 8)) (w : World) (hr : Rd w a l) :
    Calls Try.prog 62 #[.agg #[.int .i64 pc, .slice a n cap], .int .i64 x] w fun e w' => ∃ g c, e = .returned (.tuple #[.agg #[.int .i64 pc, .slice (some ⟨g, 0, none⟩) (if b then n + 1 else n) c], .bool b]) ∧ OwnN w' w.heap.size g (if b then n + 1 else n) c (if b then l ++ [x % 65536] else l) ∧ Below w.heap.size w w' := by
  obtain ⟨hA, hZ, hW, hS⟩ := box2b w (.int .i64 pc) (.slice a n cap) (.int .i64 0) (.slice none 0 0) 55 55
  have HA : Hid (_ = _) := hA
  have HZ : Hid (_ = _) := hZ
  have HW : Hid (Below _ _ _) := hW
  have HS : Hid (_ = _) := hS
  have HR : Hid (Rd w a l) := hr
  have HL : Hid (l.length = n) := hl
  have HB : Hid (b = true ↔ (CpuR pc l ∧ n ≠ 8)) := hb
  obtain ⟨b0, hB0⟩ := cpu_bool pc l
  have HB0 : Hid (b0 = true ↔ CpuR pc l) := hB0
  have hm : n ≤ 9223372036854775807 := by omega
  clear hA hZ hW hS hr hl hb hB0
  go_enter Try.func62, Try.ntmps62
  go_wp2_with fail
  refine (copyCI a pc l n cap HL.out hn _ (HR.out.keep HW.out (Nat.le_refl _))).mono ?_
  rintro e w1 ⟨rfl, hrow, hb1⟩
  rw [HS.out] at hrow hb1 ⊢
  simp only [Nat.add_assoc, Nat.reduceAdd] at hrow ⊢
  have kx := row2_cells (row_after HA.out hb1 (by omega))
  have HZ1 : Hid (_ = _) := row_after HZ.out hb1 (by omega)
  have HROW : Hid (RowAt w1 (w.heap.size + 4) l) := hrow
  have HW1 : Hid (Below w.heap.size w w1) := HW.out.trans (hb1.mono (by omega))
  have HA2 : Hid (_ = _) := two_sets (x' := .int .i64 pc) (y' := .slice (some ⟨w.heap.size + 4, 0, none⟩) n n) (row_after HA.out hb1 (by omega))
  have HZ2 : Hid (_ = _) := set_other (i := 1) (x := .slice (some ⟨w.heap.size + 4, 0, none⟩) n n) (k := w.heap.size) (set_other (i := 0) (x := .int .i64 pc) (k := w.heap.size) HZ1.out (by omega)) (by omega)
  have HROW2 : Hid (RowAt _ (w.heap.size + 4) l) := set_other (i := 1) (x := .slice (some ⟨w.heap.size + 4, 0, none⟩) n n) (k := w.heap.size) (set_other (i := 0) (x := .int .i64 pc) (k := w.heap.size) HROW.out (by omega)) (by omega)
  have HW2 : Hid (Below w.heap.size w _) := (HW1.out.setCell (p := ⟨w.heap.size, 0, none⟩) (Nat.le_refl _) (.int .i64 pc)).setCell (p := ⟨w.heap.size, 1, none⟩) (Nat.le_refl _) (.slice (some ⟨w.heap.size + 4, 0, none⟩) n n)
  clear hrow hb1 HA HZ HW HS HR HROW HZ1 HW1
  go_wp2_with fail
  clear kx
  refine (cpuokI (some ⟨w.heap.size + 4, 0, none⟩) pc l n n b0 HL.out hm HB0.out _ HROW2.out.rd).mono ?_
  rintro e w2 ⟨rfl, hb2⟩
  have HA3 : Hid (_ = _) := row_on HA2.out hb2
  have HZ3 : Hid (_ = _) := row_on HZ2.out hb2
  have HROW3 : Hid (RowAt w2 (w.heap.size + 4) l) := HROW2.out.on hb2
  have HW3 : Hid (Below w.heap.size w w2) := HW2.out.trans (hb2.mono HW2.out.size)
  clear hb2 HA2 HZ2 HROW2 HW2
  have kx := row2_cells HA3.out
  have kz := row2_cells HZ3.out
  by_cases hc : CpuR pc l
  · obtain rfl : b0 = true := HB0.out.2 hc
    by_cases h8 : n = 8
    · obtain rfl : b = false := by
        cases b
        · rfl
        · exact absurd h8 (HB.out.1 rfl).2
      clear hc
      subst h8
      go_wp2
      refine bodyPost_ret (v := .tuple #[.agg #[.int .i64 pc, .slice (some ⟨w.heap.size + 4, 0, none⟩) 8 8], .bool false]) (by simp [results, Try.results62, go_sem, kz]) rfl ⟨w.heap.size + 4, 8, rfl, ?_, ?_⟩
      · exact ((HROW3.out.ownN (B := w.heap.size) (by omega) HL.out hn).set (by omega)).set (by omega)
      · exact (HW3.out.setCell (by simp) _).setCell (by simp) _
    · obtain rfl : b = true := HB.out.2 ⟨hc, h8⟩
      clear hc
      have h8' : ¬ (n : Int) = 8 := by omega
      have s2 : w.heap.size + 4 < w2.heap.size := HROW3.out.lt
      have HOWN : Hid (OwnN (w2.alloc (.cells #[.int .i64 (x % 65536)] 3)) w.heap.size (w.heap.size + 4) n n l) := (HROW3.out.ownN (B := w.heap.size) (by omega) HL.out hn).alloc _
      have HRD : Hid (Rd (w2.alloc (.cells #[.int .i64 (x % 65536)] 3)) (some ⟨w2.heap.size, 0, none⟩) [x % 65536]) := rd_one w2 _
      have HBX : Hid ((w2.alloc (.cells #[.int .i64 (x % 65536)] 3)).heap[w.heap.size]? = _) := (Below.heap_alloc _ _ _ (row_lt HA3.out)).trans HA3.out
      have HBZ : Hid ((w2.alloc (.cells #[.int .i64 (x % 65536)] 3)).heap[w.heap.size + 1]? = _) := (Below.heap_alloc _ _ _ (row_lt HZ3.out)).trans HZ3.out
      have HWW : Hid (Below w.heap.size w (w2.alloc (.cells #[.int .i64 (x % 65536)] 3))) := HW3.out.alloc HW3.out.size _
      have kx2 := row2_cells HBX.out
      go_wp2_with fail
      go_region_law (first | (go_simp; go_at_call 74; refine (wordI x _).mono ?_; rintro e w3 ⟨rfl, rfl⟩; go_wp2_with fail) | (refine anyN rfl (.tmp 19) (.tmp 22) rfl w.heap.size (w.heap.size + 4) n n l (some ⟨w2.heap.size, 0, none⟩) 1 1 [x % 65536] rfl rfl HOWN.out.drew rfl (by simp) HRD.out.drew (by omega) HWW.out.size ?_; intro g3 c3 w3 hown3 hgr3 hat3; have HO3 : Hid (OwnN w3 w.heap.size g3 (n + 1) c3 (l ++ [x % 65536])) := hown3; have HA4 : Hid (_ = _) := grown_row hgr3 HBX.out (by simp); have HZ4 : Hid (_ = _) := grown_row hgr3 HBZ.out (by simp); have HW4 : Hid (Below w.heap.size w w3) := HWW.out.drew.grown hgr3 HWW.out.size (fun k hk => by cases hk; omega); have ka := row2_cells HA4.out; have kb := row2_cells HZ4.out; have HG3 : Hid (g3 = w.heap.size + 4 ∨ g3 = w2.heap.size + 1) := (by simp at hat3; exact hat3); clear hown3 hgr3 hat3))
      all_goals
        have hne1 : g3 ≠ w.heap.size := (by have := HG3.out; omega)
        have hne2 : g3 ≠ w.heap.size + 1 := (by have := HG3.out; omega)
        clear kx kz kx2
        go_wp2
        refine bodyPost_ret (v := .tuple #[.agg #[.int .i64 pc, .slice (some ⟨g3, 0, none⟩) (n + 1) c3], .bool true]) (by simp [results, Try.results62, go_sem, kb]) rfl ⟨g3, c3, rfl, ?_, ?_⟩
        · exact ((HO3.out.set hne1).set hne2).set hne2
        · exact ((HW4.out.setCell (by simp) _).setCell (by simp) _).setCell (by simp) _
  · obtain rfl : b0 = false := by
      cases b0
      · rfl
      · exact absurd (HB0.out.1 rfl) hc
    obtain rfl : b = false := by
      cases b
      · rfl
      · exact absurd (HB.out.1 rfl).1 hc
    clear hc
    go_wp2
    refine bodyPost_ret (v := .tuple #[.agg #[.int .i64 pc, .slice (some ⟨w.heap.size + 4, 0, none⟩) n n], .bool false]) (by simp [results, Try.results62, go_sem, kz]) rfl ⟨w.heap.size + 4, n, rfl, ?_, ?_⟩
    · exact ((HROW3.out.ownN (B := w.heap.size) (by omega) HL.out hn).set (by omega)).set (by omega)
    · exact (HW3.out.setCell (by simp) _).setCell (by simp) _

theorem box_new (w : World) (x y : Value) (t : TypeId) (k : Nat) (o : Obj) (h : w.heap[k]? = some o) : (w.alloc (.cells #[x, y] t)).heap[k]? = some o := (Below.heap_alloc _ _ _ (row_lt h)).trans h

set_option maxRecDepth 100000 in
set_option maxHeartbeats 2000000 in
theorem answerS (a : Option Addr) (pc : Int) (l : List Int) (n cap : Nat) (x : Int) (b : Bool) (hl : l.length = n) (hn : n ≤ 1048576) (ha : a = none → n = 0 ∧ cap = 0) (hb : b = true ↔ (CpuR pc l ∧ n ≠ 8)) (w : World) (hr : Rd w a l) :
    Calls Try.prog 30 #[.agg #[.int .i64 pc, .slice a n cap], .int .i64 x] w fun e w' => ∃ g c, e = .returned (.tuple #[.agg #[.int .i64 pc, .slice (some ⟨g, 0, none⟩) (if b then n + 1 else n) c], .bool b]) ∧ OwnN w' w.heap.size g (if b then n + 1 else n) c (if b then l ++ [x % 65536] else l) ∧ Below w.heap.size w w' := by
  obtain ⟨hA, hZ, hW, hS⟩ := box2b w (.int .i64 pc) (.slice a n cap) (.int .i64 0) (.slice none 0 0) 55 55
  have HA : Hid (_ = _) := hA
  have HZ : Hid (_ = _) := hZ
  have HW : Hid (Below _ _ _) := hW
  have HS : Hid (_ = _) := hS
  have HR : Hid (Rd w a l) := hr
  have HL : Hid (l.length = n) := hl
  have HB : Hid (b = true ↔ (CpuR pc l ∧ n ≠ 8)) := hb
  have HN : Hid (a = none → n = 0 ∧ cap = 0) := ha
  obtain ⟨b0, hB0⟩ := cpu_bool pc l
  have HB0 : Hid (b0 = true ↔ CpuR pc l) := hB0
  have hm : n ≤ 9223372036854775807 := by omega
  clear hA hZ hW hS hr hl hb hB0 ha
  go_enter Try.func30, Try.ntmps30
  go_wp2_with fail
  refine (copyCS a pc l n cap HL.out hn HN.out _ (HR.out.keep HW.out (Nat.le_refl _))).mono ?_
  rintro e w1 ⟨g1, c1, rfl, hown1, hb1⟩
  rw [HS.out] at hown1 hb1
  have s1 : w.heap.size + 2 ≤ w1.heap.size := by have := hb1.size; rw [HS.out] at this; exact this
  have hge1 : w.heap.size + 4 ≤ g1 := hown1.ge
  have hlt1 : g1 < w1.heap.size := hown1.lt
  have HA1 : Hid (_ = _) := box_new w1 (.int .i64 pc) (.slice (some ⟨g1, 0, none⟩) n c1) 55 _ _ (row_after HA.out hb1 (by omega))
  have HZ1 : Hid (_ = _) := box_new w1 (.int .i64 pc) (.slice (some ⟨g1, 0, none⟩) n c1) 55 _ _ (row_after HZ.out hb1 (by omega))
  have HT1 : Hid (_ = _) := heap_new w1 (.cells #[.int .i64 pc, .slice (some ⟨g1, 0, none⟩) n c1] 55)
  have HO1 : Hid (OwnN (w1.alloc (.cells #[.int .i64 pc, .slice (some ⟨g1, 0, none⟩) n c1] 55)) w.heap.size g1 n c1 l) := (hown1.mono (by omega)).alloc _
  have HW1 : Hid (Below w.heap.size w (w1.alloc (.cells #[.int .i64 pc, .slice (some ⟨g1, 0, none⟩) n c1] 55))) := (HW.out.trans (hb1.mono (by omega))).alloc (by omega) _
  clear hown1 hb1 HA HZ HW HS
  have kx := row2_cells HA1.out
  go_wp2_with fail
  clear kx
  refine (cpuokS a pc l n cap b0 HL.out hm HB0.out _ (HR.out.keep HW1.out (Nat.le_refl _))).mono ?_
  rintro e w2 ⟨rfl, hb2⟩
  have s2 : w1.heap.size + 1 ≤ w2.heap.size := by have := hb2.size; simp at this; exact this
  have HA3 : Hid (_ = _) := row_on HA1.out hb2
  have HZ3 : Hid (_ = _) := row_on HZ1.out hb2
  have HT3 : Hid (_ = _) := row_on HT1.out hb2
  have HO3 : Hid (OwnN w2 w.heap.size g1 n c1 l) := HO1.out.on hb2
  have HW3 : Hid (Below w.heap.size w w2) := HW1.out.trans (hb2.mono HW1.out.size)
  clear hb2 HA1 HZ1 HT1 HO1 HW1 HR
  have kx := row2_cells HA3.out
  have kz := row2_cells HZ3.out
  have kt := row2_cells HT3.out
  have n1 : ¬ w1.heap.size = w.heap.size + 1 := by omega
  have n2 : ¬ w.heap.size + 1 = w1.heap.size := by omega
  have n3 : ¬ w1.heap.size = w.heap.size := by omega
  have n4 : ¬ w.heap.size = w1.heap.size := by omega
  by_cases hc : CpuR pc l
  · obtain rfl : b0 = true := HB0.out.2 hc
    by_cases h8 : n = 8
    · obtain rfl : b = false := by
        cases b
        · rfl
        · exact absurd h8 (HB.out.1 rfl).2
      clear hc
      subst h8
      go_wp2
      refine bodyPost_ret (v := .tuple #[.agg #[.int .i64 pc, .slice (some ⟨g1, 0, none⟩) 8 c1], .bool false]) (by simp [results, Try.results30, go_sem, kz]) rfl ⟨g1, c1, rfl, ?_, ?_⟩
      · exact (HO3.out.set (by omega)).set (by omega)
      · exact (HW3.out.setCell (by simp) _).setCell (by simp) _
    · obtain rfl : b = true := HB.out.2 ⟨hc, h8⟩
      clear hc
      have h8' : ¬ (n : Int) = 8 := by omega
      have HOWN : Hid (OwnN (w2.alloc (.cells #[.int .i64 (x % 65536)] 3)) w.heap.size g1 n c1 l) := HO3.out.alloc _
      have HRD : Hid (Rd (w2.alloc (.cells #[.int .i64 (x % 65536)] 3)) (some ⟨w2.heap.size, 0, none⟩) [x % 65536]) := rd_one w2 _
      have HBT : Hid ((w2.alloc (.cells #[.int .i64 (x % 65536)] 3)).heap[w1.heap.size]? = _) := (Below.heap_alloc _ _ _ (row_lt HT3.out)).trans HT3.out
      have HBZ : Hid ((w2.alloc (.cells #[.int .i64 (x % 65536)] 3)).heap[w.heap.size + 1]? = _) := (Below.heap_alloc _ _ _ (row_lt HZ3.out)).trans HZ3.out
      have HWW : Hid (Below w.heap.size w (w2.alloc (.cells #[.int .i64 (x % 65536)] 3))) := HW3.out.alloc HW3.out.size _
      have kx2 := row2_cells HBT.out
      go_wp2_with fail
      go_region_law (first | (go_simp; go_at_call 57; refine (modS x _).mono ?_; rintro e w3 ⟨rfl, rfl⟩; go_wp2_with fail) | (refine anyN rfl (.tmp 20) (.tmp 23) rfl w.heap.size g1 n c1 l (some ⟨w2.heap.size, 0, none⟩) 1 1 [x % 65536] rfl rfl HOWN.out.drew rfl (by simp) HRD.out.drew (by omega) HWW.out.size ?_; intro g3 c3 w3 hown3 hgr3 hat3; have HO3 : Hid (OwnN w3 w.heap.size g3 (n + 1) c3 (l ++ [x % 65536])) := hown3; have HA4 : Hid (_ = _) := grown_row hgr3 HBT.out (by simp; omega); have HZ4 : Hid (_ = _) := grown_row hgr3 HBZ.out (by simp; omega); have HW4 : Hid (Below w.heap.size w w3) := HWW.out.drew.grown hgr3 HWW.out.size (fun k hk => by cases hk; omega); have ka := row2_cells HA4.out; have kb := row2_cells HZ4.out; have HG3 : Hid (g3 = g1 ∨ g3 = w2.heap.size + 1) := (by simp at hat3; exact hat3); clear hown3 hgr3 hat3))
      all_goals
        have hne1 : g3 ≠ w1.heap.size := (by have := HG3.out; omega)
        have hne2 : g3 ≠ w.heap.size + 1 := (by have := HG3.out; omega)
        clear kx kz kx2 kt
        go_wp2
        refine bodyPost_ret (v := .tuple #[.agg #[.int .i64 pc, .slice (some ⟨g3, 0, none⟩) (n + 1) c3], .bool true]) (by simp [results, Try.results30, go_sem, kb]) rfl ⟨g3, c3, rfl, ?_, ?_⟩
        · exact ((HO3.out.set hne1).set hne2).set hne2
        · exact ((HW4.out.setCell (by simp; omega) _).setCell (by simp) _).setCell (by simp) _
  · obtain rfl : b0 = false := by
      cases b0
      · rfl
      · exact absurd (HB0.out.1 rfl) hc
    obtain rfl : b = false := by
      cases b
      · rfl
      · exact absurd (HB.out.1 rfl).1 hc
    clear hc
    go_wp2
    refine bodyPost_ret (v := .tuple #[.agg #[.int .i64 pc, .slice (some ⟨g1, 0, none⟩) n c1], .bool false]) (by simp [results, Try.results30, go_sem, kz]) rfl ⟨g1, c1, rfl, ?_, ?_⟩
    · exact (HO3.out.set (by omega)).set (by omega)
    · exact (HW3.out.setCell (by simp) _).setCell (by simp) _
end Go.Proofs.Ythnocibkgpofnaa
