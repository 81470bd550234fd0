/-
  Lists of rules: a whole block of them, copied, compared, sized, come in.
-/
import Derived.Test.YtfdhcchakoldpaaRul9
import Derived.Deep.Slices
import Derived.OpenShut
namespace Go.Proofs.Ytfdhcchakoldpaa
open Go.ChangeShapes Go.WideShapes Go.ChangeAt Go.RowKit Go.PlainAid
set_option linter.unusedVariables false

theorem rulV_set : ∀ (l : List Rule) (j : Nat) (f s t : Int), (((rulV l).set (j * 3) (.int .i64 f)).set (j * 3 + 1) (.int .i64 s)).set (j * 3 + 2) (.int .i64 t) = rulV (l.set j (f, s, t))
  | [], j, f, s, t => by simp [rulV]
  | r :: l, 0, f, s, t => by simp [rulV]
  | r :: l, j + 1, f, s, t => by
    have := rulV_set l j f s t
    rw [show (j + 1) * 3 = j * 3 + 1 + 1 + 1 by omega, show j * 3 + 1 + 1 + 1 + 2 = j * 3 + 2 + 1 + 1 + 1 by omega]
    simpa [rulV] using this
/-- a block that is a list of rules, whole -/
def RowU (w : World) (g : Nat) (l : List Rule) : Prop := w.heap[g]? = some (.cells (rulV l).toArray 182 (0, 0))
theorem RowU.lt {w : World} {g : Nat} {l : List Rule} (h : RowU w g l) : g < w.heap.size := row_lt h
theorem RowU.on {w w' : World} {g : Nat} {l : List Rule} (h : RowU w g l) (hb : Below w.heap.size w w') : RowU w' g l := row_after h hb (row_lt h)
theorem RowU.cell {w : World} {g : Nat} {l : List Rule} (h : RowU w g l) (j : Nat) (hj : j < l.length) : w.cell? ⟨g, j * 3, none⟩ = some (.int .i64 l[j].1) ∧ w.cell? ⟨g, j * 3 + 1, none⟩ = some (.int .i64 l[j].2.1) ∧ w.cell? ⟨g, j * 3 + 2, none⟩ = some (.int .i64 l[j].2.2) := by
  have := rulV_at l j hj
  rw [cell_of_row w g (j * 3) _ _ (0, 0) h, cell_of_row w g (j * 3 + 1) _ _ (0, 0) h, cell_of_row w g (j * 3 + 2) _ _ (0, 0) h]
  simpa using this
theorem RowU.free {w : World} {g : Nat} {l : List Rule} (h : RowU w g l) (j : Nat) : w.frozen? ⟨g, j, none⟩ = false := frozen_of_row w g j _ _ h
theorem RowU.rd {w : World} {g : Nat} {l : List Rule} (h : RowU w g l) : RdU w (some ⟨g, 0, none⟩) l := fun _ => ⟨g, 0, rfl, fun j hj => by rw [Nat.zero_add]; exact h.cell j hj⟩
theorem RowU.set {w : World} {g : Nat} {l : List Rule} (h : RowU w g l) (j : Nat) (f s t : Int) : RowU (((w.setCell ⟨g, j * 3, none⟩ (.int .i64 f)).setCell ⟨g, j * 3 + 1, none⟩ (.int .i64 s)).setCell ⟨g, j * 3 + 2, none⟩ (.int .i64 t)) g (l.set j (f, s, t)) := by
  unfold RowU at h ⊢
  have h1 := heap_setCell_same w g (j * 3) _ _ (.int .i64 f) h
  have h2 := heap_setCell_same _ g (j * 3 + 1) _ _ (.int .i64 s) h1
  rw [heap_setCell_same _ g (j * 3 + 2) _ _ (.int .i64 t) h2, ← rulV_set]
  simp
theorem rulV_zero (n : Nat) : madeCells #[.int .i64 0, .int .i64 0, .int .i64 0] (n * 3) = (rulV (List.replicate n (0, 0, 0))).toArray := by
  apply Array.ext
  · simp [madeCells, rulV_len]
  · intro j h1 h2
    have hj : j < n * 3 := by simpa [madeCells] using h1
    have h0 : j / 3 < n := by omega
    have hr := rulV_at (List.replicate n ((0, 0, 0) : Rule)) (j / 3) (by simpa using h0)
    have h3 : j % 3 = 0 ∨ j % 3 = 1 ∨ j % 3 = 2 := by omega
    have hz : (rulV (List.replicate n ((0, 0, 0) : Rule)))[j]? = some (.int .i64 0) := by
      rcases h3 with e | e | e
      · have := hr.1
        rw [show j / 3 * 3 = j by omega] at this
        simpa using this
      · have := hr.2.1
        rw [show j / 3 * 3 + 1 = j by omega] at this
        simpa using this
      · have := hr.2.2
        rw [show j / 3 * 3 + 2 = j by omega] at this
        simpa using this
    have hl : (madeCells #[Value.int .i64 0, .int .i64 0, .int .i64 0] (n * 3))[j] = .int .i64 0 := by
      rcases h3 with e | e | e <;> simp [madeCells, e]
    rw [hl]
    have hj2 : j < (rulV (List.replicate n ((0, 0, 0) : Rule))).length := by simpa using h2
    rw [List.getElem?_eq_getElem hj2] at hz
    simpa using (Option.some.inj hz).symm
theorem makeU (n : Nat) (hn : n ≤ 1048576) (w : World) : (Instr.makeSlice 27 (.int .i64 n) (.int .i64 n)).run Try.prog w = .ok (.slice (some ⟨w.heap.size, 0, none⟩) n n) (w.alloc (.cells (rulV (List.replicate n (0, 0, 0))).toArray 182)) := by
  obtain ⟨i0, hi, hz0, hz1, hz2⟩ := info_parts infoU
  have h := run_make (P := Try.prog) w 27 182 i0 _ Try.underlying27 hi hz0 .i64 .i64 n n (by omega) (Int.le_refl _) (by rw [hz2]; omega) (by omega)
  rw [hz1, Int.toNat_natCast, show (Value.agg #[.int .i64 0, .int .i64 0, .int .i64 0]).cells = #[.int .i64 0, .int .i64 0, .int .i64 0] from rfl, rulV_zero] at h
  exact h
theorem toU (f s t : Int) (w : World) : Calls Try.prog 177 #[.agg #[.int .i64 f, .int .i64 s, .int .i64 t]] w fun e w' => e = .returned (.agg #[.int .i64 f, .int .i64 s, .int .i64 t]) ∧ Below w.heap.size w w' := by
  go_enter Try.func177, Try.ntmps177
  go_wp2
  refine bodyPost_ret (v := .agg #[.int .i64 f, .int .i64 s, .int .i64 t]) (by simp [results, Try.results177, go_sem]) rfl ⟨rfl, ?_⟩
  exact (((Below.refl _ _).alloc (Nat.le_refl _) _).alloc (by simp) _).alloc (by simp; omega) _
/-- the first j copied, the rest still 0 -/
def uptoC (l : List Rule) (n j : Nat) : List Rule := l.take j ++ List.replicate (n - j) (0, 0, 0)
theorem uptoC_zero (l : List Rule) (n : Nat) : uptoC l n 0 = List.replicate n (0, 0, 0) := by simp [uptoC]
theorem uptoC_len {l : List Rule} {n j : Nat} (hl : l.length = n) (h : j ≤ n) : (uptoC l n j).length = n := by simp [uptoC]; omega
theorem uptoC_all {l : List Rule} {n : Nat} (hl : l.length = n) : uptoC l n n = l := by simp [uptoC]; exact List.take_of_length_le (by omega)
theorem uptoC_set {l : List Rule} {n j : Nat} (hl : l.length = n) (h : j < n) (hj : j < l.length) : (uptoC l n j).set j l[j] = uptoC l n (j + 1) := by
  have h1 : (l.take j).length = j := by simp; omega
  unfold uptoC
  obtain ⟨m, hm⟩ : ∃ m, n - j = m + 1 := ⟨n - j - 1, by omega⟩
  rw [hm, show n - (j + 1) = m by omega, List.replicate_succ, List.set_append_right _ _ (by omega), h1, Nat.sub_self, List.set_cons_zero, List.take_succ_eq_append_getElem hj, List.append_assoc]
  rfl
set_option maxRecDepth 100000 in
set_option maxHeartbeats 1000000 in
theorem toUs (a : Option Addr) (l : List Rule) (n cap : Nat) (hl : l.length = n) (hn : n ≤ 1048576) (w : World) (hr : RdU w a l) :
    Calls Try.prog 121 #[.slice a n cap] w fun e w' => e = .returned (.slice (some ⟨w.heap.size, 0, none⟩) n n) ∧ RowU w' w.heap.size l ∧ Below w.heap.size w w' := by
  have HL : Hid (l.length = n) := hl
  have HW0 : Hid (Below w.heap.size w (w.alloc (.cells (rulV (List.replicate n (0, 0, 0))).toArray 182))) := (Below.refl w.heap.size w).alloc (Nat.le_refl _) _
  have HROW0 : Hid (RowU (w.alloc (.cells (rulV (List.replicate n (0, 0, 0))).toArray 182)) w.heap.size (uptoC l n 0)) := by rw [uptoC_zero]; exact heap_new w _
  have hmk := makeU n hn
  clear hl
  by_cases hp : 0 < n
  · obtain ⟨g, off, rfl, hc⟩ := hr (by have := HL.out; omega)
    have HC : Hid (∀ j (h : j < l.length), w.cell? ⟨g, off + j * 3, none⟩ = some (.int .i64 l[j].1) ∧ w.cell? ⟨g, off + j * 3 + 1, none⟩ = some (.int .i64 l[j].2.1) ∧ w.cell? ⟨g, off + j * 3 + 2, none⟩ = some (.int .i64 l[j].2.2)) := hc
    have hgl : g < w.heap.size := World.block_lt_of_cell? w ⟨g, off + 0 * 3, none⟩ (hc 0 (by have := HL.out; omega)).1
    clear hr hc
    go_enter Try.func121, Try.ntmps121
    go_wp2
    go_loopg [4] n (fun gk i wr => ∃ j : Nat, j + gk = n ∧ i = .int .i64 j ∧ Hid (RowU wr w.heap.size (uptoC l n j)) ∧ Hid (Below w.heap.size w wr))
    case atStart => exact ⟨0, by omega, rfl, HROW0, HW0⟩
    case round =>
      clear HROW0 HW0
      obtain ⟨j, hj, rfl, HROW, HW⟩ := hrel
      by_cases hlt : j < n
      · have hjl : j < l.length := by have := HL.out; omega
        have c0 := HC.out j hjl
        have c1 := (HW.out.cell (p := ⟨g, off + j * 3, none⟩) hgl).trans c0.1
        have c2 := (HW.out.cell (p := ⟨g, off + j * 3 + 1, none⟩) hgl).trans c0.2.1
        have c3 := (HW.out.cell (p := ⟨g, off + j * 3 + 2, none⟩) hgl).trans c0.2.2
        clear c0
        obtain ⟨f, hf⟩ : ∃ f, l[j].1 = f := ⟨_, rfl⟩
        obtain ⟨s, hs⟩ : ∃ s, l[j].2.1 = s := ⟨_, rfl⟩
        obtain ⟨t, ht⟩ : ∃ t, l[j].2.2 = t := ⟨_, rfl⟩
        rw [hf] at c1
        rw [hs] at c2
        rw [ht] at c3
        have HF : Hid ((f, s, t) = l[j]) := by rw [← hf, ← hs, ← ht]; rfl
        clear hf hs ht
        go_wp2_with fail
        refine (toU f s t _).mono ?_
        rintro e w1 ⟨rfl, hb1⟩
        have HR1 : Hid (RowU w1 w.heap.size (uptoC l n j)) := HROW.out.on hb1
        have HW1 : Hid (Below w.heap.size w w1) := HW.out.trans (hb1.mono HW.out.size)
        have hu : j < (uptoC l n j).length := by rw [uptoC_len HL.out (by omega)]; exact hlt
        have d0 := HR1.out.cell j hu
        have d1 := HR1.out.free (j * 3)
        have d2 := HR1.out.free (j * 3 + 1)
        have d3 := HR1.out.free (j * 3 + 2)
        have HR2 : Hid (RowU (((w1.setCell ⟨w.heap.size, j * 3, none⟩ (.int .i64 f)).setCell ⟨w.heap.size, j * 3 + 1, none⟩ (.int .i64 s)).setCell ⟨w.heap.size, j * 3 + 2, none⟩ (.int .i64 t)) w.heap.size (uptoC l n (j + 1))) := by
          have := HR1.out.set j f s t
          rw [HF.out, uptoC_set HL.out hlt hjl] at this
          exact this
        have HW2 : Hid (Below w.heap.size w (((w1.setCell ⟨w.heap.size, j * 3, none⟩ (.int .i64 f)).setCell ⟨w.heap.size, j * 3 + 1, none⟩ (.int .i64 s)).setCell ⟨w.heap.size, j * 3 + 2, none⟩ (.int .i64 t))) := ((HW1.out.setCell (Nat.le_refl _) _).setCell (Nat.le_refl _) _).setCell (Nat.le_refl _) _
        generalize (uptoC l n j)[j].1 = x at d0
        generalize (uptoC l n j)[j].2.1 = y at d0
        generalize (uptoC l n j)[j].2.2 = z at d0
        clear hb1 HROW HW hu HR1 HW1 c1 c2 c3
        go_wp2
        go_roundg (gk - 1)
        case measure => omega
        case rel => exact ⟨j + 1, by omega, by go_num, HR2, HW2⟩
      · obtain rfl : j = n := by omega
        have HROW' : Hid (RowU wr w.heap.size l) := by have := HROW.out; rw [uptoC_all HL.out] at this; exact this
        clear HROW
        go_wp2
        go_ret
        exact ⟨rfl, HROW'.out, HW.out⟩
  · obtain rfl : n = 0 := by omega
    have HROW' : Hid (RowU (w.alloc (.cells (rulV (List.replicate 0 (0, 0, 0))).toArray 182)) w.heap.size l) := by have := HROW0.out; rw [uptoC_all HL.out] at this; exact this
    clear hr hp HROW0
    have hmk0 : ∀ w : World, (Instr.makeSlice 27 (.int .i64 0) (.int .i64 0)).run Try.prog w = .ok (.slice (some ⟨w.heap.size, 0, none⟩) 0 0) (w.alloc (.cells (rulV (List.replicate 0 (0, 0, 0))).toArray 182)) := hmk
    clear hmk
    go_enter Try.func121, Try.ntmps121
    go_wp2
    go_rounds 1
    go_ret
    exact ⟨rfl, HROW'.out, HW0.out⟩
theorem eqU (f s t : Int) (w : World) : Calls Try.prog 183 #[.agg #[.int .i64 f, .int .i64 s, .int .i64 t], .agg #[.int .i64 f, .int .i64 s, .int .i64 t]] w fun e w' => e = .returned (.bool true) ∧ Below w.heap.size w w' := by
  go_enter Try.func183, Try.ntmps183
  go_wp2
  go_ret
  exact ⟨rfl, ((Below.refl _ _).alloc (Nat.le_refl _) _).alloc (by simp) _⟩
theorem triple_keep {w W W' : World} {b c o o' : Nat} {x y z x' y' z' : Value} (hb : Below W.heap.size W W') (h : W.cell? ⟨b, o, none⟩ = some x ∧ W.cell? ⟨b, o + 1, none⟩ = some y ∧ W.cell? ⟨b, o + 2, none⟩ = some z ∧ W.cell? ⟨c, o', none⟩ = some x' ∧ W.cell? ⟨c, o' + 1, none⟩ = some y' ∧ W.cell? ⟨c, o' + 2, none⟩ = some z' ∧ Below w.heap.size w W) :
    W'.cell? ⟨b, o, none⟩ = some x ∧ W'.cell? ⟨b, o + 1, none⟩ = some y ∧ W'.cell? ⟨b, o + 2, none⟩ = some z ∧ W'.cell? ⟨c, o', none⟩ = some x' ∧ W'.cell? ⟨c, o' + 1, none⟩ = some y' ∧ W'.cell? ⟨c, o' + 2, none⟩ = some z' ∧ Below w.heap.size w W' := by
  obtain ⟨h1, h2, h3, h4, h5, h6, h7⟩ := h
  have l1 := World.block_lt_of_cell? W ⟨b, o, none⟩ h1
  have l2 := World.block_lt_of_cell? W ⟨c, o', none⟩ h4
  exact ⟨(hb.cell (p := ⟨b, o, none⟩) l1).trans h1, (hb.cell (p := ⟨b, o + 1, none⟩) l1).trans h2, (hb.cell (p := ⟨b, o + 2, none⟩) l1).trans h3, (hb.cell (p := ⟨c, o', none⟩) l2).trans h4, (hb.cell (p := ⟨c, o' + 1, none⟩) l2).trans h5, (hb.cell (p := ⟨c, o' + 2, none⟩) l2).trans h6, h7.trans (hb.mono h7.size)⟩
set_option maxRecDepth 100000 in
set_option maxHeartbeats 1000000 in
theorem eqUs (a b : Option Addr) (l : List Rule) (n ca cb : Nat) (hl : l.length = n) (hn : n ≤ 1048576) (w : World) (ha : RdU w a l) (hb : RdU w b l) :
    Calls Try.prog 129 #[.slice a n ca, .slice b n cb] w fun e w' => e = .returned (.bool true) ∧ Below w.heap.size w w' := by
  have HL : Hid (l.length = n) := hl
  clear hl
  by_cases hp : 0 < n
  · obtain ⟨ga, oa, rfl, hca⟩ := ha (by have := HL.out; omega)
    obtain ⟨gb, ob, rfl, hcb⟩ := hb (by have := HL.out; omega)
    have HA : Hid (∀ j (h : j < l.length), w.cell? ⟨ga, oa + j * 3, none⟩ = some (.int .i64 l[j].1) ∧ w.cell? ⟨ga, oa + j * 3 + 1, none⟩ = some (.int .i64 l[j].2.1) ∧ w.cell? ⟨ga, oa + j * 3 + 2, none⟩ = some (.int .i64 l[j].2.2)) := hca
    have HB : Hid (∀ j (h : j < l.length), w.cell? ⟨gb, ob + j * 3, none⟩ = some (.int .i64 l[j].1) ∧ w.cell? ⟨gb, ob + j * 3 + 1, none⟩ = some (.int .i64 l[j].2.1) ∧ w.cell? ⟨gb, ob + j * 3 + 2, none⟩ = some (.int .i64 l[j].2.2)) := hcb
    have la : ga < w.heap.size := World.block_lt_of_cell? w ⟨ga, oa + 0 * 3, none⟩ (hca 0 (by have := HL.out; omega)).1
    have lb : gb < w.heap.size := World.block_lt_of_cell? w ⟨gb, ob + 0 * 3, none⟩ (hcb 0 (by have := HL.out; omega)).1
    clear ha hb hca hcb
    go_enter Try.func129, Try.ntmps129
    go_wp2
    go_loopg [5] n (fun gk i wr => ∃ j : Nat, j + gk = n ∧ i = .int .i64 j ∧ Hid (Below w.heap.size w wr))
    case atStart => exact ⟨0, by omega, rfl, Below.refl _ _⟩
    case round =>
      obtain ⟨j, hj, rfl, HW⟩ := hrel
      by_cases hlt : j < n
      · have hjl : j < l.length := by have := HL.out; omega
        have c0 := HA.out j hjl
        have d0 := HB.out j hjl
        have c1 := (HW.out.cell (p := ⟨ga, oa + j * 3, none⟩) la).trans c0.1
        have c2 := (HW.out.cell (p := ⟨ga, oa + j * 3 + 1, none⟩) la).trans c0.2.1
        have c3 := (HW.out.cell (p := ⟨ga, oa + j * 3 + 2, none⟩) la).trans c0.2.2
        have d1 := (HW.out.cell (p := ⟨gb, ob + j * 3, none⟩) lb).trans d0.1
        have d2 := (HW.out.cell (p := ⟨gb, ob + j * 3 + 1, none⟩) lb).trans d0.2.1
        have d3 := (HW.out.cell (p := ⟨gb, ob + j * 3 + 2, none⟩) lb).trans d0.2.2
        clear c0 d0
        generalize l[j].1 = f at *
        generalize l[j].2.1 = s at *
        generalize l[j].2.2 = t at *
        have i0 : (0 : Int) ≤ (j : Int) := by omega
        have i1 : (j : Int) < (n : Int) := by omega
        have HC : Hid (wr.cell? ⟨ga, oa + j * 3, none⟩ = some (.int .i64 f) ∧ wr.cell? ⟨ga, oa + j * 3 + 1, none⟩ = some (.int .i64 s) ∧ wr.cell? ⟨ga, oa + j * 3 + 2, none⟩ = some (.int .i64 t) ∧ wr.cell? ⟨gb, ob + j * 3, none⟩ = some (.int .i64 f) ∧ wr.cell? ⟨gb, ob + j * 3 + 1, none⟩ = some (.int .i64 s) ∧ wr.cell? ⟨gb, ob + j * 3 + 2, none⟩ = some (.int .i64 t) ∧ Below w.heap.size w wr) := ⟨c1, c2, c3, d1, d2, d3, HW.out⟩
        clear c1 c2 c3 d1 d2 d3 hjl
        go_wp2
        go_region_held3 (fun w' => w'.cell? ⟨ga, oa + j * 3, none⟩ = some (.int .i64 f) ∧ w'.cell? ⟨ga, oa + j * 3 + 1, none⟩ = some (.int .i64 s) ∧ w'.cell? ⟨ga, oa + j * 3 + 2, none⟩ = some (.int .i64 t) ∧ w'.cell? ⟨gb, ob + j * 3, none⟩ = some (.int .i64 f) ∧ w'.cell? ⟨gb, ob + j * 3 + 1, none⟩ = some (.int .i64 s) ∧ w'.cell? ⟨gb, ob + j * 3 + 2, none⟩ = some (.int .i64 t) ∧ Below w.heap.size w w') (first | (refine triple_keep (by assumption) ?_; assumption) | (exact ⟨HC.out.1, HC.out.2.1, HC.out.2.2.1, HC.out.2.2.2.1, HC.out.2.2.2.2.1, HC.out.2.2.2.2.2.1, HC.out.2.2.2.2.2.2.drew⟩)) (first | (go_at_call 183; refine (eqU f s t _).mono ?_; rintro e w2 ⟨rfl, hb2⟩))
        rename_i HH
        have HW2 : Hid (Below w.heap.size w w2) := HH.2.2.2.2.2.2
        clear HH hb2 HC HW
        go_wp2
        go_roundg (gk - 1)
        case measure => omega
        case rel => exact ⟨j + 1, by omega, by go_num, HW2⟩
      · go_wp2
        go_ret
        exact ⟨rfl, HW.out⟩
  · obtain rfl : n = 0 := by omega
    clear ha hb
    go_enter Try.func129, Try.ntmps129
    go_wp2
    go_rounds 1
    go_ret
    exact ⟨rfl, Below.refl _ _⟩
theorem szUs (a : Option Addr) (n cap : Nat) (hn : n ≤ 9223372036854775807) (w : World) : Calls Try.prog 114 #[.slice a n cap, .int .i64 1048576] w fun e w' => e = .returned (.int .i64 (if n ≤ 1048576 then 1048576 - (n : Int) else -1)) ∧ w' = w := by
  by_cases h : n ≤ 1048576
  · rw [if_pos h]
    go_enter Try.func114, Try.ntmps114
    go_wp2
    go_ret
    exact ⟨rfl, rfl⟩
  · rw [if_neg h]
    go_enter Try.func114, Try.ntmps114
    go_wp2
    go_ret
    exact ⟨rfl, rfl⟩
/-- every number of the rules is an int -/
def wfI (n : Int) : Prop := (Lit.int .i64 n).wf = true
def WfU (l : List Rule) : Prop := ∀ j (h : j < l.length), wfI l[j].1 ∧ wfI l[j].2.1 ∧ wfI l[j].2.2
/-- what the walk is told of a list of rules that came in -/
def IsRules (w : World) (a : Option Addr) (len cap : Nat) (l : List Rule) : Prop := l.length = len ∧ len ≤ cap ∧ len ≤ 9223372036854775807 ∧ RdU w a l ∧ WfU l
theorem cellsU : Try.prog.cellsOf 273 = 3 := by kernel_rfl
set_option maxRecDepth 100000 in
theorem open_rules {H : Type} {enc : TypeId × Value → H} {W : World} {base : Nat} {held : Bool} {v : Value} {d : DataW H} {ps : List MemPlace} {bs : Nat}
    (hv : Value.okWide Try.prog W .any base 78 v) (h : DataW.Trod enc Try.prog W bs (fun _ => true) held 78 v d ps) :
    ∃ a len cap l, v = .slice a len cap ∧ IsRules W a len cap l := by
  obtain ⟨a, len, cap, rfl⟩ := okWide_slice Try.underlying78 hv
  obtain ⟨fuel, hf⟩ := h
  rcases Go.Deep.open_slice Try.underlying78 hf with ⟨hcs, _⟩ | ⟨x, l, c, m, k, D, Pl, hcs, _, hl, hm, hmm, _, hcell⟩
  · simp [Value.cells] at hcs
    obtain ⟨rfl, rfl, rfl⟩ := hcs
    exact ⟨none, 0, 0, [], rfl, rfl, Nat.le_refl _, by omega, fun h => by simp at h, fun j h => by simp at h⟩
  · simp [Value.cells] at hcs
    obtain ⟨rfl, rfl, rfl⟩ := hcs
    simp at hmm
    subst hmm
    unfold maxLen at hm
    have each : ∀ i, i < len → ∃ r : Rule, W.cell? (x.add (i * 3)) = some (.int .i64 r.1) ∧ W.cell? (x.add (i * 3 + 1)) = some (.int .i64 r.2.1) ∧ W.cell? (x.add (i * 3 + 2)) = some (.int .i64 r.2.2) ∧ wfI r.1 ∧ wfI r.2.1 ∧ wfI r.2.2 := by
      intro i hi
      obtain ⟨cs', h1, h2⟩ := hcell i (by omega)
      rw [cellsU] at h1
      obtain ⟨_, hlen, hc⟩ := World.cells?_some h1
      obtain ⟨xs, kk, hk, hxy, _, hxl, hf⟩ := DataW.trod_struct Try.underlying273 h2
      match xs, hxl, cs', hlen with
      | [y0, y1, y2], _, [v0, v1, v2], _ =>
        have g0 := hf 0 _ rfl
        have g1 := hf 1 _ rfl
        have g2 := hf 2 _ rfl
        simp [cells3] at g0 g1 g2
        have e0 := hc 0 (by omega)
        have e1 := hc 1 (by omega)
        have e2 := hc 2 (by omega)
        rw [Go.Deep.add_add] at e0 e1 e2
        obtain ⟨z0, q0, _, u0⟩ := DataW.trod_int Try.underlying3 g0
        obtain ⟨z1, q1, _, u1⟩ := DataW.trod_int Try.underlying3 g1
        obtain ⟨z2, q2, _, u2⟩ := DataW.trod_int Try.underlying3 g2
        simp at q0 q1 q2
        subst q0 q1 q2
        exact ⟨(z0, z1, z2), by simpa using e0, by simpa using e1, by simpa using e2, u0, u1, u2⟩
    obtain ⟨q, hq⟩ := Go.Deep.choose_lt each
    refine ⟨some x, len, _, (List.range len).map q, rfl, by simp, hl, by omega, fun h0 => ?_, fun j hj => ?_⟩
    · have h0' : 0 < len := by simpa using h0
      obtain ⟨b, off, spot⟩ := x
      have hspot : spot = none := by simpa [Addr.add] using World.cell?_spot (hq 0 (by omega)).1
      subst hspot
      refine ⟨b, off, rfl, fun j hj => ?_⟩
      have hj' : j < len := by simpa using hj
      obtain ⟨h1, h2, h3, _⟩ := hq j hj'
      rw [add_at] at h1 h2 h3
      simp only [List.getElem_map, List.getElem_range]
      exact ⟨h1, h2, h3⟩
    · have hj' : j < len := by simpa using hj
      simp only [List.getElem_map, List.getElem_range]
      exact (hq j hj').2.2.2
end Go.Proofs.Ytfdhcchakoldpaa
