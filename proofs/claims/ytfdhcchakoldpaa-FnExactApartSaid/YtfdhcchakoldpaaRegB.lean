/-
  Lists of instructions: in memory, read, copied, compared, come in.
-/
import Derived.Test.YtfdhcchakoldpaaBase
import Derived.Laws.Rows
import Derived.Deep.OwnRows
import Derived.Deep.WholeRow
import Derived.Deep.LoopGhost
import Derived.Deep.SlicePairs
import Derived.OpenShut
namespace Go.Proofs.Ytfdhcchakoldpaa.R
open Go.ChangeShapes Go.WideShapes Go.ChangeAt Go.RowKit Go.PlainAid
set_option linter.unusedVariables false

theorem holdsI (l m n : Int) (b : Bool) (hb : decide (l ≤ n ∧ n ≤ m) = b) (w : World) : Calls Try.prog 160 #[.agg #[.int .i64 l, .int .i64 m], .int .i64 n] w fun e w' => e = .returned (.bool b) ∧ Below w.heap.size w w' := by
  go_enter Try.func160, Try.ntmps160
  by_cases h1 : l ≤ n
  · by_cases h2 : n ≤ m
    · go_wp2
      go_ret
      exact ⟨by rw [← hb, decide_eq_true ⟨h1, h2⟩]; rfl, (Below.refl _ _).alloc (Nat.le_refl _) _⟩
    · go_wp2
      go_ret
      exact ⟨by rw [← hb, decide_eq_false (fun h => by omega)]; rfl, (Below.refl _ _).alloc (Nat.le_refl _) _⟩
  · go_wp2
    go_ret
    exact ⟨by rw [← hb, decide_eq_false (fun h => by omega)]; rfl, (Below.refl _ _).alloc (Nat.le_refl _) _⟩

theorem inS (l m n : Int) (b : Bool) (hb : decide (l ≤ n ∧ n ≤ m) = b) (w : World) : Calls Try.prog 81 #[.int .i64 n, .int .i64 l, .int .i64 m] w fun e w' => e = .returned (.bool b) ∧ w' = w := by
  go_enter Try.func81, Try.ntmps81
  by_cases h1 : l ≤ n
  · by_cases h2 : n ≤ m
    · go_wp2
      go_ret
      exact ⟨by rw [← hb, decide_eq_true ⟨h1, h2⟩]; rfl, rfl⟩
    · go_wp2
      go_ret
      exact ⟨by rw [← hb, decide_eq_false (fun h => by omega)]; rfl, rfl⟩
  · go_wp2
    go_ret
    exact ⟨by rw [← hb, decide_eq_false (fun h => by omega)]; rfl, rfl⟩

theorem heap_new (w : World) (o : Obj) : (w.alloc o).heap[w.heap.size]? = some o := by
  show (w.heap.push _)[w.heap.size]? = _
  simp

theorem row_lt {w : World} {k : Nat} {o : Obj} (h : w.heap[k]? = some o) : k < w.heap.size := by
  rcases Nat.lt_or_ge k w.heap.size with h' | h'
  · exact h'
  · rw [Array.getElem?_eq_none h'] at h; cases h

/-- a block that was laid, behind what only grows -/
theorem row_after {w W' : World} {k B : Nat} {o : Obj} (h : w.heap[k]? = some o) (hb : Below B w W') (hk : k < B) : W'.heap[k]? = some o :=
  (hb.block k hk).trans h

theorem row1_cells {w : World} {k : Nat} {t : TypeId} {x : Value} (h : w.heap[k]? = some (.cells #[x] t)) :
    w.cell? ⟨k, 0, none⟩ = some x ∧ w.frozen? ⟨k, 0, none⟩ = false := by
  refine ⟨?_, ?_⟩ <;> simp [World.cell?, World.frozen?, h]

theorem row2_cells {w : World} {k : Nat} {t : TypeId} {x y : Value} (h : w.heap[k]? = some (.cells #[x, y] t)) :
    w.cell? ⟨k, 0, none⟩ = some x ∧ w.cell? ⟨k, 1, none⟩ = some y ∧ w.frozen? ⟨k, 0, none⟩ = false ∧ w.frozen? ⟨k, 1, none⟩ = false := by
  refine ⟨?_, ?_, ?_, ?_⟩ <;> simp [World.cell?, World.frozen?, h]

theorem add_at (g o j : Nat) : (⟨g, o, none⟩ : Addr).add j = ⟨g, o + j, none⟩ := by
  unfold Addr.add; split <;> simp_all
theorem own_lt {w : World} {B e z n : Nat} {v : Value} {xs : List Value} (h : w.ownsRow B e z v n xs) : ∀ g, v.ownBlock = some g → g < w.heap.size := fun k hk => (h.lt k hk).2

theorem own_ge {w : World} {B e z n : Nat} {v : Value} {xs : List Value} (h : w.ownsRow B e z v n xs) : ∀ g, v.ownBlock = some g → B ≤ g := fun k hk => (h.lt k hk).1

/-- what lies below the line stays owned -/
theorem own_keep {w w' : World} {B C e z n : Nat} {v : Value} {xs : List Value} (h : w.ownsRow B e z v n xs) (hb : Below C w w') (hlt : ∀ g, v.ownBlock = some g → g < C) : w'.ownsRow B e z v n xs := by
  refine ⟨h.1, ?_⟩
  rcases h.2 with h2 | ⟨g, cap, cur, rfl, hg, hh, h3⟩
  · exact .inl h2
  · exact .inr ⟨g, cap, cur, rfl, hg, by rw [hb.block g (hlt g rfl)]; exact hh, h3⟩

theorem own_mono {w : World} {B C e z n : Nat} {v : Value} {xs : List Value} (h : w.ownsRow B e z v n xs) (hC : C ≤ B) : w.ownsRow C e z v n xs := by
  refine ⟨h.1, ?_⟩
  rcases h.2 with h2 | ⟨g, cap, cur, rfl, hg, h3⟩
  · exact .inl h2
  · exact .inr ⟨g, cap, cur, rfl, by omega, h3⟩
theorem cells3 : Try.prog.cellsOf 3 = 1 := by kernel_rfl

theorem cellsRegion : Try.prog.cellsOf 267 = 2 := by kernel_rfl

theorem undrew {W W' : World} (h : Below W.drew.heap.size W.drew W') : Below W.heap.size W W' := ((Below.refl W.heap.size W).drew).trans h

theorem row_on {w w' : World} {k : Nat} {o : Obj} (h : w.heap[k]? = some o) (hb : Below w.heap.size w w') : w'.heap[k]? = some o := row_after h hb (row_lt h)

theorem bel_on {w W W' : World} {B : Nat} (hB : B ≤ w.heap.size) (h : Below B w W) (hb : Below W.heap.size W W') : Below B w W' := h.trans (hb.mono (Nat.le_trans hB h.size))
/-- a list of regions that is read, wherever it lies -/
def RdR (w : World) (a : Option Addr) (rl : List (Int × Int)) : Prop := 0 < rl.length → ∃ g off, a = some ⟨g, off, none⟩ ∧ ∀ j (h : j < rl.length), w.cell? ⟨g, off + j * 2, none⟩ = some (.int .i64 rl[j].1) ∧ w.cell? ⟨g, off + j * 2 + 1, none⟩ = some (.int .i64 rl[j].2)

theorem RdR.keep {w w' : World} {a : Option Addr} {rl : List (Int × Int)} {B : Nat} (h : RdR w a rl) (hb : Below B w w') (hB : w.heap.size ≤ B) : RdR w' a rl := fun h0 => by
  obtain ⟨g, off, ha, hc⟩ := h h0
  refine ⟨g, off, ha, fun j hj => ?_⟩
  obtain ⟨h1, h2⟩ := hc j hj
  have hlt := Nat.lt_of_lt_of_le (World.block_lt_of_cell? w ⟨g, off + j * 2, none⟩ h1) hB
  exact ⟨(hb.cell (p := ⟨g, off + j * 2, none⟩) hlt).trans h1, (hb.cell (p := ⟨g, off + j * 2 + 1, none⟩) hlt).trans h2⟩
def regsV : List (Int × Int) → List Value
  | [] => []
  | r :: t => .int .i64 r.1 :: .int .i64 r.2 :: regsV t
theorem regsV_len : ∀ rl : List (Int × Int), (regsV rl).length = rl.length * 2
  | [] => rfl
  | r :: t => by simp [regsV, regsV_len t]; omega
theorem regsV_append : ∀ x y : List (Int × Int), regsV (x ++ y) = regsV x ++ regsV y
  | [], y => rfl
  | r :: t, y => by simp [regsV, regsV_append t y]
theorem regsV_at : ∀ (rl : List (Int × Int)) (j : Nat) (h : j < rl.length), (regsV rl)[j * 2]? = some (.int .i64 rl[j].1) ∧ (regsV rl)[j * 2 + 1]? = some (.int .i64 rl[j].2)
  | [], j, h => by simp at h
  | r :: t, 0, h => by simp [regsV]
  | r :: t, j + 1, h => by
    have := regsV_at t j (by simpa using h)
    rw [show (j + 1) * 2 = j * 2 + 1 + 1 by omega]
    simpa [regsV] using this
theorem regsV_set : ∀ (rl : List (Int × Int)) (j : Nat) (f s : Int), ((regsV rl).set (j * 2) (.int .i64 f)).set (j * 2 + 1) (.int .i64 s) = regsV (rl.set j (f, s))
  | [], j, f, s => by simp [regsV]
  | r :: t, 0, f, s => by simp [regsV]
  | r :: t, j + 1, f, s => by
    have := regsV_set t j f s
    rw [show (j + 1) * 2 = j * 2 + 1 + 1 by omega]
    simpa [regsV] using this
theorem regsV_one : ∀ rl : List (Int × Int), ∀ v ∈ regsV rl, v.oneCell' = true
  | [], v, h => by cases h
  | r :: t, v, h => by
    rcases List.mem_cons.1 h with rfl | h
    · rfl
    · rcases List.mem_cons.1 h with rfl | h
      · rfl
      · exact regsV_one t v h
/-- a block that is a list of regions, whole -/
def RowR (w : World) (g : Nat) (rl : List (Int × Int)) : Prop := w.heap[g]? = some (.cells (regsV rl).toArray 185 (0, 0))
theorem RowR.lt {w : World} {g : Nat} {rl : List (Int × Int)} (h : RowR w g rl) : g < w.heap.size := row_lt h
theorem RowR.on {w w' : World} {g : Nat} {rl : List (Int × Int)} (h : RowR w g rl) (hb : Below w.heap.size w w') : RowR w' g rl := row_after h hb (row_lt h)
theorem RowR.cell {w : World} {g : Nat} {rl : List (Int × Int)} (h : RowR w g rl) (j : Nat) (hj : j < rl.length) : w.cell? ⟨g, j * 2, none⟩ = some (.int .i64 rl[j].1) ∧ w.cell? ⟨g, j * 2 + 1, none⟩ = some (.int .i64 rl[j].2) := by
  have := regsV_at rl j hj
  rw [cell_of_row w g (j * 2) _ _ (0, 0) h, cell_of_row w g (j * 2 + 1) _ _ (0, 0) h]
  simpa using this
theorem RowR.free {w : World} {g : Nat} {rl : List (Int × Int)} (h : RowR w g rl) (j : Nat) : w.frozen? ⟨g, j, none⟩ = false := frozen_of_row w g j _ _ h
theorem RowR.rd {w : World} {g : Nat} {rl : List (Int × Int)} (h : RowR w g rl) : RdR w (some ⟨g, 0, none⟩) rl := fun _ => ⟨g, 0, rfl, fun j hj => by rw [Nat.zero_add]; exact h.cell j hj⟩
theorem RowR.set {w : World} {g : Nat} {rl : List (Int × Int)} (h : RowR w g rl) (j : Nat) (f s : Int) : RowR ((w.setCell ⟨g, j * 2, none⟩ (.int .i64 f)).setCell ⟨g, j * 2 + 1, none⟩ (.int .i64 s)) g (rl.set j (f, s)) := by
  unfold RowR at h ⊢
  have h1 := heap_setCell_same w g (j * 2) _ _ (.int .i64 f) h
  rw [heap_setCell_same _ g (j * 2 + 1) _ _ (.int .i64 s) h1, ← regsV_set]
  simp
theorem infoR : (Try.prog.info? 185).map (fun i => (i.zero, i.size, i.bytes)) = some (some (.agg #[.int .i64 0, .int .i64 0]), 2, 16) := by kernel_rfl
theorem regsV_zero (n : Nat) : madeCells #[.int .i64 0, .int .i64 0] (n * 2) = (regsV (List.replicate n (0, 0))).toArray := by
  apply Array.ext
  · simp [madeCells, regsV_len]
  · intro j h1 h2
    have hj : j < n * 2 := by simpa [madeCells] using h1
    have h0 : j / 2 < n := by omega
    have hr := regsV_at (List.replicate n ((0, 0) : Int × Int)) (j / 2) (by simpa using h0)
    have hz : (regsV (List.replicate n ((0, 0) : Int × Int)))[j]? = some (.int .i64 0) := by
      rcases Nat.mod_two_eq_zero_or_one j with e | e
      · have := hr.1
        rw [show j / 2 * 2 = j by omega] at this
        simpa using this
      · have := hr.2
        rw [show j / 2 * 2 + 1 = j by omega] at this
        simpa using this
    have hl : (madeCells #[Value.int .i64 0, .int .i64 0] (n * 2))[j] = .int .i64 0 := by
      rcases Nat.mod_two_eq_zero_or_one j with e | e <;> simp [madeCells, e]
    rw [hl]
    have hj2 : j < (regsV (List.replicate n ((0, 0) : Int × Int))).length := by simpa using h2
    rw [List.getElem?_eq_getElem hj2] at hz
    simpa using (Option.some.inj hz).symm
theorem makeR (n : Nat) (hn : n ≤ 1048576) (w : World) : (Instr.makeSlice 24 (.int .i64 n) (.int .i64 n)).run Try.prog w = .ok (.slice (some ⟨w.heap.size, 0, none⟩) n n) (w.alloc (.cells (regsV (List.replicate n (0, 0))).toArray 185)) := by
  obtain ⟨i0, hi, hz0, hz1, hz2⟩ := info_parts infoR
  have h := run_make (P := Try.prog) w 24 185 i0 _ Try.underlying24 hi hz0 .i64 .i64 n n (by omega) (Int.le_refl _) (by rw [hz2]; omega) (by omega)
  rw [hz1, Int.toNat_natCast, show (Value.agg #[.int .i64 0, .int .i64 0]).cells = #[.int .i64 0, .int .i64 0] from rfl, regsV_zero] at h
  exact h
/-- an owned list of regions, read -/
theorem own_rdR {w : World} {B n : Nat} {v : Value} {rl : List (Int × Int)} (h : w.ownsRow B 185 2 v n (regsV rl)) : ∃ a cap, v = .slice a n cap ∧ n ≤ cap ∧ rl.length = n ∧ RdR w a rl := by
  have h' := h
  have hl : rl.length = n := by have := h.1; rw [regsV_len] at this; omega
  rcases h.2 with ⟨rfl, e⟩ | ⟨g, cap, cur, rfl, hg, hh, hnc, hcp, hcs, htake⟩
  · exact ⟨none, 0, by rw [e], by omega, hl, fun h0 => by omega⟩
  · refine ⟨_, cap, rfl, hnc, hl, fun _ => ⟨g, 0, rfl, fun j hj => ?_⟩⟩
    have hc := h'.cells rfl
    have ha := regsV_at rl j hj
    have h1 := hc _ _ ha.1
    have h2 := hc _ _ ha.2
    rw [add_at] at h1 h2
    exact ⟨h1, by rw [show 0 + j * 2 + 1 = 0 + (j * 2 + 1) by omega]; exact h2⟩
theorem own_gr {w w' : World} {B C e z n : Nat} {v : Value} {xs : List Value} (h : w.ownsRow B e z v n xs) (hg : w.grownBy w' (some C)) (hC : C < B) : w'.ownsRow B e z v n xs :=
  h.kept hg (by
    cases hv : v.ownBlock with
    | none => exact .inl rfl
    | some g => exact .inr (fun e => by cases e; have := own_ge h C hv; omega))

theorem own_emptyR (w : World) (B : Nat) (hB : B ≤ w.heap.size) : (w.alloc (.cells #[] 185)).ownsRow B 185 2 (.slice (some ⟨w.heap.size, 0, none⟩) 0 0) 0 (regsV []) :=
  ⟨rfl, Or.inr ⟨_, 0, #[], rfl, hB, by show (w.heap.push _)[w.heap.size]? = _; simp, Nat.le_refl _, by decide, rfl, rfl⟩⟩

theorem two_cellR (wr : World) (x y : Value) (a : Addr) (ha : a = ⟨wr.heap.size, 0, none⟩) : ∀ j u, [x, y][j]? = some u → (wr.alloc (.cells #[x, y] 185)).cell? (a.add j) = some u := by
  intro j u hj
  subst ha
  match j, hj with
  | 0, hj => simp at hj; subst hj; simp [Addr.add]
  | 1, hj => simp at hj; subst hj; simp [Addr.add]
theorem toR (f s : Int) (w : World) : Calls Try.prog 174 #[.agg #[.int .i64 f, .int .i64 s]] w fun e w' => e = .returned (.agg #[.int .i64 f, .int .i64 s]) ∧ Below w.heap.size w w' := by
  go_enter Try.func174, Try.ntmps174
  go_wp2
  refine bodyPost_ret (v := .agg #[.int .i64 f, .int .i64 s]) (by simp [results, Try.results174, go_sem]) rfl ⟨rfl, ?_⟩
  exact (((Below.refl _ _).alloc (Nat.le_refl _) _).alloc (by simp) _).alloc (by simp; omega) _
/-- the first j copied, the rest still 0 -/
def uptoR (l : List (Int × Int)) (n j : Nat) : List (Int × Int) := l.take j ++ List.replicate (n - j) (0, 0)
theorem uptoR_zero (l : List (Int × Int)) (n : Nat) : uptoR l n 0 = List.replicate n (0, 0) := by simp [uptoR]
theorem uptoR_len {l : List (Int × Int)} {n j : Nat} (hl : l.length = n) (h : j ≤ n) : (uptoR l n j).length = n := by simp [uptoR]; omega
theorem uptoR_all {l : List (Int × Int)} {n : Nat} (hl : l.length = n) : uptoR l n n = l := by simp [uptoR]; exact List.take_of_length_le (by omega)
theorem uptoR_set {l : List (Int × Int)} {n j : Nat} (hl : l.length = n) (h : j < n) (hj : j < l.length) : (uptoR l n j).set j l[j] = uptoR l n (j + 1) := by
  have h1 : (l.take j).length = j := by simp; omega
  unfold uptoR
  obtain ⟨m, hm⟩ : ∃ m, n - j = m + 1 := ⟨n - j - 1, by omega⟩
  rw [hm, show n - (j + 1) = m by omega, List.replicate_succ, List.set_append_right _ _ (by omega), h1, Nat.sub_self, List.set_cons_zero, List.take_succ_eq_append_getElem hj, List.append_assoc]
  rfl
set_option maxRecDepth 100000 in
set_option maxHeartbeats 1000000 in
theorem toRs (a : Option Addr) (rl : List (Int × Int)) (n cap : Nat) (hl : rl.length = n) (hn : n ≤ 1048576) (w : World) (hr : RdR w a rl) :
    Calls Try.prog 118 #[.slice a n cap] w fun e w' => e = .returned (.slice (some ⟨w.heap.size, 0, none⟩) n n) ∧ RowR w' w.heap.size rl ∧ Below w.heap.size w w' := by
  have HL : Hid (rl.length = n) := hl
  have HW0 : Hid (Below w.heap.size w (w.alloc (.cells (regsV (List.replicate n (0, 0))).toArray 185))) := (Below.refl w.heap.size w).alloc (Nat.le_refl _) _
  have HROW0 : Hid (RowR (w.alloc (.cells (regsV (List.replicate n (0, 0))).toArray 185)) w.heap.size (uptoR rl n 0)) := by rw [uptoR_zero]; exact heap_new w _
  have hmk := makeR n hn
  clear hl
  by_cases hp : 0 < n
  · obtain ⟨g, off, rfl, hc⟩ := hr (by have := HL.out; omega)
    have HC : Hid (∀ j (h : j < rl.length), w.cell? ⟨g, off + j * 2, none⟩ = some (.int .i64 rl[j].1) ∧ w.cell? ⟨g, off + j * 2 + 1, none⟩ = some (.int .i64 rl[j].2)) := hc
    have hgl : g < w.heap.size := World.block_lt_of_cell? w ⟨g, off + 0 * 2, none⟩ (hc 0 (by have := HL.out; omega)).1
    clear hr hc
    go_enter Try.func118, Try.ntmps118
    go_wp2
    go_loopg [4] n (fun gk i wr => ∃ j : Nat, j + gk = n ∧ i = .int .i64 j ∧ Hid (RowR wr w.heap.size (uptoR rl n j)) ∧ Hid (Below w.heap.size w wr))
    case atStart => exact ⟨0, by omega, rfl, HROW0, HW0⟩
    case round =>
      clear HROW0 HW0
      obtain ⟨j, hj, rfl, HROW, HW⟩ := hrel
      by_cases hlt : j < n
      · have hjl : j < rl.length := by have := HL.out; omega
        have c0 := HC.out j hjl
        have c1 := (HW.out.cell (p := ⟨g, off + j * 2, none⟩) hgl).trans c0.1
        have c2 := (HW.out.cell (p := ⟨g, off + j * 2 + 1, none⟩) hgl).trans c0.2
        clear c0
        obtain ⟨f, hf⟩ : ∃ f, rl[j].1 = f := ⟨_, rfl⟩
        obtain ⟨s, hs⟩ : ∃ s, rl[j].2 = s := ⟨_, rfl⟩
        rw [hf] at c1
        rw [hs] at c2
        have HF : Hid ((f, s) = rl[j]) := by rw [← hf, ← hs]; rfl
        clear hf hs
        go_wp2_with fail
        refine (toR f s _).mono ?_
        rintro e w1 ⟨rfl, hb1⟩
        have HR1 : Hid (RowR w1 w.heap.size (uptoR rl n j)) := HROW.out.on hb1
        have HW1 : Hid (Below w.heap.size w w1) := HW.out.trans (hb1.mono HW.out.size)
        have hu : j < (uptoR rl n j).length := by rw [uptoR_len HL.out (by omega)]; exact hlt
        have d0 := HR1.out.cell j hu
        have d1 := HR1.out.free (j * 2)
        have d2 := HR1.out.free (j * 2 + 1)
        have HR2 : Hid (RowR ((w1.setCell ⟨w.heap.size, j * 2, none⟩ (.int .i64 f)).setCell ⟨w.heap.size, j * 2 + 1, none⟩ (.int .i64 s)) w.heap.size (uptoR rl n (j + 1))) := by
          have := HR1.out.set j f s
          rw [HF.out, uptoR_set HL.out hlt hjl] at this
          exact this
        have HW2 : Hid (Below w.heap.size w ((w1.setCell ⟨w.heap.size, j * 2, none⟩ (.int .i64 f)).setCell ⟨w.heap.size, j * 2 + 1, none⟩ (.int .i64 s))) := (HW1.out.setCell (Nat.le_refl _) _).setCell (Nat.le_refl _) _
        generalize (uptoR rl n j)[j].1 = x at d0
        generalize (uptoR rl n j)[j].2 = y at d0
        clear hb1 HROW HW hu HR1 HW1 c1 c2
        go_wp2
        go_roundg (gk - 1)
        case measure => omega
        case rel => exact ⟨j + 1, by omega, by go_num, HR2, HW2⟩
      · obtain rfl : j = n := by omega
        have HROW' : Hid (RowR wr w.heap.size rl) := by have := HROW.out; rw [uptoR_all HL.out] at this; exact this
        clear HROW
        go_wp2
        go_ret
        exact ⟨rfl, HROW'.out, HW.out⟩
  · obtain rfl : n = 0 := by omega
    have HROW' : Hid (RowR (w.alloc (.cells (regsV (List.replicate 0 (0, 0))).toArray 185)) w.heap.size rl) := by have := HROW0.out; rw [uptoR_all HL.out] at this; exact this
    clear hr hp HROW0
    have hmk0 : ∀ w : World, (Instr.makeSlice 24 (.int .i64 0) (.int .i64 0)).run Try.prog w = .ok (.slice (some ⟨w.heap.size, 0, none⟩) 0 0) (w.alloc (.cells (regsV (List.replicate 0 (0, 0))).toArray 185)) := hmk
    clear hmk
    go_enter Try.func118, Try.ntmps118
    go_wp2
    go_rounds 1
    go_ret
    exact ⟨rfl, HROW'.out, HW0.out⟩
theorem eqR (f s : Int) (w : World) : Calls Try.prog 180 #[.agg #[.int .i64 f, .int .i64 s], .agg #[.int .i64 f, .int .i64 s]] w fun e w' => e = .returned (.bool true) ∧ Below w.heap.size w w' := by
  go_enter Try.func180, Try.ntmps180
  go_wp2
  go_ret
  exact ⟨rfl, ((Below.refl _ _).alloc (Nat.le_refl _) _).alloc (by simp) _⟩
theorem pair_keep {w W W' : World} {b c o o' : Nat} {x y x' y' : Value} (hb : Below W.heap.size W W') (h : W.cell? ⟨b, o, none⟩ = some x ∧ W.cell? ⟨b, o + 1, none⟩ = some y ∧ W.cell? ⟨c, o', none⟩ = some x' ∧ W.cell? ⟨c, o' + 1, none⟩ = some y' ∧ Below w.heap.size w W) :
    W'.cell? ⟨b, o, none⟩ = some x ∧ W'.cell? ⟨b, o + 1, none⟩ = some y ∧ W'.cell? ⟨c, o', none⟩ = some x' ∧ W'.cell? ⟨c, o' + 1, none⟩ = some y' ∧ Below w.heap.size w W' := by
  obtain ⟨h1, h2, h3, h4, h5⟩ := h
  have l1 := World.block_lt_of_cell? W ⟨b, o, none⟩ h1
  have l2 := World.block_lt_of_cell? W ⟨c, o', none⟩ h3
  exact ⟨(hb.cell (p := ⟨b, o, none⟩) l1).trans h1, (hb.cell (p := ⟨b, o + 1, none⟩) l1).trans h2, (hb.cell (p := ⟨c, o', none⟩) l2).trans h3, (hb.cell (p := ⟨c, o' + 1, none⟩) l2).trans h4, h5.trans (hb.mono h5.size)⟩
set_option maxRecDepth 100000 in
set_option maxHeartbeats 1000000 in
theorem eqRs (ga gb : Nat) (rl : List (Int × Int)) (n ca cb : Nat) (hl : rl.length = n) (hn : n ≤ 1048576) (w : World) (ha : RowR w ga rl) (hb : RowR w gb rl) :
    Calls Try.prog 126 #[.slice (some ⟨ga, 0, none⟩) n ca, .slice (some ⟨gb, 0, none⟩) n cb] w fun e w' => e = .returned (.bool true) ∧ Below w.heap.size w w' := by
  have HL : Hid (rl.length = n) := hl
  have HA : Hid (RowR w ga rl) := ha
  have HB : Hid (RowR w gb rl) := hb
  clear ha hb hl
  go_enter Try.func126, Try.ntmps126
  go_wp2
  go_loopg [5] n (fun gk i wr => ∃ j : Nat, j + gk = n ∧ i = .int .i64 j ∧ Hid (Below w.heap.size w wr))
  case atStart => exact ⟨0, by omega, rfl, Below.refl _ _⟩
  case round =>
    obtain ⟨j, hj, rfl, HW⟩ := hrel
    by_cases hlt : j < n
    · have hjl : j < rl.length := by have := HL.out; omega
      have c1 := (HA.out.on HW.out).cell j hjl
      have c2 := (HB.out.on HW.out).cell j hjl
      generalize rl[j].1 = f at c1 c2
      generalize rl[j].2 = s at c1 c2
      have i0 : (0 : Int) ≤ (j : Int) := by omega
      have i1 : (j : Int) < (n : Int) := by omega
      have HC : Hid (wr.cell? ⟨ga, j * 2, none⟩ = some (.int .i64 f) ∧ wr.cell? ⟨ga, j * 2 + 1, none⟩ = some (.int .i64 s) ∧ wr.cell? ⟨gb, j * 2, none⟩ = some (.int .i64 f) ∧ wr.cell? ⟨gb, j * 2 + 1, none⟩ = some (.int .i64 s) ∧ Below w.heap.size w wr) := ⟨c1.1, c1.2, c2.1, c2.2, HW.out⟩
      clear c1 c2 hjl
      go_wp2
      go_region_held3 (fun w' => w'.cell? ⟨ga, j * 2, none⟩ = some (.int .i64 f) ∧ w'.cell? ⟨ga, j * 2 + 1, none⟩ = some (.int .i64 s) ∧ w'.cell? ⟨gb, j * 2, none⟩ = some (.int .i64 f) ∧ w'.cell? ⟨gb, j * 2 + 1, none⟩ = some (.int .i64 s) ∧ Below w.heap.size w w') (first | (refine pair_keep (by assumption) ?_; assumption) | (exact ⟨HC.out.1, HC.out.2.1, HC.out.2.2.1, HC.out.2.2.2.1, HC.out.2.2.2.2.drew⟩)) (first | (go_at_call 180; refine (eqR f s _).mono ?_; rintro e w2 ⟨rfl, hb2⟩))
      rename_i HH
      have HW2 : Hid (Below w.heap.size w w2) := HH.2.2.2.2
      clear HH hb2 HC HW
      go_wp2
      go_roundg (gk - 1)
      case measure => omega
      case rel => exact ⟨j + 1, by omega, by go_num, HW2⟩
    · go_wp2
      go_ret
      exact ⟨rfl, HW.out⟩
theorem szRs (a : Option Addr) (n cap : Nat) (hn : n ≤ 9223372036854775807) (w : World) : Calls Try.prog 111 #[.slice a n cap, .int .i64 1048576] w fun e w' => e = .returned (.int .i64 (if n ≤ 1048576 then 1048576 - (n : Int) else -1)) ∧ w' = w := by
  by_cases h : n ≤ 1048576
  · rw [if_pos h]
    go_enter Try.func111, Try.ntmps111
    go_wp2
    go_ret
    exact ⟨rfl, rfl⟩
  · rw [if_neg h]
    go_enter Try.func111, Try.ntmps111
    go_wp2
    go_ret
    exact ⟨rfl, rfl⟩
/-- what the walk is told of a list of regions that came in -/
def IsRegs (w : World) (a : Option Addr) (len cap : Nat) (rl : List (Int × Int)) : Prop := rl.length = len ∧ len ≤ cap ∧ len ≤ 9223372036854775807 ∧ RdR w a rl
set_option maxRecDepth 100000 in
theorem open_regions {H : Type} {enc : TypeId × Value → H} {W : World} {base : Nat} {held : Bool} {v : Value} {d : DataW H} {ps : List MemPlace} {bs : Nat}
    (hv : Value.okWide Try.prog W .any base 75 v) (h : DataW.Trod enc Try.prog W bs (fun _ => true) held 75 v d ps) :
    ∃ a len cap rl, v = .slice a len cap ∧ IsRegs W a len cap rl := by
  obtain ⟨a, len, cap, rfl⟩ := okWide_slice Try.underlying75 hv
  obtain ⟨fuel, hf⟩ := h
  rcases Go.Deep.open_slice_pairs Try.underlying75 Try.underlying267 cellsRegion rfl rfl cells3 cells3 hf with ⟨hcs, _⟩ | ⟨x, l, c, m, k, V0, V1, D0, D1, P0, P1, hcs, _, hl, hm, hmm, _, hcell⟩
  · simp [Value.cells] at hcs
    obtain ⟨rfl, rfl, rfl⟩ := hcs
    exact ⟨none, 0, 0, [], rfl, rfl, Nat.le_refl _, by omega, fun h => by simp at h⟩
  · simp [Value.cells] at hcs
    obtain ⟨rfl, rfl, rfl⟩ := hcs
    simp at hmm
    subst hmm
    unfold maxLen at hm
    refine ⟨some x, len, _, (List.range len).map (fun i => (intOf (V0 i), intOf (V1 i))), rfl, by simp, hl, by omega, fun h0 => ?_⟩
    have h0' : 0 < len := by simpa using h0
    obtain ⟨b, off, spot⟩ := x
    have hspot : spot = none := by simpa [Addr.add] using World.cell?_spot (hcell 0 (by omega)).1
    subst hspot
    refine ⟨b, off, rfl, fun j hj => ?_⟩
    have hj' : j < len := by simpa using hj
    obtain ⟨h1, h2, h3, h4⟩ := hcell j (by omega)
    obtain ⟨z0, e0, _, _⟩ := DataW.trod_int Try.underlying3 h3
    obtain ⟨z1, e1, _, _⟩ := DataW.trod_int Try.underlying3 h4
    simp at e0 e1
    rw [add_at] at h1 h2
    rw [e0] at h1
    rw [e1] at h2
    refine ⟨?_, ?_⟩
    · rw [h1]; simp [e0, intOf]
    · rw [Nat.add_assoc, h2]; simp [e1, intOf]
end Go.Proofs.Ytfdhcchakoldpaa.R
