/-
  The exact laws' own helpers over lists of regions: contracts; a list of regions that came in.
-/
import Derived.Test.YtjpkpgjflecoaanRegRow
import Derived.Test.YtjpkpgjflecoaanOpen
import Derived.Deep.SlicePairs
namespace Go.Proofs.Ytjpkpgjflecoaan
open Go.ChangeShapes Go.WideShapes Go.ChangeAt Go.RowKit Go.PlainAid
set_option linter.unusedVariables false

/-- the first j copied, the rest still 0 -/
def uptoR (l : List (Int × Int)) (n j : Nat) : List (Int × Int) := l.take j ++ List.replicate (n - j) (0, 0)
theorem uptoR_zero (l : List (Int × Int)) (n : Nat) : uptoR l n 0 = List.replicate n (0, 0) := by simp [uptoR]
theorem uptoR_len {l : List (Int × Int)} {n j : Nat} (hl : l.length = n) (h : j ≤ n) : (uptoR l n j).length = n := by simp [uptoR]; omega
theorem uptoR_all {l : List (Int × Int)} {n : Nat} (hl : l.length = n) : uptoR l n n = l := by simp [uptoR]; exact List.take_of_length_le (by omega)
theorem uptoR_set {l : List (Int × Int)} {n j : Nat} (hl : l.length = n) (h : j < n) (hj : j < l.length) : (uptoR l n j).set j l[j] = uptoR l n (j + 1) := by
  have h1 : (l.take j).length = j := by simp; omega
  unfold uptoR
  obtain ⟨m, hm⟩ : ∃ m, n - j = m + 1 := ⟨n - j - 1, by omega⟩
  rw [hm, show n - (j + 1) = m by omega, List.replicate_succ, List.set_append_right _ _ (by omega), h1, Nat.sub_self, List.set_cons_zero, List.take_succ_eq_append_getElem hj, List.append_assoc]
  rfl

set_option maxHeartbeats 1000000 in
theorem toRs (a : Option Addr) (rl : List (Int × Int)) (n cap : Nat) (hl : rl.length = n) (hn : n ≤ 1048576) (w : World) (hr : RdR w a rl) :
    Calls Try.prog 16 #[.slice a n cap] w fun e w' => e = .returned (.slice (some ⟨w.heap.size, 0, none⟩) n n) ∧ RowR w' w.heap.size rl ∧ Below w.heap.size w w' := by
  have HL : Hid (rl.length = n) := hl
  have HW0 : Hid (Below w.heap.size w (w.alloc (.cells (regsV (List.replicate n (0, 0))).toArray 43))) := (Below.refl w.heap.size w).alloc (Nat.le_refl _) _
  have HROW0 : Hid (RowR (w.alloc (.cells (regsV (List.replicate n (0, 0))).toArray 43)) w.heap.size (uptoR rl n 0)) := by rw [uptoR_zero]; exact heap_new w _
  have hmk := makeR n hn
  clear hl
  by_cases hp : 0 < n
  · obtain ⟨g, off, rfl, hc⟩ := hr (by have := HL.out; omega)
    have HC : Hid (∀ j (h : j < rl.length), w.cell? ⟨g, off + j * 2, none⟩ = some (.int .i64 rl[j].1) ∧ w.cell? ⟨g, off + j * 2 + 1, none⟩ = some (.int .i64 rl[j].2)) := hc
    have hgl : g < w.heap.size := World.block_lt_of_cell? w ⟨g, off + 0 * 2, none⟩ (hc 0 (by have := HL.out; omega)).1
    clear hr hc
    go_enter Try.func16, Try.ntmps16
    go_wp2
    go_loopg [4] n (fun gk i wr => ∃ j : Nat, j + gk = n ∧ i = .int .i64 j ∧ Hid (RowR wr w.heap.size (uptoR rl n j)) ∧ Hid (Below w.heap.size w wr))
    case atStart => exact ⟨0, by omega, rfl, HROW0, HW0⟩
    case round =>
      clear HROW0 HW0
      obtain ⟨j, hj, rfl, HROW, HW⟩ := hrel
      by_cases hlt : j < n
      · have hjl : j < rl.length := by have := HL.out; omega
        have c0 := HC.out j hjl
        have c1 := (HW.out.cell (p := ⟨g, off + j * 2, none⟩) hgl).trans c0.1
        have c2 := (HW.out.cell (p := ⟨g, off + j * 2 + 1, none⟩) hgl).trans c0.2
        clear c0
        obtain ⟨f, hf⟩ : ∃ f, rl[j].1 = f := ⟨_, rfl⟩
        obtain ⟨s, hs⟩ : ∃ s, rl[j].2 = s := ⟨_, rfl⟩
        rw [hf] at c1
        rw [hs] at c2
        have HF : Hid ((f, s) = rl[j]) := by rw [← hf, ← hs]; rfl
        clear hf hs
        go_wp2_with fail
        refine (toR f s _).mono ?_
        rintro e w1 ⟨rfl, hb1⟩
        have HR1 : Hid (RowR w1 w.heap.size (uptoR rl n j)) := HROW.out.on hb1
        have HW1 : Hid (Below w.heap.size w w1) := HW.out.trans (hb1.mono HW.out.size)
        have hu : j < (uptoR rl n j).length := by rw [uptoR_len HL.out (by omega)]; exact hlt
        have d0 := HR1.out.cell j hu
        have d1 := HR1.out.free (j * 2)
        have d2 := HR1.out.free (j * 2 + 1)
        have HR2 : Hid (RowR ((w1.setCell ⟨w.heap.size, j * 2, none⟩ (.int .i64 f)).setCell ⟨w.heap.size, j * 2 + 1, none⟩ (.int .i64 s)) w.heap.size (uptoR rl n (j + 1))) := by
          have := HR1.out.set j f s
          rw [HF.out, uptoR_set HL.out hlt hjl] at this
          exact this
        have HW2 : Hid (Below w.heap.size w ((w1.setCell ⟨w.heap.size, j * 2, none⟩ (.int .i64 f)).setCell ⟨w.heap.size, j * 2 + 1, none⟩ (.int .i64 s))) := (HW1.out.setCell (Nat.le_refl _) _).setCell (Nat.le_refl _) _
        generalize (uptoR rl n j)[j].1 = x at d0
        generalize (uptoR rl n j)[j].2 = y at d0
        clear hb1 HROW HW hu HR1 HW1 c1 c2
        go_wp2
        go_roundg (gk - 1)
        case measure => omega
        case rel => exact ⟨j + 1, by omega, by go_num, HR2, HW2⟩
      · obtain rfl : j = n := by omega
        have HROW' : Hid (RowR wr w.heap.size rl) := by have := HROW.out; rw [uptoR_all HL.out] at this; exact this
        clear HROW
        go_wp2
        go_ret
        exact ⟨rfl, HROW'.out, HW.out⟩
  · obtain rfl : n = 0 := by omega
    have HROW' : Hid (RowR (w.alloc (.cells (regsV (List.replicate 0 (0, 0))).toArray 43)) w.heap.size rl) := by have := HROW0.out; rw [uptoR_all HL.out] at this; exact this
    clear hr hp HROW0
    have hmk0 : ∀ w : World, (Instr.makeSlice 32 (.int .i64 0) (.int .i64 0)).run Try.prog w = .ok (.slice (some ⟨w.heap.size, 0, none⟩) 0 0) (w.alloc (.cells (regsV (List.replicate 0 (0, 0))).toArray 43)) := hmk
    clear hmk
    go_enter Try.func16, Try.ntmps16
    go_wp2
    go_rounds 1
    go_ret
    exact ⟨rfl, HROW'.out, HW0.out⟩

theorem eqR (f s : Int) (w : World) : Calls Try.prog 37 #[.agg #[.int .i64 f, .int .i64 s], .agg #[.int .i64 f, .int .i64 s]] w fun e w' => e = .returned (.bool true) ∧ Below w.heap.size w w' := by
  go_enter Try.func37, Try.ntmps37
  go_wp2
  go_ret
  exact ⟨rfl, ((Below.refl _ _).alloc (Nat.le_refl _) _).alloc (by simp) _⟩

theorem pair_keep {w W W' : World} {b c o o' : Nat} {x y x' y' : Value} (hb : Below W.heap.size W W') (h : W.cell? ⟨b, o, none⟩ = some x ∧ W.cell? ⟨b, o + 1, none⟩ = some y ∧ W.cell? ⟨c, o', none⟩ = some x' ∧ W.cell? ⟨c, o' + 1, none⟩ = some y' ∧ Below w.heap.size w W) :
    W'.cell? ⟨b, o, none⟩ = some x ∧ W'.cell? ⟨b, o + 1, none⟩ = some y ∧ W'.cell? ⟨c, o', none⟩ = some x' ∧ W'.cell? ⟨c, o' + 1, none⟩ = some y' ∧ Below w.heap.size w W' := by
  obtain ⟨h1, h2, h3, h4, h5⟩ := h
  have l1 := World.block_lt_of_cell? W ⟨b, o, none⟩ h1
  have l2 := World.block_lt_of_cell? W ⟨c, o', none⟩ h3
  exact ⟨(hb.cell (p := ⟨b, o, none⟩) l1).trans h1, (hb.cell (p := ⟨b, o + 1, none⟩) l1).trans h2, (hb.cell (p := ⟨c, o', none⟩) l2).trans h3, (hb.cell (p := ⟨c, o' + 1, none⟩) l2).trans h4, h5.trans (hb.mono h5.size)⟩

set_option maxHeartbeats 1000000 in
theorem eqRs (ga gb : Nat) (rl : List (Int × Int)) (n ca cb : Nat) (hl : rl.length = n) (hn : n ≤ 1048576) (w : World) (ha : RowR w ga rl) (hb : RowR w gb rl) :
    Calls Try.prog 18 #[.slice (some ⟨ga, 0, none⟩) n ca, .slice (some ⟨gb, 0, none⟩) n cb] w fun e w' => e = .returned (.bool true) ∧ Below w.heap.size w w' := by
  have HL : Hid (rl.length = n) := hl
  have HA : Hid (RowR w ga rl) := ha
  have HB : Hid (RowR w gb rl) := hb
  clear ha hb hl
  go_enter Try.func18, Try.ntmps18
  go_wp2
  go_loopg [5] n (fun gk i wr => ∃ j : Nat, j + gk = n ∧ i = .int .i64 j ∧ Hid (Below w.heap.size w wr))
  case atStart => exact ⟨0, by omega, rfl, Below.refl _ _⟩
  case round =>
    obtain ⟨j, hj, rfl, HW⟩ := hrel
    by_cases hlt : j < n
    · have hjl : j < rl.length := by have := HL.out; omega
      have c1 := (HA.out.on HW.out).cell j hjl
      have c2 := (HB.out.on HW.out).cell j hjl
      generalize rl[j].1 = f at c1 c2
      generalize rl[j].2 = s at c1 c2
      have i0 : (0 : Int) ≤ (j : Int) := by omega
      have i1 : (j : Int) < (n : Int) := by omega
      have HC : Hid (wr.cell? ⟨ga, j * 2, none⟩ = some (.int .i64 f) ∧ wr.cell? ⟨ga, j * 2 + 1, none⟩ = some (.int .i64 s) ∧ wr.cell? ⟨gb, j * 2, none⟩ = some (.int .i64 f) ∧ wr.cell? ⟨gb, j * 2 + 1, none⟩ = some (.int .i64 s) ∧ Below w.heap.size w wr) := ⟨c1.1, c1.2, c2.1, c2.2, HW.out⟩
      clear c1 c2 hjl
      go_wp2
      go_region_held3 (fun w' => w'.cell? ⟨ga, j * 2, none⟩ = some (.int .i64 f) ∧ w'.cell? ⟨ga, j * 2 + 1, none⟩ = some (.int .i64 s) ∧ w'.cell? ⟨gb, j * 2, none⟩ = some (.int .i64 f) ∧ w'.cell? ⟨gb, j * 2 + 1, none⟩ = some (.int .i64 s) ∧ Below w.heap.size w w') (first | (refine pair_keep (by assumption) ?_; assumption) | (exact ⟨HC.out.1, HC.out.2.1, HC.out.2.2.1, HC.out.2.2.2.1, HC.out.2.2.2.2.drew⟩)) (first | (go_at_call 37; refine (eqR f s _).mono ?_; rintro e w2 ⟨rfl, hb2⟩))
      rename_i HH
      have HW2 : Hid (Below w.heap.size w w2) := HH.2.2.2.2
      clear HH hb2 HC HW
      go_wp2
      go_roundg (gk - 1)
      case measure => omega
      case rel => exact ⟨j + 1, by omega, by go_num, HW2⟩
    · go_wp2
      go_ret
      exact ⟨rfl, HW.out⟩

theorem szRs (a : Option Addr) (n cap : Nat) (hn : n ≤ 9223372036854775807) (w : World) : Calls Try.prog 14 #[.slice a n cap, .int .i64 1048576] w fun e w' => e = .returned (.int .i64 (if n ≤ 1048576 then 1048576 - (n : Int) else -1)) ∧ w' = w := by
  by_cases h : n ≤ 1048576
  · rw [if_pos h]
    go_enter Try.func14, Try.ntmps14
    go_wp2
    go_ret
    exact ⟨rfl, rfl⟩
  · rw [if_neg h]
    go_enter Try.func14, Try.ntmps14
    go_wp2
    go_ret
    exact ⟨rfl, rfl⟩

/-- what the walk is told of a list of regions that came in -/
def IsRegs (w : World) (a : Option Addr) (len cap : Nat) (rl : List (Int × Int)) : Prop := rl.length = len ∧ len ≤ cap ∧ len ≤ 9223372036854775807 ∧ RdR w a rl

theorem open_regions {H : Type} {enc : TypeId × Value → H} {W : World} {base : Nat} {held : Bool} {v : Value} {d : DataW H} {ps : List MemPlace} {bs : Nat}
    (hv : Value.okWide Try.prog W .any base 29 v) (h : DataW.Trod enc Try.prog W bs (fun _ => true) held 29 v d ps) :
    ∃ a len cap rl, v = .slice a len cap ∧ IsRegs W a len cap rl := by
  obtain ⟨a, len, cap, rfl⟩ := okWide_slice Try.underlying29 hv
  obtain ⟨fuel, hf⟩ := h
  rcases Go.Deep.open_slice_pairs Try.underlying29 Try.underlying38 cellsRegion rfl rfl cells3 cells3 hf with ⟨hcs, _⟩ | ⟨x, l, c, m, k, V0, V1, D0, D1, P0, P1, hcs, _, hl, hm, hmm, _, hcell⟩
  · simp [Value.cells] at hcs
    obtain ⟨rfl, rfl, rfl⟩ := hcs
    exact ⟨none, 0, 0, [], rfl, rfl, Nat.le_refl _, by omega, fun h => by simp at h⟩
  · simp [Value.cells] at hcs
    obtain ⟨rfl, rfl, rfl⟩ := hcs
    simp at hmm
    subst hmm
    unfold maxLen at hm
    refine ⟨some x, len, _, (List.range len).map (fun i => (intOf (V0 i), intOf (V1 i))), rfl, by simp, hl, by omega, fun h0 => ?_⟩
    have h0' : 0 < len := by simpa using h0
    obtain ⟨b, off, spot⟩ := x
    have hspot : spot = none := by simpa [Addr.add] using World.cell?_spot (hcell 0 (by omega)).1
    subst hspot
    refine ⟨b, off, rfl, fun j hj => ?_⟩
    have hj' : j < len := by simpa using hj
    obtain ⟨h1, h2, h3, h4⟩ := hcell j (by omega)
    obtain ⟨z0, e0, _, _⟩ := DataW.trod_int Try.underlying3 h3
    obtain ⟨z1, e1, _, _⟩ := DataW.trod_int Try.underlying3 h4
    simp at e0 e1
    rw [add_at] at h1 h2
    rw [e0] at h1
    rw [e1] at h2
    refine ⟨?_, ?_⟩
    · rw [h1]; simp [e0, intOf]
    · rw [Nat.add_assoc, h2]; simp [e1, intOf]
end Go.Proofs.Ytjpkpgjflecoaan
