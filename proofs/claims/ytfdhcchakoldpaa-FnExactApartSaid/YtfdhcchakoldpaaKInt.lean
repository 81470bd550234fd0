/-
  Lists of numbers, as laws compare, copy and mark them.
-/
import Derived.Test.YtfdhcchakoldpaaInts
import Derived.Test.YtfdhcchakoldpaaLineW
import Derived.Test.YtfdhcchakoldpaaLst11
import Derived.Deep.Slices
namespace Go.Proofs.Ytfdhcchakoldpaa.C
open Go.ChangeShapes Go.WideShapes Go.ChangeAt Go.RowKit Go.PlainAid
set_option linter.unusedVariables false

theorem made_ints (n : Nat) : madeCells #[.int .i64 0] n = (intsV (List.replicate n 0)).toArray := by
  apply Array.ext
  · simp [madeCells, intsV]
  · intro j h1 h2
    simp [madeCells, intsV, Nat.mod_one]

set_option maxRecDepth 100000 in
set_option maxHeartbeats 400000 in
theorem eqInts (a b : Option Addr) (l : List Int) (n ca cb : Nat) (hl : l.length = n) (hn : n ≤ 1048576) (w : World) (ha : Rd w a l) (hb : Rd w b l) :
    Calls Try.prog 74 #[.slice a n ca, .slice b n cb] w fun e w' => e = .returned (.bool true) ∧ Below w.heap.size w w' := by
  by_cases hp : 0 < n
  · obtain ⟨g, o1, rfl, hcg⟩ := ha (by omega)
    obtain ⟨h, o2, rfl, hch⟩ := hb (by omega)
    have HA : Hid (∀ j (hj : j < l.length), w.cell? ⟨g, o1 + j, none⟩ = some (.int .i64 l[j])) := hcg
    have HB : Hid (∀ j (hj : j < l.length), w.cell? ⟨h, o2 + j, none⟩ = some (.int .i64 l[j])) := hch
    have HL : Hid (l.length = n) := hl
    clear ha hb hcg hch hl
    go_enter Try.func74, Try.ntmps74
    go_wp2
    go_loopw [5] (fun i wr => ∃ (j q : Nat), j ≤ n ∧ i = .int .i64 j ∧ wr = w.drewN q) (fun i _ => n - (intOf i).toNat)
    case atStart => exact ⟨0, 0, Nat.zero_le _, rfl, rfl⟩
    case round =>
      obtain ⟨j, q, hj, rfl, rfl⟩ := hrel
      by_cases hlt : j < n
      · have c1 := HA.out j (by have := HL.out; omega)
        have c2 := HB.out j (by have := HL.out; omega)
        generalize l[j]'(by have := HL.out; omega) = x at c1 c2
        have i0 : (0 : Int) ≤ (j : Int) := by omega
        have i1 : (j : Int) < (n : Int) := by omega
        go_wp2
        go_quiet (fail)
        go_wp2
        go_roundw
        case rel => exact ⟨j + 1, q + nq, by omega, by go_num, rfl⟩
        case measure => simp [intOf]; omega
      · go_wp2
        go_ret
        exact ⟨rfl, below_drewN (Below.refl _ _) _⟩
  · obtain rfl : n = 0 := by omega
    clear ha hb hp
    go_enter Try.func74, Try.ntmps74
    go_wp2
    go_rounds 1
    go_ret
    exact ⟨rfl, Below.refl _ _⟩
theorem eqA (a b : Option Addr) (l : List Int) (n ca cb : Nat) (hl : l.length = n) (hn : n ≤ 1048576) (w : World) (ha : Rd w a l) (hb : Rd w b l) :
    Calls Try.prog 71 #[.agg #[.slice a n ca], .agg #[.slice b n cb]] w fun e w' => e = .returned (.bool true) ∧ Below w.heap.size w w' := by
  have HB : Hid (Below w.heap.size w ((w.alloc (.cells #[.slice a n ca] 33)).alloc (.cells #[.slice b n cb] 33))) := ((Below.refl _ _).alloc (Nat.le_refl _) _).alloc (by simp) _
  have HRa : Hid (Rd _ _ _) := ha.keep HB.out (Nat.le_refl _)
  have HRb : Hid (Rd _ _ _) := hb.keep HB.out (Nat.le_refl _)
  have HL : Hid (l.length = n) := hl
  clear ha hb hl
  go_enter Try.func71, Try.ntmps71
  go_wp2_with fail
  refine (eqInts a b l n ca cb HL.out hn _ HRa.out HRb.out).mono ?_
  rintro e w1 ⟨rfl, hb1⟩
  have HW : Hid (Below w.heap.size w w1) := HB.out.trans (hb1.mono HB.out.size)
  clear hb1
  go_wp2
  go_ret
  exact ⟨rfl, HW.out⟩
/-- the marks k, k + 1, .. -/
def marks (k n : Nat) : List Int := (List.range n).map fun j => ((k + j : Nat) : Int)
theorem marks_len (k n : Nat) : (marks k n).length = n := by simp [marks]
theorem marks_succ (k n : Nat) : marks k (n + 1) = marks k n ++ [((k + n : Nat) : Int)] := by simp [marks, List.range_succ]
theorem marks_at (k n j : Nat) (h : j < (marks k n).length) : (marks k n)[j] = ((k + j : Nat) : Int) := by simp [marks]
def mixed (l : List Int) (k j : Nat) : List Int := marks k j ++ l.drop j
theorem mixed_len {l : List Int} {k j : Nat} (h : j ≤ l.length) : (mixed l k j).length = l.length := by unfold mixed; rw [List.length_append, marks_len, List.length_drop]; omega
theorem mixed_zero (l : List Int) (k : Nat) : mixed l k 0 = l := by simp [mixed, marks]
theorem mixed_all (l : List Int) (k n : Nat) (h : l.length = n) : mixed l k n = marks k n := by unfold mixed; rw [List.drop_of_length_le (by omega)]; simp
theorem mixed_set {l : List Int} {k j : Nat} (h : j < l.length) : (mixed l k j).set j ((k + j : Nat) : Int) = mixed l k (j + 1) := by
  unfold mixed
  rw [List.drop_eq_getElem_cons h, List.set_append_right _ _ (by rw [marks_len]; exact Nat.le_refl _), marks_len, marks_succ, Nat.sub_self, List.set_cons_zero, List.append_assoc]
  rfl
theorem grown_keep {w w' : World} {g B : Nat} {l : List Int} {C : Nat} (h : RowAt w g l) (hg : w.grownBy w' (some C)) (hne : C ≠ g) : RowAt w' g l := grown_row hg h (fun e => hne (by cases e; rfl))
/-- the first j copied, the rest still 0 -/
def upto (l : List Int) (n j : Nat) : List Int := l.take j ++ List.replicate (n - j) 0
theorem upto_zero (l : List Int) (n : Nat) : upto l n 0 = List.replicate n 0 := by simp [upto]
theorem upto_len {l : List Int} {n j : Nat} (hl : l.length = n) (h : j ≤ n) : (upto l n j).length = n := by simp [upto]; omega
theorem upto_all {l : List Int} {n : Nat} (hl : l.length = n) : upto l n n = l := by simp [upto]; exact List.take_of_length_le (by omega)
theorem upto_set {l : List Int} {n j : Nat} (hl : l.length = n) (h : j < n) (hj : j < l.length) : (upto l n j).set j l[j] = upto l n (j + 1) := by
  have h1 : (l.take j).length = j := by simp; omega
  unfold upto
  obtain ⟨m, hm⟩ : ∃ m, n - j = m + 1 := ⟨n - j - 1, by omega⟩
  rw [hm, show n - (j + 1) = m by omega, List.replicate_succ, List.set_append_right _ _ (by omega), h1, Nat.sub_self, List.set_cons_zero, List.take_succ_eq_append_getElem hj, List.append_assoc]
  rfl
set_option maxRecDepth 100000 in
set_option maxHeartbeats 400000 in
theorem toI (a : Option Addr) (l : List Int) (n cap : Nat) (hl : l.length = n) (hn : n ≤ 1048576) (w : World) (hr : Rd w a l) :
    Calls Try.prog 68 #[.slice a n cap] w fun e w' => e = .returned (.slice (some ⟨w.heap.size, 0, none⟩) n n) ∧ RowAt w' w.heap.size l ∧ Below w.heap.size w w' := by
  have HL : Hid (l.length = n) := hl
  have HW0 : Hid (Below w.heap.size w (w.alloc (.cells (intsV (List.replicate n 0)).toArray 3))) := (Below.refl w.heap.size w).alloc (Nat.le_refl _) _
  have HROW0 : Hid (RowAt (w.alloc (.cells (intsV (List.replicate n 0)).toArray 3)) w.heap.size (upto l n 0)) := by rw [upto_zero]; exact heap_new w _
  have hmk := run_make_row' (P := Try.prog) 31 3 (.int .i64 0) 8 Try.underlying31 info3 rfl .i64 .i64 n (by omega) (by omega)
  rw [made_ints] at hmk
  clear hl
  by_cases hp : 0 < n
  · obtain ⟨g, off, rfl, hc⟩ := hr (by have := HL.out; omega)
    have HR : Hid (∀ j (hj : j < l.length), w.cell? ⟨g, off + j, none⟩ = some (.int .i64 l[j])) := hc
    clear hr hc
    go_enter Try.func68, Try.ntmps68
    go_wp2
    go_loopw [4] (fun i wr => ∃ j : Nat, j ≤ n ∧ i = .int .i64 j ∧ Hid (RowAt wr w.heap.size (upto l n j)) ∧ Hid (Below w.heap.size w wr)) (fun i _ => n - (intOf i).toNat)
    case atStart => exact ⟨0, Nat.zero_le _, rfl, HROW0, HW0⟩
    case round =>
      clear HROW0 HW0
      obtain ⟨j, hj, rfl, HROW, HW⟩ := hrel
      by_cases hlt : j < n
      · have hjl : j < l.length := by have := HL.out; omega
        have c1 := (HW.out.cell (p := ⟨g, off + j, none⟩) (World.block_lt_of_cell? w ⟨g, off + j, none⟩ (HR.out j hjl))).trans (HR.out j hjl)
        have c2 := HROW.out.cell j (by rw [upto_len HL.out hj]; exact hlt)
        have c3 := HROW.out.free j
        have HROW' : Hid (RowAt (wr.setCell ⟨w.heap.size, j, none⟩ (.int .i64 l[j])) w.heap.size (upto l n (j + 1))) := by
          have := HROW.out.set j l[j]
          rw [upto_set HL.out hlt hjl] at this
          exact this
        have HW' : Hid (Below w.heap.size w (wr.setCell ⟨w.heap.size, j, none⟩ (.int .i64 l[j]))) := HW.out.setCell (Nat.le_refl _) _
        generalize (upto l n j)[j]'(by rw [upto_len HL.out hj]; exact hlt) = old at c2
        generalize l[j] = x at c1 HROW' HW'
        clear hjl HW HROW
        go_wp2
        go_roundw
        case rel => exact ⟨j + 1, by omega, by go_num, HROW', HW'⟩
        case measure => simp [intOf]; omega
      · obtain rfl : j = n := by omega
        have HROW' : Hid (RowAt wr w.heap.size l) := by have := HROW.out; rw [upto_all HL.out] at this; exact this
        clear HROW
        go_wp2
        go_ret
        exact ⟨rfl, HROW'.out, HW.out⟩
  · obtain rfl : n = 0 := by omega
    have HROW' : Hid (RowAt (w.alloc (.cells (intsV (List.replicate 0 0)).toArray 3)) w.heap.size l) := by have := HROW0.out; rw [upto_all HL.out] at this; exact this
    clear hr hp HROW0
    have hmk0 : ∀ w : World, (Instr.makeSlice 31 (.int .i64 0) (.int .i64 0)).run Try.prog w = .ok (.slice (some ⟨w.heap.size, 0, none⟩) 0 0) (w.alloc (.cells (intsV (List.replicate 0 0)).toArray 3)) := hmk
    clear hmk
    go_enter Try.func68, Try.ntmps68
    go_wp2
    go_rounds 1
    go_ret
    exact ⟨rfl, HROW'.out, HW0.out⟩
theorem two_start (w : World) (u x y : Value) (t r q : TypeId) :
    (((w.alloc (.cells #[u] t)).alloc (.cells #[x] r)).alloc (.cells #[y] q)).heap[w.heap.size + 1]? = some (.cells #[x] r) ∧ (((w.alloc (.cells #[u] t)).alloc (.cells #[x] r)).alloc (.cells #[y] q)).heap[w.heap.size + 2]? = some (.cells #[y] q) ∧ Below w.heap.size w (((w.alloc (.cells #[u] t)).alloc (.cells #[x] r)).alloc (.cells #[y] q)) ∧ (((w.alloc (.cells #[u] t)).alloc (.cells #[x] r)).alloc (.cells #[y] q)).heap.size = w.heap.size + 3 := by
  have h1 := heap_new (w.alloc (.cells #[u] t)) (.cells #[x] r)
  have h2 := heap_new ((w.alloc (.cells #[u] t)).alloc (.cells #[x] r)) (.cells #[y] q)
  refine ⟨(Below.heap_alloc _ _ _ (by simp)).trans (by simpa using h1), by simpa using h2, (((Below.refl _ _).alloc (Nat.le_refl _) _).alloc (by simp) _).alloc (by simp; omega) _, by simp⟩
set_option maxRecDepth 100000 in
set_option maxHeartbeats 400000 in
theorem toA (a : Option Addr) (l : List Int) (n cap : Nat) (hl : l.length = n) (hn : n ≤ 1048576) (w : World) (hr : Rd w a l) :
    Calls Try.prog 65 #[.agg #[.slice a n cap]] w fun e w' => ∃ g, e = .returned (.agg #[.slice (some ⟨g, 0, none⟩) n n]) ∧ w.heap.size ≤ g ∧ RowAt w' g l ∧ Below w.heap.size w w' := by
  obtain ⟨hX, hY, hW, hS⟩ := two_start w (.slice a n cap) (.slice none 0 0) (.slice none 0 0) 81 33 33
  have HX : Hid (_ = _) := hX
  have HY : Hid (_ = _) := hY
  have HW : Hid (Below _ _ _) := hW
  have HS : Hid (_ = _) := hS
  have HR : Hid (Rd w a l) := hr
  have HL : Hid (l.length = n) := hl
  clear hX hY hW hS hr hl
  go_enter Try.func65, Try.ntmps65
  go_wp2_with fail
  refine (toI a l n cap HL.out hn _ (HR.out.keep HW.out (Nat.le_refl _))).mono ?_
  rintro e w1 ⟨rfl, hrow, hb1⟩
  rw [HS.out] at hrow hb1 ⊢
  have kx := row1_cells (row_after HX.out hb1 (by omega))
  have ky := row1_cells (row_after HY.out hb1 (by omega))
  have HROW : Hid (RowAt w1 (w.heap.size + 3) l) := hrow
  have HW1 : Hid (Below w.heap.size w w1) := HW.out.trans (hb1.mono (by omega))
  clear hrow hb1 HX HY HW HS HR
  go_wp2
  refine bodyPost_ret (v := .agg #[.slice (some ⟨w.heap.size + 3, 0, none⟩) n n]) (by simp [results, Try.results65, go_sem, kx]) rfl ⟨w.heap.size + 3, rfl, by omega, ?_, ?_⟩
  · exact set_other (set_other HROW.out (by omega)) (by omega)
  · exact (HW1.out.setCell (by simp; omega) _).setCell (by simp) _
theorem szI (a : Option Addr) (n cap : Nat) (m : Int) (m0 : 0 ≤ m) (m1 : m ≤ 1048576) (hn : n ≤ 9223372036854775807) (w : World) : Calls Try.prog 62 #[.slice a n cap, .int .i64 m] w fun e w' => e = .returned (.int .i64 (if (n : Int) ≤ m then m - (n : Int) else -1)) ∧ w' = w := by
  have hw : IntKind.i64.wrap (m - (n : Int)) = m - (n : Int) := wrap_in (by omega) (by omega)
  by_cases h : (n : Int) ≤ m
  · rw [if_pos h]
    have h0 : ¬ m - (n : Int) < 0 := by omega
    go_enter Try.func62, Try.ntmps62
    go_wp2
    go_ret
    exact ⟨rfl, rfl⟩
  · rw [if_neg h]
    have h0 : m - (n : Int) < 0 := by omega
    go_enter Try.func62, Try.ntmps62
    go_wp2
    go_ret
    exact ⟨rfl, rfl⟩
theorem szA (a : Option Addr) (n cap : Nat) (m : Int) (m0 : 0 ≤ m) (m1 : m ≤ 1048576) (hn : n ≤ 9223372036854775807) (w : World) : Calls Try.prog 59 #[.agg #[.slice a n cap], .int .i64 m] w fun e w' => e = .returned (.int .i64 (if (n : Int) ≤ m then m - (n : Int) else -1)) ∧ Below w.heap.size w w' := by
  have HB : Hid (Below w.heap.size w (w.alloc (.cells #[.slice a n cap] 81))) := (Below.refl _ _).alloc (Nat.le_refl _) _
  by_cases h : (n : Int) ≤ m
  · rw [if_pos h]
    have h0 : ¬ m - (n : Int) < 0 := by omega
    go_enter Try.func59, Try.ntmps59
    go_wp2_with fail
    refine (szI a n cap m m0 m1 hn _).mono ?_
    rw [if_pos (by omega)]
    rintro e w1 ⟨rfl, rfl⟩
    go_wp2
    go_ret
    exact ⟨rfl, HB.out⟩
  · rw [if_neg h]
    go_enter Try.func59, Try.ntmps59
    go_wp2_with fail
    refine (szI a n cap m m0 m1 hn _).mono ?_
    rw [if_neg (by omega)]
    rintro e w1 ⟨rfl, rfl⟩
    go_wp2
    go_ret
    exact ⟨rfl, HB.out⟩
theorem cellI : Try.prog.cellsOf 3 = 1 := by kernel_rfl
theorem openI {H : Type} {enc : TypeId × Value → H} {W : World} {held : Bool} {v : Value} {x : DataW H × List MemPlace} {bs fuel : Nat}
    (hf : DataW.trod enc Try.prog W bs (fun _ => true) held fuel 31 [v] = some x) :
    ∃ a len cap, ∃ l : List Int, v = .slice a len cap ∧ l.length = len ∧ len ≤ cap ∧ len ≤ 9223372036854775807 ∧ Rd W a l ∧ ∀ j (h : j < l.length), (Lit.int .i64 l[j]).wf = true := by
  rcases Go.Deep.open_slice Try.underlying31 hf with ⟨hcs, _⟩ | ⟨ad, l, c, m, k, D, Pl, hcs, _, hl, hm, hmm, _, hcell⟩
  · simp at hcs
    subst hcs
    exact ⟨none, 0, 0, [], rfl, rfl, Nat.le_refl _, by omega, fun h => by simp at h, fun j h => by simp at h⟩
  · simp at hcs
    subst hcs
    simp at hmm
    subst hmm
    unfold maxLen at hm
    have each : ∀ i, i < l → ∃ z : Int, W.cell? (ad.add i) = some (.int .i64 z) ∧ (Lit.int .i64 z).wf = true := by
      intro i hi
      obtain ⟨cs', h1, h2⟩ := hcell i (by omega)
      rw [cellI, Nat.mul_one] at h1
      obtain ⟨_, hlen, hc⟩ := World.cells?_some h1
      obtain ⟨z, rfl, _, hz⟩ := DataW.trod_int Try.underlying3 h2
      have e0 := hc 0 (by omega)
      rw [Go.Deep.add_add] at e0
      exact ⟨z, by simpa using e0, hz⟩
    obtain ⟨q, hq⟩ := Go.Deep.choose_lt each
    refine ⟨some ad, l, _, (List.range l).map q, rfl, by simp, hl, by omega, fun h0 => ?_, fun j hj => ?_⟩
    · have h0' : 0 < l := by simpa using h0
      obtain ⟨b, off, spot⟩ := ad
      have hspot : spot = none := by simpa [Addr.add] using World.cell?_spot (hq 0 (by omega)).1
      subst hspot
      refine ⟨b, off, rfl, fun j hj => ?_⟩
      have hj' : j < l := by simpa using hj
      obtain ⟨h0, _⟩ := hq j hj'
      rw [add_at] at h0
      simp only [List.getElem_map, List.getElem_range]
      exact h0
    · have hj' : j < l := by simpa using hj
      simp only [List.getElem_map, List.getElem_range]
      exact (hq j hj').2
end Go.Proofs.Ytfdhcchakoldpaa.C
