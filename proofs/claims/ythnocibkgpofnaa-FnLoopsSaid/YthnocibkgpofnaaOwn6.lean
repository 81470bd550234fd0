/-
  The exact laws' own helpers over arenas and regions: contracts.
-/
import Derived.Test.YthnocibkgpofnaaSpec26
namespace Go.Proofs.Ythnocibkgpofnaa
open Go.RowKit Go.PlainAid
set_option linter.unusedVariables false

set_option maxRecDepth 100000 in
set_option maxHeartbeats 400000 in
theorem eqInts (a b : Option Addr) (l : List Int) (n ca cb : Nat) (hl : l.length = n) (hn : n ≤ 1048576) (w : World) (ha : Rd w a l) (hb : Rd w b l) :
    Calls Try.prog 36 #[.slice a n ca, .slice b n cb] w fun e w' => e = .returned (.bool true) ∧ Below w.heap.size w w' := by
  by_cases hp : 0 < n
  · obtain ⟨g, o1, rfl, hcg⟩ := ha (by omega)
    obtain ⟨h, o2, rfl, hch⟩ := hb (by omega)
    have HA : Hid (∀ j (hj : j < l.length), w.cell? ⟨g, o1 + j, none⟩ = some (.int .i64 l[j])) := hcg
    have HB : Hid (∀ j (hj : j < l.length), w.cell? ⟨h, o2 + j, none⟩ = some (.int .i64 l[j])) := hch
    have HL : Hid (l.length = n) := hl
    clear ha hb hcg hch hl
    go_enter Try.func36, Try.ntmps36
    go_wp2
    go_loopw [5] (fun i wr => ∃ (j q : Nat), j ≤ n ∧ i = .int .i64 j ∧ wr = w.drewN q) (fun i _ => n - (intOf i).toNat)
    case atStart => exact ⟨0, 0, Nat.zero_le _, rfl, rfl⟩
    case round =>
      obtain ⟨j, q, hj, rfl, rfl⟩ := hrel
      by_cases hlt : j < n
      · have c1 := HA.out j (by have := HL.out; omega)
        have c2 := HB.out j (by have := HL.out; omega)
        generalize l[j]'(by have := HL.out; omega) = x at c1 c2
        have i0 : (0 : Int) ≤ (j : Int) := by omega
        have i1 : (j : Int) < (n : Int) := by omega
        go_wp2
        go_quiet (fail)
        go_wp2
        go_roundw
        case rel => exact ⟨j + 1, q + nq, by omega, by go_num, rfl⟩
        case measure => simp [intOf]; omega
      · go_wp2
        go_ret
        exact ⟨rfl, below_drewN (Below.refl _ _) _⟩
  · obtain rfl : n = 0 := by omega
    clear ha hb hp
    go_enter Try.func36, Try.ntmps36
    go_wp2
    go_rounds 1
    go_ret
    exact ⟨rfl, Below.refl _ _⟩

theorem eqA (a b : Option Addr) (l : List Int) (n ca cb : Nat) (hl : l.length = n) (hn : n ≤ 1048576) (w : World) (ha : Rd w a l) (hb : Rd w b l) :
    Calls Try.prog 15 #[.agg #[.slice a n ca], .agg #[.slice b n cb]] w fun e w' => e = .returned (.bool true) ∧ Below w.heap.size w w' := by
  have HB : Hid (Below w.heap.size w ((w.alloc (.cells #[.slice a n ca] 34)).alloc (.cells #[.slice b n cb] 34))) := ((Below.refl _ _).alloc (Nat.le_refl _) _).alloc (by simp) _
  have HRa : Hid (Rd _ _ _) := ha.keep HB.out (Nat.le_refl _)
  have HRb : Hid (Rd _ _ _) := hb.keep HB.out (Nat.le_refl _)
  have HL : Hid (l.length = n) := hl
  clear ha hb hl
  go_enter Try.func15, Try.ntmps15
  go_wp2_with fail
  refine (eqInts a b l n ca cb HL.out hn _ HRa.out HRb.out).mono ?_
  rintro e w1 ⟨rfl, hb1⟩
  have HW : Hid (Below w.heap.size w w1) := HB.out.trans (hb1.mono HB.out.size)
  clear hb1
  go_wp2
  go_ret
  exact ⟨rfl, HW.out⟩

/-- the marks k, k + 1, .. -/
def marks (k n : Nat) : List Int := (List.range n).map fun j => ((k + j : Nat) : Int)
theorem marks_len (k n : Nat) : (marks k n).length = n := by simp [marks]
theorem marks_succ (k n : Nat) : marks k (n + 1) = marks k n ++ [((k + n : Nat) : Int)] := by simp [marks, List.range_succ]
theorem marks_at (k n j : Nat) (h : j < (marks k n).length) : (marks k n)[j] = ((k + j : Nat) : Int) := by simp [marks]
def mixed (l : List Int) (k j : Nat) : List Int := marks k j ++ l.drop j
theorem mixed_len {l : List Int} {k j : Nat} (h : j ≤ l.length) : (mixed l k j).length = l.length := by unfold mixed; rw [List.length_append, marks_len, List.length_drop]; omega
theorem mixed_zero (l : List Int) (k : Nat) : mixed l k 0 = l := by simp [mixed, marks]
theorem mixed_all (l : List Int) (k n : Nat) (h : l.length = n) : mixed l k n = marks k n := by unfold mixed; rw [List.drop_of_length_le (by omega)]; simp
theorem mixed_set {l : List Int} {k j : Nat} (h : j < l.length) : (mixed l k j).set j ((k + j : Nat) : Int) = mixed l k (j + 1) := by
  unfold mixed
  rw [List.drop_eq_getElem_cons h, List.set_append_right _ _ (by rw [marks_len]; exact Nat.le_refl _), marks_len, marks_succ, Nat.sub_self, List.set_cons_zero, List.append_assoc]
  rfl

theorem grown_trans' {w w1 w2 : World} {r : Option Nat} (h : w.grownBy w1 r) (k : w1.grownBy w2 r) : w.grownBy w2 r :=
  ⟨k.os.trans h.os, k.tape.trans h.tape, k.output.trans h.output, Nat.le_trans h.size k.size, fun j hj hne => (k.block j (Nat.lt_of_lt_of_le hj h.size) hne).trans (h.block j hj hne)⟩
theorem grown_put (w : World) (C i : Nat) (v : Value) : w.grownBy (w.setCell ⟨C, i, none⟩ v) (some C) :=
  ⟨rfl, rfl, rfl, by simp, fun k _ hne => heap_setCell_other w _ k v (fun e => hne (by rw [e]))⟩
theorem grown_keep {w w' : World} {g B : Nat} {l : List Int} {C : Nat} (h : RowAt w g l) (hg : w.grownBy w' (some C)) (hne : C ≠ g) : RowAt w' g l := grown_row hg h (fun e => hne (by cases e; rfl))

/-- the first j copied, the rest still 0 -/
def upto (l : List Int) (n j : Nat) : List Int := l.take j ++ List.replicate (n - j) 0
theorem upto_zero (l : List Int) (n : Nat) : upto l n 0 = List.replicate n 0 := by simp [upto]
theorem upto_len {l : List Int} {n j : Nat} (hl : l.length = n) (h : j ≤ n) : (upto l n j).length = n := by simp [upto]; omega
theorem upto_all {l : List Int} {n : Nat} (hl : l.length = n) : upto l n n = l := by simp [upto]; exact List.take_of_length_le (by omega)
theorem upto_set {l : List Int} {n j : Nat} (hl : l.length = n) (h : j < n) (hj : j < l.length) : (upto l n j).set j l[j] = upto l n (j + 1) := by
  have h1 : (l.take j).length = j := by simp; omega
  unfold upto
  obtain ⟨m, hm⟩ : ∃ m, n - j = m + 1 := ⟨n - j - 1, by omega⟩
  rw [hm, show n - (j + 1) = m by omega, List.replicate_succ, List.set_append_right _ _ (by omega), h1, Nat.sub_self, List.set_cons_zero, List.take_succ_eq_append_getElem hj, List.append_assoc]
  rfl

set_option maxRecDepth 100000 in
set_option maxHeartbeats 400000 in
theorem toI (a : Option Addr) (l : List Int) (n cap : Nat) (hl : l.length = n) (hn : n ≤ 1048576) (w : World) (hr : Rd w a l) :
    Calls Try.prog 32 #[.slice a n cap] w fun e w' => e = .returned (.slice (some ⟨w.heap.size, 0, none⟩) n n) ∧ RowAt w' w.heap.size l ∧ Below w.heap.size w w' := by
  have HL : Hid (l.length = n) := hl
  have HW0 : Hid (Below w.heap.size w (w.alloc (.cells (intsV (List.replicate n 0)).toArray 3))) := (Below.refl w.heap.size w).alloc (Nat.le_refl _) _
  have HROW0 : Hid (RowAt (w.alloc (.cells (intsV (List.replicate n 0)).toArray 3)) w.heap.size (upto l n 0)) := by rw [upto_zero]; exact heap_new w _
  have hmk := run_make_row' (P := Try.prog) 23 3 (.int .i64 0) 8 Try.underlying23 info3 rfl .i64 .i64 n (by omega) (by omega)
  rw [made_ints] at hmk
  clear hl
  by_cases hp : 0 < n
  · obtain ⟨g, off, rfl, hc⟩ := hr (by have := HL.out; omega)
    have HR : Hid (∀ j (hj : j < l.length), w.cell? ⟨g, off + j, none⟩ = some (.int .i64 l[j])) := hc
    clear hr hc
    go_enter Try.func32, Try.ntmps32
    go_wp2
    go_loopw [4] (fun i wr => ∃ j : Nat, j ≤ n ∧ i = .int .i64 j ∧ Hid (RowAt wr w.heap.size (upto l n j)) ∧ Hid (Below w.heap.size w wr)) (fun i _ => n - (intOf i).toNat)
    case atStart => exact ⟨0, Nat.zero_le _, rfl, HROW0, HW0⟩
    case round =>
      clear HROW0 HW0
      obtain ⟨j, hj, rfl, HROW, HW⟩ := hrel
      by_cases hlt : j < n
      · have hjl : j < l.length := by have := HL.out; omega
        have c1 := (HW.out.cell (p := ⟨g, off + j, none⟩) (World.block_lt_of_cell? w ⟨g, off + j, none⟩ (HR.out j hjl))).trans (HR.out j hjl)
        have c2 := HROW.out.cell j (by rw [upto_len HL.out hj]; exact hlt)
        have c3 := HROW.out.free j
        have HROW' : Hid (RowAt (wr.setCell ⟨w.heap.size, j, none⟩ (.int .i64 l[j])) w.heap.size (upto l n (j + 1))) := by
          have := HROW.out.set j l[j]
          rw [upto_set HL.out hlt hjl] at this
          exact this
        have HW' : Hid (Below w.heap.size w (wr.setCell ⟨w.heap.size, j, none⟩ (.int .i64 l[j]))) := HW.out.setCell (Nat.le_refl _) _
        generalize (upto l n j)[j]'(by rw [upto_len HL.out hj]; exact hlt) = old at c2
        generalize l[j] = x at c1 HROW' HW'
        clear hjl HW HROW
        go_wp2
        go_roundw
        case rel => exact ⟨j + 1, by omega, by go_num, HROW', HW'⟩
        case measure => simp [intOf]; omega
      · obtain rfl : j = n := by omega
        have HROW' : Hid (RowAt wr w.heap.size l) := by have := HROW.out; rw [upto_all HL.out] at this; exact this
        clear HROW
        go_wp2
        go_ret
        exact ⟨rfl, HROW'.out, HW.out⟩
  · obtain rfl : n = 0 := by omega
    have HROW' : Hid (RowAt (w.alloc (.cells (intsV (List.replicate 0 0)).toArray 3)) w.heap.size l) := by have := HROW0.out; rw [upto_all HL.out] at this; exact this
    clear hr hp HROW0
    have hmk0 : ∀ w : World, (Instr.makeSlice 23 (.int .i64 0) (.int .i64 0)).run Try.prog w = .ok (.slice (some ⟨w.heap.size, 0, none⟩) 0 0) (w.alloc (.cells (intsV (List.replicate 0 0)).toArray 3)) := hmk
    clear hmk
    go_enter Try.func32, Try.ntmps32
    go_wp2
    go_rounds 1
    go_ret
    exact ⟨rfl, HROW'.out, HW0.out⟩

theorem two_start (w : World) (u x y : Value) (t r q : TypeId) :
    (((w.alloc (.cells #[u] t)).alloc (.cells #[x] r)).alloc (.cells #[y] q)).heap[w.heap.size + 1]? = some (.cells #[x] r) ∧ (((w.alloc (.cells #[u] t)).alloc (.cells #[x] r)).alloc (.cells #[y] q)).heap[w.heap.size + 2]? = some (.cells #[y] q) ∧ Below w.heap.size w (((w.alloc (.cells #[u] t)).alloc (.cells #[x] r)).alloc (.cells #[y] q)) ∧ (((w.alloc (.cells #[u] t)).alloc (.cells #[x] r)).alloc (.cells #[y] q)).heap.size = w.heap.size + 3 := by
  have h1 := heap_new (w.alloc (.cells #[u] t)) (.cells #[x] r)
  have h2 := heap_new ((w.alloc (.cells #[u] t)).alloc (.cells #[x] r)) (.cells #[y] q)
  refine ⟨(Below.heap_alloc _ _ _ (by simp)).trans (by simpa using h1), by simpa using h2, (((Below.refl _ _).alloc (Nat.le_refl _) _).alloc (by simp) _).alloc (by simp; omega) _, by simp⟩

set_option maxRecDepth 100000 in
set_option maxHeartbeats 400000 in
theorem toA (a : Option Addr) (l : List Int) (n cap : Nat) (hl : l.length = n) (hn : n ≤ 1048576) (w : World) (hr : Rd w a l) :
    Calls Try.prog 11 #[.agg #[.slice a n cap]] w fun e w' => ∃ g, e = .returned (.agg #[.slice (some ⟨g, 0, none⟩) n n]) ∧ w.heap.size ≤ g ∧ RowAt w' g l ∧ Below w.heap.size w w' := by
  obtain ⟨hX, hY, hW, hS⟩ := two_start w (.slice a n cap) (.slice none 0 0) (.slice none 0 0) 25 34 34
  have HX : Hid (_ = _) := hX
  have HY : Hid (_ = _) := hY
  have HW : Hid (Below _ _ _) := hW
  have HS : Hid (_ = _) := hS
  have HR : Hid (Rd w a l) := hr
  have HL : Hid (l.length = n) := hl
  clear hX hY hW hS hr hl
  go_enter Try.func11, Try.ntmps11
  go_wp2_with fail
  refine (toI a l n cap HL.out hn _ (HR.out.keep HW.out (Nat.le_refl _))).mono ?_
  rintro e w1 ⟨rfl, hrow, hb1⟩
  rw [HS.out] at hrow hb1 ⊢
  have kx := row1_cells (row_after HX.out hb1 (by omega))
  have ky := row1_cells (row_after HY.out hb1 (by omega))
  have HROW : Hid (RowAt w1 (w.heap.size + 3) l) := hrow
  have HW1 : Hid (Below w.heap.size w w1) := HW.out.trans (hb1.mono (by omega))
  clear hrow hb1 HX HY HW HS HR
  go_wp2
  refine bodyPost_ret (v := .agg #[.slice (some ⟨w.heap.size + 3, 0, none⟩) n n]) (by simp [results, Try.results11, go_sem, kx]) rfl ⟨w.heap.size + 3, rfl, by omega, ?_, ?_⟩
  · exact set_other (set_other HROW.out (by omega)) (by omega)
  · exact (HW1.out.setCell (by simp; omega) _).setCell (by simp) _

theorem toR (f s : Int) (w : World) : Calls Try.prog 12 #[.agg #[.int .i64 f, .int .i64 s]] w fun e w' => e = .returned (.agg #[.int .i64 f, .int .i64 s]) ∧ Below w.heap.size w w' := by
  go_enter Try.func12, Try.ntmps12
  go_wp2
  refine bodyPost_ret (v := .agg #[.int .i64 f, .int .i64 s]) (by simp [results, Try.results12, go_sem]) rfl ⟨rfl, ?_⟩
  exact (((Below.refl _ _).alloc (Nat.le_refl _) _).alloc (by simp) _).alloc (by simp; omega) _

theorem szI (a : Option Addr) (n cap : Nat) (hn : n ≤ 9223372036854775807) (w : World) : Calls Try.prog 26 #[.slice a n cap, .int .i64 1048576] w fun e w' => e = .returned (.int .i64 (if n ≤ 1048576 then 1048576 - (n : Int) else -1)) ∧ w' = w := by
  by_cases h : n ≤ 1048576
  · rw [if_pos h]
    go_enter Try.func26, Try.ntmps26
    go_wp2
    go_ret
    exact ⟨rfl, rfl⟩
  · rw [if_neg h]
    go_enter Try.func26, Try.ntmps26
    go_wp2
    go_ret
    exact ⟨rfl, rfl⟩

theorem szA (a : Option Addr) (n cap : Nat) (hn : n ≤ 9223372036854775807) (w : World) : Calls Try.prog 8 #[.agg #[.slice a n cap], .int .i64 1048576] w fun e w' => e = .returned (.int .i64 (if n ≤ 1048576 then 1048576 - (n : Int) else -1)) ∧ Below w.heap.size w w' := by
  by_cases h : n ≤ 1048576
  · go_enter Try.func8, Try.ntmps8
    go_wp2_with fail
    refine (szI a n cap hn _).mono ?_
    rintro e w1 ⟨rfl, rfl⟩
    rw [if_pos h]
    go_wp2
    go_ret
    exact ⟨rfl, (Below.refl _ _).alloc (Nat.le_refl _) _⟩
  · go_enter Try.func8, Try.ntmps8
    go_wp2_with fail
    refine (szI a n cap hn _).mono ?_
    rintro e w1 ⟨rfl, rfl⟩
    rw [if_neg h]
    go_wp2
    go_ret
    exact ⟨rfl, (Below.refl _ _).alloc (Nat.le_refl _) _⟩

theorem atP_neg (n : Nat) (f s p : Int) : atP n f s p < 0 ↔ ¬ (0 ≤ p ∧ p < (cutN n f s : Int)) := by
  unfold atP
  split
  · rename_i h
    have := cutN_in (n := n) (f := f) (s := s) (by omega)
    omega
  · omega

set_option maxRecDepth 100000 in
set_option maxHeartbeats 400000 in
theorem loadS (a : Option Addr) (l : List Int) (n cap : Nat) (f s p : Int) (hl : l.length = n) (hn : n ≤ 1048576) (w : World) (hr : Rd w a l) :
    Calls Try.prog 56 #[.agg #[.slice a n cap], .agg #[.int .i64 f, .int .i64 s], .int .i64 p] w fun e w' => e = .returned (.tuple #[.int .i64 (ldX l f s p), .bool (ldB n f s p)]) ∧ Below w.heap.size w w' := by
  obtain ⟨hA, hR, hW⟩ := arena_start w (.slice a n cap) (.int .i64 f) (.int .i64 s) 34 36
  have HA : Hid (_ = _) := hA
  have HW : Hid (Below _ _ _) := hW
  have HRd : Hid (Rd w a l) := hr
  have HL : Hid (l.length = n) := hl
  clear hA hR hW hr hl
  go_enter Try.func56, Try.ntmps56
  go_wp2_with fail
  refine (atS a n cap f s p hn _).mono ?_
  rintro e w1 ⟨rfl, hb1⟩
  have HW1 : Hid (Below w.heap.size w w1) := HW.out.trans (hb1.mono HW.out.size)
  have k1 := row1_cells (row_after HA.out hb1 (row_lt HA.out))
  clear hb1 HW HA
  by_cases hp : 0 ≤ p ∧ p < (cutN n f s : Int)
  · obtain ⟨hp0, hp1⟩ := hp
    obtain ⟨j, rfl⟩ := Int.eq_ofNat_of_zero_le hp0
    obtain ⟨f0, f1, _, _⟩ := cutN_in (n := n) (f := f) (s := s) (by omega)
    obtain ⟨fn, rfl⟩ := Int.eq_ofNat_of_zero_le f0
    have hfn : fn + j < l.length := by have := HL.out; simp at f1; omega
    have hfn2 : fn + j < n := by have := HL.out; omega
    obtain ⟨g, off, rfl, hc⟩ := HRd.out (by omega)
    have hcell := (HW1.out.cell (p := ⟨g, off + (fn + j), none⟩) (World.block_lt_of_cell? w ⟨g, off + (fn + j), none⟩ (hc _ hfn))).trans (hc (fn + j) hfn)
    have hat : atP n (fn : Int) s (j : Int) = ((fn + j : Nat) : Int) := by rw [atP_in (by omega)]; omega
    have HX : Hid (ldX l (fn : Int) s (j : Int) = l[fn + j] ∧ ldB n (fn : Int) s (j : Int) = true) := by
      have e2 := HL.out
      refine ⟨?_, decide_eq_true ⟨by omega, by omega⟩⟩
      unfold ldX
      rw [if_pos ⟨by omega, by rw [e2]; omega⟩, show ((fn : Int) + (j : Int)).toNat = fn + j by omega]
      simp [hfn]
    generalize l[fn + j] = x at hcell HX
    rw [hat]
    clear hat hc HRd f1 hfn hp1
    generalize fn + j = i at hcell hfn2 ⊢
    go_wp2
    go_ret2
    exact ⟨by rw [HX.out.1, HX.out.2]; rfl, HW1.out⟩
  · have HX : Hid (ldX l f s p = 0 ∧ ldB n f s p = false) := by
      have e2 := HL.out
      refine ⟨?_, decide_eq_false hp⟩
      unfold ldX
      rw [if_neg (by rw [e2]; exact hp)]
    have hat : atP n f s p = -1 := if_neg hp
    rw [hat]
    clear hat
    go_wp2
    go_ret2
    exact ⟨by rw [HX.out.1, HX.out.2]; rfl, HW1.out⟩

theorem mod_lo (n : Int) (h : n.tmod 65536 < 0) : n.tmod 65536 + 65536 = n % 65536 := by
  rw [Int.tmod_eq_emod] at h ⊢
  split at h
  · rename_i hh
    omega
  · rename_i hh
    rw [if_neg hh]
    simp
theorem mod_hi (n : Int) (h : ¬ n.tmod 65536 < 0) : n.tmod 65536 = n % 65536 := by
  have h1 : n.tmod 65536 < 65536 := Int.tmod_lt_of_pos n (by decide)
  have h2 : n = 65536 * (n.tdiv 65536) + n.tmod 65536 := (Int.mul_tdiv_add_tmod n 65536).symm
  omega
theorem modS (n : Int) (w : World) : Calls Try.prog 57 #[.int .i64 n] w fun e w' => e = .returned (.int .i64 (n % 65536)) ∧ w' = w := by
  have h1 : -65536 < n.tmod 65536 := by
    have := Int.lt_tmod_of_pos n (show (0 : Int) < 65536 by decide); exact this
  by_cases h : n.tmod 65536 < 0
  · have HX : Hid (n.tmod 65536 + 65536 = n % 65536) := mod_lo n h
    go_enter Try.func57, Try.ntmps57
    go_wp2
    go_ret
    exact ⟨by rw [← HX.out]; rfl, rfl⟩
  · have HX : Hid (n.tmod 65536 = n % 65536) := mod_hi n h
    go_enter Try.func57, Try.ntmps57
    go_wp2
    go_ret
    exact ⟨by rw [← HX.out]; rfl, rfl⟩

set_option maxRecDepth 100000 in
set_option maxHeartbeats 1000000 in
theorem storeS (ad : Addr) (l : List Int) (n cap : Nat) (f s p x : Int) (hl : l.length = n) (hn : n ≤ 1048576) (w : World) (hr : Rd w (some ad) l) :
    Calls Try.prog 58 #[.agg #[.slice (some ad) n cap], .agg #[.int .i64 f, .int .i64 s], .int .i64 p, .int .i64 x] w fun e w' => ∃ v, e = .returned (.tuple #[.agg #[v], .bool (ldB n f s p)]) ∧ w'.ownsRow w.heap.size 3 1 v n (intsV (stL l f s p x)) ∧ Below w.heap.size w w' := by
  have HL : Hid (l.length = n) := hl
  have hc := clive_start w (.slice (some ad) n cap) (.int .i64 f) (.int .i64 s)
  have HC0 : Hid (CLive w _ _ _ _) := hc.alloc (.cells #[.slice none 0 0] 34)
  have HZ0 : Hid ((((w.alloc (.cells #[.slice (some ad) n cap] 34)).alloc (.cells #[.int .i64 f, .int .i64 s] 36)).alloc (.cells #[.slice none 0 0] 34)).heap[w.heap.size + 2]? = some (.cells #[.slice none 0 0] 34)) := by
    have := heap_new ((w.alloc (.cells #[.slice (some ad) n cap] 34)).alloc (.cells #[.int .i64 f, .int .i64 s] 36)) (.cells #[.slice none 0 0] 34)
    simpa [Hid] using this
  have HR : Hid (Rd w (some ad) l) := hr
  clear hl hc hr
  go_enter Try.func58, Try.ntmps58
  go_wp2_with fail
  refine (copyS ad l n cap HL.out hn _ (HR.out.keep HC0.out.2.2 (Nat.le_refl _))).mono ?_
  rintro e w1 ⟨v, rfl, hown1, hb1⟩
  have HC1 : Hid (CLive w w1 (.slice (some ad) n cap) (.int .i64 f) (.int .i64 s)) := HC0.out.keep hb1
  have HZ1 : Hid (_ = _) := row_after HZ0.out hb1 (row_lt HZ0.out)
  have S1 : w.heap.size + 3 ≤ w1.heap.size := row_lt HZ1.out
  obtain ⟨q, c, hv⟩ := own_shape hown1
  subst hv
  have hown2 := own_mono (C := w.heap.size + 3) hown1 (by simp)
  have HK0 : Hid (KLive w (w1.alloc (.cells #[.slice q n c] 34)) (.slice (some ad) n cap) (.int .i64 f) (.int .i64 s) (.slice q n c) w1.heap.size) := ⟨HC1.out.alloc _, (Below.heap_alloc _ _ _ (row_lt HZ1.out)).trans HZ1.out, heap_new w1 _, S1⟩
  have HO0 : Hid ((w1.alloc (.cells #[.slice q n c] 34)).ownsRow (w.heap.size + 3) 3 1 (.slice q n c) n (intsV l)) := hown2.alloc _
  have HNE : Hid (∀ g, (Value.slice q n c).ownBlock = some g → g < w1.heap.size) := own_lt hown1
  clear hown1 hown2 hb1 HC0 HZ0 HC1 HZ1
  have k1 := row1_cells HK0.out.1.1
  have k2 := row2_cells HK0.out.1.2.1
  go_wp2_with fail
  refine (atS (some ad) n cap f s p hn _).mono ?_
  rintro e w2 ⟨rfl, hb2⟩
  have HK2 : Hid (KLive w w2 (.slice (some ad) n cap) (.int .i64 f) (.int .i64 s) (.slice q n c) w1.heap.size) := HK0.out.keep hb2
  have HO2 : Hid (w2.ownsRow (w.heap.size + 3) 3 1 (.slice q n c) n (intsV l)) := own_keep HO0.out hb2 (own_lt HO0.out)
  clear hb2 HK0 HO0 k1 k2
  have k3 := row1_cells HK2.out.2.1
  have k4 := row1_cells HK2.out.2.2.1
  by_cases hp : 0 ≤ p ∧ p < (cutN n f s : Int)
  · obtain ⟨hp0, hp1⟩ := hp
    obtain ⟨j, rfl⟩ := Int.eq_ofNat_of_zero_le hp0
    obtain ⟨f0, f1, _, _⟩ := cutN_in (n := n) (f := f) (s := s) (by omega)
    obtain ⟨fn, rfl⟩ := Int.eq_ofNat_of_zero_le f0
    have hfn : fn + j < n := by simp at f1; omega
    have hat : atP n (fn : Int) s (j : Int) = ((fn + j : Nat) : Int) := by rw [atP_in (by omega)]; omega
    have HX : Hid (_ ∧ _) := stL_yes (x := x) HL.out (rfl : cutN n (fn : Int) s = _) (show j < _ by omega)
    obtain ⟨g, rfl, hg⟩ := own_addr HO2.out (by omega)
    have hgZ := HNE.out g rfl
    have hgZ1 : ¬ g = w1.heap.size := by omega
    have hgZ2 : ¬ w1.heap.size = g := by omega
    have hc := own_at HO2.out (j := fn + j) (by rw [HL.out]; exact hfn)
    have HO3 : Hid ((w2.setCell ⟨g, fn + j, none⟩ (.int .i64 (x % 65536))).ownsRow (w.heap.size + 3) 3 1 (.slice (some ⟨g, 0, none⟩) n c) n (intsV (stL l (fn : Int) s (j : Int) x))) := by
      have := own_put (x := x % 65536) HO2.out (j := fn + j) (by rw [HL.out]; exact hfn)
      rw [← HX.out.1] at this
      exact this
    have HK3 : Hid (KLive w (w2.setCell ⟨g, fn + j, none⟩ (.int .i64 (x % 65536))) (.slice (some ad) n cap) (.int .i64 (fn : Int)) (.int .i64 s) (.slice (some ⟨g, 0, none⟩) n c) w1.heap.size) := HK2.out.set hg (by omega)
    generalize l[fn + j]'(by rw [HL.out]; exact hfn) = old at hc
    rw [hat]
    have i0 : (0 : Int) ≤ ((fn + j : Nat) : Int) := by omega
    have i1 : ((fn + j : Nat) : Int) < (n : Int) := by omega
    clear hat f1 HO2 HK2 hp0 hp1
    generalize fn + j = i at hc hfn HO3 HK3 i0 i1 ⊢
    go_wp2_with fail
    go_region_held3 (fun w' => w'.cell? ⟨w1.heap.size, 0, none⟩ = some (.slice (some ⟨g, 0, none⟩) n c)) (go_keep) (first | (go_at_call 57; refine (modS x _).mono ?_; rintro e w3 ⟨rfl, rfl⟩))
    clear k3 k4
    have k3 := row1_cells HK3.out.2.1
    have k4 := row1_cells HK3.out.2.2.1
    go_wp2
    refine bodyPost_ret (v := .tuple #[.agg #[.slice (some ⟨g, 0, none⟩) n c], .bool true]) (by simp [results, Try.results58, go_sem, k3]) rfl ⟨_, by rw [HX.out.2], ?_, ?_⟩
    · exact own_setOther (own_mono HO3.out (by omega)) (fun g hg => by have := own_ge HO3.out g hg; omega)
    · exact (HK3.out.1.2.2.setCell (by simp; omega) _).drew
  · have HX : Hid (_ ∧ _) := stL_no (x := x) HL.out (rfl : cutN n f s = _) hp
    have hat : atP n f s p = -1 := if_neg hp
    have HO3 : Hid (w2.ownsRow (w.heap.size + 3) 3 1 (.slice q n c) n (intsV (stL l f s p x))) := by rw [HX.out.1]; exact HO2.out
    rw [hat]
    clear hat HO2 hp
    go_wp2
    refine bodyPost_ret (v := .tuple #[.agg #[.slice q n c], .bool false]) (by simp [results, Try.results58, go_sem, k3]) rfl ⟨_, by rw [HX.out.2], ?_, ?_⟩
    · exact own_setOther (own_mono HO3.out (by omega)) (fun g hg => by have := own_ge HO3.out g hg; omega)
    · exact HK2.out.1.2.2.setCell (by simp; omega) _
end Go.Proofs.Ythnocibkgpofnaa
