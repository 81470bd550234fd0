/-
  The exact laws' own helpers over arenas and regions: contracts.
-/
import Derived.Test.YtgpdkodnggpkeaaSpec26
namespace Go.Proofs.Ytgpdkodnggpkeaa
open Go.RowKit Go.PlainAid
set_option linter.unusedVariables false

set_option maxRecDepth 100000 in
set_option maxHeartbeats 400000 in
theorem eqInts (a b : Option Addr) (l : List Int) (n ca cb : Nat) (hl : l.length = n) (hn : n ≤ 1048576) (w : World) (ha : Rd w a l) (hb : Rd w b l) :
    Calls Try.prog 46 #[.slice a n ca, .slice b n cb] w fun e w' => e = .returned (.bool true) ∧ Below w.heap.size w w' := by
  by_cases hp : 0 < n
  · obtain ⟨g, o1, rfl, hcg⟩ := ha (by omega)
    obtain ⟨h, o2, rfl, hch⟩ := hb (by omega)
    have HA : Hid (∀ j (hj : j < l.length), w.cell? ⟨g, o1 + j, none⟩ = some (.int .i64 l[j])) := hcg
    have HB : Hid (∀ j (hj : j < l.length), w.cell? ⟨h, o2 + j, none⟩ = some (.int .i64 l[j])) := hch
    have HL : Hid (l.length = n) := hl
    clear ha hb hcg hch hl
    go_enter Try.func46, Try.ntmps46
    go_wp2
    go_loopw [5] (fun i wr => ∃ (j q : Nat), j ≤ n ∧ i = .int .i64 j ∧ wr = w.drewN q) (fun i _ => n - (intOf i).toNat)
    case atStart => exact ⟨0, 0, Nat.zero_le _, rfl, rfl⟩
    case round =>
      obtain ⟨j, q, hj, rfl, rfl⟩ := hrel
      by_cases hlt : j < n
      · have c1 := HA.out j (by have := HL.out; omega)
        have c2 := HB.out j (by have := HL.out; omega)
        generalize l[j]'(by have := HL.out; omega) = x at c1 c2
        have i0 : (0 : Int) ≤ (j : Int) := by omega
        have i1 : (j : Int) < (n : Int) := by omega
        go_wp2
        go_quiet (fail)
        go_wp2
        go_roundw
        case rel => exact ⟨j + 1, q + nq, by omega, by go_num, rfl⟩
        case measure => simp [intOf]; omega
      · go_wp2
        go_ret
        exact ⟨rfl, below_drewN (Below.refl _ _) _⟩
  · obtain rfl : n = 0 := by omega
    clear ha hb hp
    go_enter Try.func46, Try.ntmps46
    go_wp2
    go_rounds 1
    go_ret
    exact ⟨rfl, Below.refl _ _⟩

/-- the marks k, k + 1, .. -/
def marks (k n : Nat) : List Int := (List.range n).map fun j => ((k + j : Nat) : Int)
theorem marks_len (k n : Nat) : (marks k n).length = n := by simp [marks]
theorem marks_succ (k n : Nat) : marks k (n + 1) = marks k n ++ [((k + n : Nat) : Int)] := by simp [marks, List.range_succ]
theorem marks_at (k n j : Nat) (h : j < (marks k n).length) : (marks k n)[j] = ((k + j : Nat) : Int) := by simp [marks]
def mixed (l : List Int) (k j : Nat) : List Int := marks k j ++ l.drop j
theorem mixed_len {l : List Int} {k j : Nat} (h : j ≤ l.length) : (mixed l k j).length = l.length := by unfold mixed; rw [List.length_append, marks_len, List.length_drop]; omega
theorem mixed_zero (l : List Int) (k : Nat) : mixed l k 0 = l := by simp [mixed, marks]
theorem mixed_all (l : List Int) (k n : Nat) (h : l.length = n) : mixed l k n = marks k n := by unfold mixed; rw [List.drop_of_length_le (by omega)]; simp
theorem mixed_set {l : List Int} {k j : Nat} (h : j < l.length) : (mixed l k j).set j ((k + j : Nat) : Int) = mixed l k (j + 1) := by
  unfold mixed
  rw [List.drop_eq_getElem_cons h, List.set_append_right _ _ (by rw [marks_len]; exact Nat.le_refl _), marks_len, marks_succ, Nat.sub_self, List.set_cons_zero, List.append_assoc]
  rfl

theorem grown_trans' {w w1 w2 : World} {r : Option Nat} (h : w.grownBy w1 r) (k : w1.grownBy w2 r) : w.grownBy w2 r :=
  ⟨k.os.trans h.os, k.tape.trans h.tape, k.output.trans h.output, Nat.le_trans h.size k.size, fun j hj hne => (k.block j (Nat.lt_of_lt_of_le hj h.size) hne).trans (h.block j hj hne)⟩
theorem grown_put (w : World) (C i : Nat) (v : Value) : w.grownBy (w.setCell ⟨C, i, none⟩ v) (some C) :=
  ⟨rfl, rfl, rfl, by simp, fun k _ hne => heap_setCell_other w _ k v (fun e => hne (by rw [e]))⟩
theorem grown_keep {w w' : World} {g B : Nat} {l : List Int} {C : Nat} (h : RowAt w g l) (hg : w.grownBy w' (some C)) (hne : C ≠ g) : RowAt w' g l := grown_row hg h (fun e => hne (by cases e; rfl))

set_option maxRecDepth 100000 in
set_option maxHeartbeats 400000 in
theorem markI (g : Nat) (l : List Int) (n k : Nat) (hl : l.length = n) (hn : n ≤ 1048576) (hk : k ≤ 1000000) (w : World) (h : RowAt w g l) :
    Calls Try.prog 49 #[.slice (some ⟨g, 0, none⟩) n n, .int .i64 k] w fun e w' => e = .returned (.int .i64 ((k : Int) + n)) ∧ RowAt w' g (marks k n) ∧ w.grownBy w' (some g) := by
  have HL : Hid (l.length = n) := hl
  have HROW : Hid (RowAt w g (mixed l k 0)) := by rw [mixed_zero]; exact h
  clear h hl
  go_enter Try.func49, Try.ntmps49
  go_wp2
  go_loopw [1, 5] (fun kv i wr => ∃ j : Nat, j ≤ n ∧ kv = .int .i64 (k + j : Nat) ∧ i = .int .i64 j ∧ Hid (RowAt wr g (mixed l k j)) ∧ Hid (w.grownBy wr (some g))) (fun _ i _ => n - (intOf i).toNat)
  case atStart => exact ⟨0, Nat.zero_le _, rfl, rfl, HROW, World.grownBy.refl _ _⟩
  case round =>
    clear HROW
    obtain ⟨j, hj, rfl, rfl, HR, HG⟩ := hrel
    by_cases hlt : j < n
    · have hm : j < (mixed l k j).length := by rw [mixed_len (by have := HL.out; omega), HL.out]; exact hlt
      have hcell := HR.out.cell j hm
      have hfr := HR.out.free j
      have HR' : Hid (RowAt (wr.setCell ⟨g, j, none⟩ (.int .i64 (k + j : Nat))) g (mixed l k (j + 1))) := by
        have := HR.out.set j ((k + j : Nat) : Int)
        rw [mixed_set (by have := HL.out; omega)] at this
        exact this
      have HG' : Hid (w.grownBy (wr.setCell ⟨g, j, none⟩ (.int .i64 (k + j : Nat))) (some g)) := grown_trans' HG.out (grown_put _ _ _ _)
      generalize (mixed l k j)[j] = old at hcell
      clear hm
      go_wp2
      go_roundw
      case rel => exact ⟨j + 1, by omega, by go_num, by go_num, HR', HG'⟩
      case measure => simp [intOf]; omega
    · obtain rfl : j = n := by omega
      have HR' : Hid (RowAt wr g (marks k j)) := by have := HR.out; rw [mixed_all l k j HL.out] at this; exact this
      go_wp2
      go_ret
      exact ⟨by go_num, HR'.out, HG.out⟩

set_option maxRecDepth 100000 in
set_option maxHeartbeats 400000 in
theorem heldI (g n k : Nat) (hn : n ≤ 1048576) (hk : k ≤ 1000000) (w : World) (h : RowAt w g (marks k n)) :
    Calls Try.prog 50 #[.slice (some ⟨g, 0, none⟩) n n, .int .i64 k] w fun e w' => e = .returned (.int .i64 ((k : Int) + n)) ∧ w' = w := by
  have HROW : Hid (RowAt w g (marks k n)) := h
  clear h
  go_enter Try.func50, Try.ntmps50
  go_wp2
  go_loopw [1, 5] (fun kv i wr => ∃ j : Nat, j ≤ n ∧ kv = .int .i64 (k + j : Nat) ∧ i = .int .i64 j ∧ wr = w) (fun _ i _ => n - (intOf i).toNat)
  case atStart => exact ⟨0, Nat.zero_le _, rfl, rfl, rfl⟩
  case round =>
    obtain ⟨j, hj, rfl, rfl, rfl⟩ := hrel
    by_cases hlt : j < n
    · have hm : j < (marks k n).length := by rw [marks_len]; exact hlt
      have hcell := HROW.out.cell j hm
      rw [marks_at] at hcell
      clear hm
      go_wp2
      go_roundw
      case rel => exact ⟨j + 1, by omega, by go_num, by go_num, trivial⟩
      case measure => simp [intOf]; omega
    · obtain rfl : j = n := by omega
      go_wp2
      go_ret
      exact ⟨by go_num, rfl⟩

/-- the first j copied, the rest still 0 -/
def upto (l : List Int) (n j : Nat) : List Int := l.take j ++ List.replicate (n - j) 0
theorem upto_zero (l : List Int) (n : Nat) : upto l n 0 = List.replicate n 0 := by simp [upto]
theorem upto_len {l : List Int} {n j : Nat} (hl : l.length = n) (h : j ≤ n) : (upto l n j).length = n := by simp [upto]; omega
theorem upto_all {l : List Int} {n : Nat} (hl : l.length = n) : upto l n n = l := by simp [upto]; exact List.take_of_length_le (by omega)
theorem upto_set {l : List Int} {n j : Nat} (hl : l.length = n) (h : j < n) (hj : j < l.length) : (upto l n j).set j l[j] = upto l n (j + 1) := by
  have h1 : (l.take j).length = j := by simp; omega
  unfold upto
  obtain ⟨m, hm⟩ : ∃ m, n - j = m + 1 := ⟨n - j - 1, by omega⟩
  rw [hm, show n - (j + 1) = m by omega, List.replicate_succ, List.set_append_right _ _ (by omega), h1, Nat.sub_self, List.set_cons_zero, List.take_succ_eq_append_getElem hj, List.append_assoc]
  rfl

set_option maxRecDepth 100000 in
set_option maxHeartbeats 400000 in
theorem toI (a : Option Addr) (l : List Int) (n cap : Nat) (hl : l.length = n) (hn : n ≤ 1048576) (w : World) (hr : Rd w a l) :
    Calls Try.prog 45 #[.slice a n cap] w fun e w' => e = .returned (.slice (some ⟨w.heap.size, 0, none⟩) n n) ∧ RowAt w' w.heap.size l ∧ Below w.heap.size w w' := by
  have HL : Hid (l.length = n) := hl
  have HW0 : Hid (Below w.heap.size w (w.alloc (.cells (intsV (List.replicate n 0)).toArray 3))) := (Below.refl w.heap.size w).alloc (Nat.le_refl _) _
  have HROW0 : Hid (RowAt (w.alloc (.cells (intsV (List.replicate n 0)).toArray 3)) w.heap.size (upto l n 0)) := by rw [upto_zero]; exact heap_new w _
  have hmk := run_make_row' (P := Try.prog) 24 3 (.int .i64 0) 8 Try.underlying24 info3 rfl .i64 .i64 n (by omega) (by omega)
  rw [made_ints] at hmk
  clear hl
  by_cases hp : 0 < n
  · obtain ⟨g, off, rfl, hc⟩ := hr (by have := HL.out; omega)
    have HR : Hid (∀ j (hj : j < l.length), w.cell? ⟨g, off + j, none⟩ = some (.int .i64 l[j])) := hc
    clear hr hc
    go_enter Try.func45, Try.ntmps45
    go_wp2
    go_loopw [4] (fun i wr => ∃ j : Nat, j ≤ n ∧ i = .int .i64 j ∧ Hid (RowAt wr w.heap.size (upto l n j)) ∧ Hid (Below w.heap.size w wr)) (fun i _ => n - (intOf i).toNat)
    case atStart => exact ⟨0, Nat.zero_le _, rfl, HROW0, HW0⟩
    case round =>
      clear HROW0 HW0
      obtain ⟨j, hj, rfl, HROW, HW⟩ := hrel
      by_cases hlt : j < n
      · have hjl : j < l.length := by have := HL.out; omega
        have c1 := (HW.out.cell (p := ⟨g, off + j, none⟩) (World.block_lt_of_cell? w ⟨g, off + j, none⟩ (HR.out j hjl))).trans (HR.out j hjl)
        have c2 := HROW.out.cell j (by rw [upto_len HL.out hj]; exact hlt)
        have c3 := HROW.out.free j
        have HROW' : Hid (RowAt (wr.setCell ⟨w.heap.size, j, none⟩ (.int .i64 l[j])) w.heap.size (upto l n (j + 1))) := by
          have := HROW.out.set j l[j]
          rw [upto_set HL.out hlt hjl] at this
          exact this
        have HW' : Hid (Below w.heap.size w (wr.setCell ⟨w.heap.size, j, none⟩ (.int .i64 l[j]))) := HW.out.setCell (Nat.le_refl _) _
        generalize (upto l n j)[j]'(by rw [upto_len HL.out hj]; exact hlt) = old at c2
        generalize l[j] = x at c1 HROW' HW'
        clear hjl HW HROW
        go_wp2
        go_roundw
        case rel => exact ⟨j + 1, by omega, by go_num, HROW', HW'⟩
        case measure => simp [intOf]; omega
      · obtain rfl : j = n := by omega
        have HROW' : Hid (RowAt wr w.heap.size l) := by have := HROW.out; rw [upto_all HL.out] at this; exact this
        clear HROW
        go_wp2
        go_ret
        exact ⟨rfl, HROW'.out, HW.out⟩
  · obtain rfl : n = 0 := by omega
    have HROW' : Hid (RowAt (w.alloc (.cells (intsV (List.replicate 0 0)).toArray 3)) w.heap.size l) := by have := HROW0.out; rw [upto_all HL.out] at this; exact this
    clear hr hp HROW0
    have hmk0 : ∀ w : World, (Instr.makeSlice 24 (.int .i64 0) (.int .i64 0)).run Try.prog w = .ok (.slice (some ⟨w.heap.size, 0, none⟩) 0 0) (w.alloc (.cells (intsV (List.replicate 0 0)).toArray 3)) := hmk
    clear hmk
    go_enter Try.func45, Try.ntmps45
    go_wp2
    go_rounds 1
    go_ret
    exact ⟨rfl, HROW'.out, HW0.out⟩

theorem two_start (w : World) (u x y : Value) (t r q : TypeId) :
    (((w.alloc (.cells #[u] t)).alloc (.cells #[x] r)).alloc (.cells #[y] q)).heap[w.heap.size + 1]? = some (.cells #[x] r) ∧ (((w.alloc (.cells #[u] t)).alloc (.cells #[x] r)).alloc (.cells #[y] q)).heap[w.heap.size + 2]? = some (.cells #[y] q) ∧ Below w.heap.size w (((w.alloc (.cells #[u] t)).alloc (.cells #[x] r)).alloc (.cells #[y] q)) ∧ (((w.alloc (.cells #[u] t)).alloc (.cells #[x] r)).alloc (.cells #[y] q)).heap.size = w.heap.size + 3 := by
  have h1 := heap_new (w.alloc (.cells #[u] t)) (.cells #[x] r)
  have h2 := heap_new ((w.alloc (.cells #[u] t)).alloc (.cells #[x] r)) (.cells #[y] q)
  refine ⟨(Below.heap_alloc _ _ _ (by simp)).trans (by simpa using h1), by simpa using h2, (((Below.refl _ _).alloc (Nat.le_refl _) _).alloc (by simp) _).alloc (by simp; omega) _, by simp⟩

theorem szI (a : Option Addr) (n cap : Nat) (hn : n ≤ 9223372036854775807) (w : World) : Calls Try.prog 43 #[.slice a n cap, .int .i64 1048576] w fun e w' => e = .returned (.int .i64 (if n ≤ 1048576 then 1048576 - (n : Int) else -1)) ∧ w' = w := by
  by_cases h : n ≤ 1048576
  · rw [if_pos h]
    go_enter Try.func43, Try.ntmps43
    go_wp2
    go_ret
    exact ⟨rfl, rfl⟩
  · rw [if_neg h]
    go_enter Try.func43, Try.ntmps43
    go_wp2
    go_ret
    exact ⟨rfl, rfl⟩

theorem atP_neg (n : Nat) (f s p : Int) : atP n f s p < 0 ↔ ¬ (0 ≤ p ∧ p < (cutN n f s : Int)) := by
  unfold atP
  split
  · rename_i h
    have := cutN_in (n := n) (f := f) (s := s) (by omega)
    omega
  · omega

theorem mod_lo (n : Int) (h : n.tmod 65536 < 0) : n.tmod 65536 + 65536 = n % 65536 := by
  rw [Int.tmod_eq_emod] at h ⊢
  split at h
  · rename_i hh
    omega
  · rename_i hh
    rw [if_neg hh]
    simp
theorem mod_hi (n : Int) (h : ¬ n.tmod 65536 < 0) : n.tmod 65536 = n % 65536 := by
  have h1 : n.tmod 65536 < 65536 := Int.tmod_lt_of_pos n (by decide)
  have h2 : n = 65536 * (n.tdiv 65536) + n.tmod 65536 := (Int.mul_tdiv_add_tmod n 65536).symm
  omega
end Go.Proofs.Ytgpdkodnggpkeaa
