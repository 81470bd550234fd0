/-
  Lists of numbers, as laws compare, copy and mark them.
-/
import Derived.Test.YtphijlknefgkiaaGreatDoorInts
import Derived.Test.YtphijlknefgkiaaGreatDoorLineW
import Derived.Test.YtphijlknefgkiaaGreatDoorLst11
import Derived.Deep.Slices
namespace Go.Proofs.YtphijlknefgkiaaGreatDoor.C
open Go.ChangeShapes Go.WideShapes Go.ChangeAt Go.RowKit Go.PlainAid
set_option linter.unusedVariables false

theorem made_ints (n : Nat) : madeCells #[.int .i64 0] n = (intsV (List.replicate n 0)).toArray := by
  apply Array.ext
  · simp [madeCells, intsV]
  · intro j h1 h2
    simp [madeCells, intsV, Nat.mod_one]

set_option maxRecDepth 100000 in
set_option maxHeartbeats 400000 in
theorem eqInts (a b : Option Addr) (l : List Int) (n ca cb : Nat) (hl : l.length = n) (hn : n ≤ 1048576) (w : World) (ha : Rd w a l) (hb : Rd w b l) :
    Calls Tryz.prog 32 #[.slice a n ca, .slice b n cb] w fun e w' => e = .returned (.bool true) ∧ Below w.heap.size w w' := by
  by_cases hp : 0 < n
  · obtain ⟨g, o1, rfl, hcg⟩ := ha (by omega)
    obtain ⟨h, o2, rfl, hch⟩ := hb (by omega)
    have HA : Hid (∀ j (hj : j < l.length), w.cell? ⟨g, o1 + j, none⟩ = some (.int .i64 l[j])) := hcg
    have HB : Hid (∀ j (hj : j < l.length), w.cell? ⟨h, o2 + j, none⟩ = some (.int .i64 l[j])) := hch
    have HL : Hid (l.length = n) := hl
    clear ha hb hcg hch hl
    go_enter Tryz.func32, Tryz.ntmps32
    go_wp2
    go_loopw [5] (fun i wr => ∃ (j q : Nat), j ≤ n ∧ i = .int .i64 j ∧ wr = w.drewN q) (fun i _ => n - (intOf i).toNat)
    case atStart => exact ⟨0, 0, Nat.zero_le _, rfl, rfl⟩
    case round =>
      obtain ⟨j, q, hj, rfl, rfl⟩ := hrel
      by_cases hlt : j < n
      · have c1 := HA.out j (by have := HL.out; omega)
        have c2 := HB.out j (by have := HL.out; omega)
        generalize l[j]'(by have := HL.out; omega) = x at c1 c2
        have i0 : (0 : Int) ≤ (j : Int) := by omega
        have i1 : (j : Int) < (n : Int) := by omega
        go_wp2
        go_quiet (fail)
        go_wp2
        go_roundw
        case rel => exact ⟨j + 1, q + nq, by omega, by go_num, rfl⟩
        case measure => simp [intOf]; omega
      · go_wp2
        go_ret
        exact ⟨rfl, below_drewN (Below.refl _ _) _⟩
  · obtain rfl : n = 0 := by omega
    clear ha hb hp
    go_enter Tryz.func32, Tryz.ntmps32
    go_wp2
    go_rounds 1
    go_ret
    exact ⟨rfl, Below.refl _ _⟩
theorem eqA (a b : Option Addr) (l : List Int) (n ca cb : Nat) (hl : l.length = n) (hn : n ≤ 1048576) (w : World) (ha : Rd w a l) (hb : Rd w b l) :
    Calls Tryz.prog 29 #[.agg #[.slice a n ca], .agg #[.slice b n cb]] w fun e w' => e = .returned (.bool true) ∧ Below w.heap.size w w' := by
  have HB : Hid (Below w.heap.size w ((w.alloc (.cells #[.slice a n ca] 38)).alloc (.cells #[.slice b n cb] 38))) := ((Below.refl _ _).alloc (Nat.le_refl _) _).alloc (by simp) _
  have HRa : Hid (Rd _ _ _) := ha.keep HB.out (Nat.le_refl _)
  have HRb : Hid (Rd _ _ _) := hb.keep HB.out (Nat.le_refl _)
  have HL : Hid (l.length = n) := hl
  clear ha hb hl
  go_enter Tryz.func29, Tryz.ntmps29
  go_wp2_with fail
  refine (eqInts a b l n ca cb HL.out hn _ HRa.out HRb.out).mono ?_
  rintro e w1 ⟨rfl, hb1⟩
  have HW : Hid (Below w.heap.size w w1) := HB.out.trans (hb1.mono HB.out.size)
  clear hb1
  go_wp2
  go_ret
  exact ⟨rfl, HW.out⟩
/-- the marks k, k + 1, .. -/
def marks (k n : Nat) : List Int := (List.range n).map fun j => ((k + j : Nat) : Int)
theorem marks_len (k n : Nat) : (marks k n).length = n := by simp [marks]
theorem marks_succ (k n : Nat) : marks k (n + 1) = marks k n ++ [((k + n : Nat) : Int)] := by simp [marks, List.range_succ]
theorem marks_at (k n j : Nat) (h : j < (marks k n).length) : (marks k n)[j] = ((k + j : Nat) : Int) := by simp [marks]
def mixed (l : List Int) (k j : Nat) : List Int := marks k j ++ l.drop j
theorem mixed_len {l : List Int} {k j : Nat} (h : j ≤ l.length) : (mixed l k j).length = l.length := by unfold mixed; rw [List.length_append, marks_len, List.length_drop]; omega
theorem mixed_zero (l : List Int) (k : Nat) : mixed l k 0 = l := by simp [mixed, marks]
theorem mixed_all (l : List Int) (k n : Nat) (h : l.length = n) : mixed l k n = marks k n := by unfold mixed; rw [List.drop_of_length_le (by omega)]; simp
theorem mixed_set {l : List Int} {k j : Nat} (h : j < l.length) : (mixed l k j).set j ((k + j : Nat) : Int) = mixed l k (j + 1) := by
  unfold mixed
  rw [List.drop_eq_getElem_cons h, List.set_append_right _ _ (by rw [marks_len]; exact Nat.le_refl _), marks_len, marks_succ, Nat.sub_self, List.set_cons_zero, List.append_assoc]
  rfl
theorem grown_keep {w w' : World} {g B : Nat} {l : List Int} {C : Nat} (h : RowAt w g l) (hg : w.grownBy w' (some C)) (hne : C ≠ g) : RowAt w' g l := grown_row hg h (fun e => hne (by cases e; rfl))
set_option maxRecDepth 100000 in
set_option maxHeartbeats 400000 in
theorem markI (g : Nat) (l : List Int) (n k : Nat) (hl : l.length = n) (hn : n ≤ 1048576) (hk : k ≤ 1000000000000) (w : World) (h : RowAt w g l) :
    Calls Tryz.prog 47 #[.slice (some ⟨g, 0, none⟩) n n, .int .i64 k] w fun e w' => e = .returned (.int .i64 ((k : Int) + n)) ∧ RowAt w' g (marks k n) ∧ w.grownBy w' (some g) := by
  have HL : Hid (l.length = n) := hl
  have HROW : Hid (RowAt w g (mixed l k 0)) := by rw [mixed_zero]; exact h
  clear h hl
  go_enter Tryz.func47, Tryz.ntmps47
  go_wp2
  go_loopw [1, 5] (fun kv i wr => ∃ j : Nat, j ≤ n ∧ kv = .int .i64 (k + j : Nat) ∧ i = .int .i64 j ∧ Hid (RowAt wr g (mixed l k j)) ∧ Hid (w.grownBy wr (some g))) (fun _ i _ => n - (intOf i).toNat)
  case atStart => exact ⟨0, Nat.zero_le _, rfl, rfl, HROW, World.grownBy.refl _ _⟩
  case round =>
    clear HROW
    obtain ⟨j, hj, rfl, rfl, HR, HG⟩ := hrel
    by_cases hlt : j < n
    · have hm : j < (mixed l k j).length := by rw [mixed_len (by have := HL.out; omega), HL.out]; exact hlt
      have hcell := HR.out.cell j hm
      have hfr := HR.out.free j
      have HR' : Hid (RowAt (wr.setCell ⟨g, j, none⟩ (.int .i64 (k + j : Nat))) g (mixed l k (j + 1))) := by
        have := HR.out.set j ((k + j : Nat) : Int)
        rw [mixed_set (by have := HL.out; omega)] at this
        exact this
      have HG' : Hid (w.grownBy (wr.setCell ⟨g, j, none⟩ (.int .i64 (k + j : Nat))) (some g)) := grown_trans' HG.out (grown_put _ _ _ _)
      generalize (mixed l k j)[j] = old at hcell
      clear hm
      go_wp2
      go_roundw
      case rel => exact ⟨j + 1, by omega, by go_num, by go_num, HR', HG'⟩
      case measure => simp [intOf]; omega
    · obtain rfl : j = n := by omega
      have HR' : Hid (RowAt wr g (marks k j)) := by have := HR.out; rw [mixed_all l k j HL.out] at this; exact this
      go_wp2
      go_ret
      exact ⟨by go_num, HR'.out, HG.out⟩
theorem markA (g : Nat) (l : List Int) (n k : Nat) (K : Int) (hK : K = k) (hl : l.length = n) (hn : n ≤ 1048576) (hk : k ≤ 1000000000000) (w : World) (h : RowAt w g l) :
    Calls Tryz.prog 44 #[.agg #[.slice (some ⟨g, 0, none⟩) n n], .int .i64 K] w fun e w' => e = .returned (.int .i64 (K + n)) ∧ RowAt w' g (marks k n) ∧ w.grownBy w' (some g) := by
  subst hK
  have HROW : Hid (RowAt (w.alloc (.cells #[.slice (some ⟨g, 0, none⟩) n n] 38)) g l) := (Below.heap_alloc _ _ _ h.lt).trans h
  have HG : Hid (w.grownBy (w.alloc (.cells #[.slice (some ⟨g, 0, none⟩) n n] 38)) (some g)) := World.grownBy_alloc _ _ _
  have HL : Hid (l.length = n) := hl
  clear h hl
  go_enter Tryz.func44, Tryz.ntmps44
  go_wp2_with fail
  refine (markI g l n k HL.out hn hk _ HROW.out).mono ?_
  rintro e w1 ⟨rfl, hr, hg⟩
  have HR : Hid (RowAt w1 g (marks k n)) := hr
  have HG1 : Hid (w.grownBy w1 (some g)) := grown_trans' HG.out hg
  clear hr hg
  go_wp2
  go_ret
  exact ⟨rfl, HR.out, HG1.out⟩
set_option maxRecDepth 100000 in
set_option maxHeartbeats 400000 in
theorem heldI (g n k : Nat) (hn : n ≤ 1048576) (hk : k ≤ 1000000000000) (w : World) (h : RowAt w g (marks k n)) :
    Calls Tryz.prog 53 #[.slice (some ⟨g, 0, none⟩) n n, .int .i64 k] w fun e w' => e = .returned (.int .i64 ((k : Int) + n)) ∧ w' = w := by
  have HROW : Hid (RowAt w g (marks k n)) := h
  clear h
  go_enter Tryz.func53, Tryz.ntmps53
  go_wp2
  go_loopw [1, 5] (fun kv i wr => ∃ j : Nat, j ≤ n ∧ kv = .int .i64 (k + j : Nat) ∧ i = .int .i64 j ∧ wr = w) (fun _ i _ => n - (intOf i).toNat)
  case atStart => exact ⟨0, Nat.zero_le _, rfl, rfl, rfl⟩
  case round =>
    obtain ⟨j, hj, rfl, rfl, rfl⟩ := hrel
    by_cases hlt : j < n
    · have hm : j < (marks k n).length := by rw [marks_len]; exact hlt
      have hcell := HROW.out.cell j hm
      rw [marks_at] at hcell
      clear hm
      go_wp2
      go_roundw
      case rel => exact ⟨j + 1, by omega, by go_num, by go_num, trivial⟩
      case measure => simp [intOf]; omega
    · obtain rfl : j = n := by omega
      go_wp2
      go_ret
      exact ⟨by go_num, rfl⟩
theorem heldA (g n k : Nat) (K : Int) (hK : K = k) (hn : n ≤ 1048576) (hk : k ≤ 1000000000000) (w : World) (h : RowAt w g (marks k n)) :
    Calls Tryz.prog 50 #[.agg #[.slice (some ⟨g, 0, none⟩) n n], .int .i64 K] w fun e w' => e = .returned (.int .i64 (K + n)) ∧ Below w.heap.size w w' := by
  subst hK
  have HROW : Hid (RowAt (w.alloc (.cells #[.slice (some ⟨g, 0, none⟩) n n] 38)) g (marks k n)) := (Below.heap_alloc _ _ _ h.lt).trans h
  clear h
  go_enter Tryz.func50, Tryz.ntmps50
  go_wp2_with fail
  refine (heldI g n k hn hk _ HROW.out).mono ?_
  rintro e w1 ⟨rfl, rfl⟩
  go_wp2
  go_ret
  exact ⟨rfl, (Below.refl _ _).alloc (Nat.le_refl _) _⟩
/-- the first j copied, the rest still 0 -/
def upto (l : List Int) (n j : Nat) : List Int := l.take j ++ List.replicate (n - j) 0
theorem upto_zero (l : List Int) (n : Nat) : upto l n 0 = List.replicate n 0 := by simp [upto]
theorem upto_len {l : List Int} {n j : Nat} (hl : l.length = n) (h : j ≤ n) : (upto l n j).length = n := by simp [upto]; omega
theorem upto_all {l : List Int} {n : Nat} (hl : l.length = n) : upto l n n = l := by simp [upto]; exact List.take_of_length_le (by omega)
theorem upto_set {l : List Int} {n j : Nat} (hl : l.length = n) (h : j < n) (hj : j < l.length) : (upto l n j).set j l[j] = upto l n (j + 1) := by
  have h1 : (l.take j).length = j := by simp; omega
  unfold upto
  obtain ⟨m, hm⟩ : ∃ m, n - j = m + 1 := ⟨n - j - 1, by omega⟩
  rw [hm, show n - (j + 1) = m by omega, List.replicate_succ, List.set_append_right _ _ (by omega), h1, Nat.sub_self, List.set_cons_zero, List.take_succ_eq_append_getElem hj, List.append_assoc]
  rfl
theorem two_start (w : World) (u x y : Value) (t r q : TypeId) :
    (((w.alloc (.cells #[u] t)).alloc (.cells #[x] r)).alloc (.cells #[y] q)).heap[w.heap.size + 1]? = some (.cells #[x] r) ∧ (((w.alloc (.cells #[u] t)).alloc (.cells #[x] r)).alloc (.cells #[y] q)).heap[w.heap.size + 2]? = some (.cells #[y] q) ∧ Below w.heap.size w (((w.alloc (.cells #[u] t)).alloc (.cells #[x] r)).alloc (.cells #[y] q)) ∧ (((w.alloc (.cells #[u] t)).alloc (.cells #[x] r)).alloc (.cells #[y] q)).heap.size = w.heap.size + 3 := by
  have h1 := heap_new (w.alloc (.cells #[u] t)) (.cells #[x] r)
  have h2 := heap_new ((w.alloc (.cells #[u] t)).alloc (.cells #[x] r)) (.cells #[y] q)
  refine ⟨(Below.heap_alloc _ _ _ (by simp)).trans (by simpa using h1), by simpa using h2, (((Below.refl _ _).alloc (Nat.le_refl _) _).alloc (by simp) _).alloc (by simp; omega) _, by simp⟩
theorem cellI : Tryz.prog.cellsOf 3 = 1 := by kernel_rfl
theorem openI {H : Type} {enc : TypeId × Value → H} {W : World} {held : Bool} {v : Value} {x : DataW H × List MemPlace} {bs fuel : Nat}
    (hf : DataW.trod enc Tryz.prog W bs (fun _ => true) held fuel 36 [v] = some x) :
    ∃ a len cap, ∃ l : List Int, v = .slice a len cap ∧ l.length = len ∧ len ≤ cap ∧ len ≤ 9223372036854775807 ∧ Rd W a l ∧ ∀ j (h : j < l.length), (Lit.int .i64 l[j]).wf = true := by
  rcases Go.Deep.open_slice Tryz.underlying36 hf with ⟨hcs, _⟩ | ⟨ad, l, c, m, k, D, Pl, hcs, _, hl, hm, hmm, _, hcell⟩
  · simp at hcs
    subst hcs
    exact ⟨none, 0, 0, [], rfl, rfl, Nat.le_refl _, by omega, fun h => by simp at h, fun j h => by simp at h⟩
  · simp at hcs
    subst hcs
    simp at hmm
    subst hmm
    unfold maxLen at hm
    have each : ∀ i, i < l → ∃ z : Int, W.cell? (ad.add i) = some (.int .i64 z) ∧ (Lit.int .i64 z).wf = true := by
      intro i hi
      obtain ⟨cs', h1, h2⟩ := hcell i (by omega)
      rw [cellI, Nat.mul_one] at h1
      obtain ⟨_, hlen, hc⟩ := World.cells?_some h1
      obtain ⟨z, rfl, _, hz⟩ := DataW.trod_int Tryz.underlying3 h2
      have e0 := hc 0 (by omega)
      rw [Go.Deep.add_add] at e0
      exact ⟨z, by simpa using e0, hz⟩
    obtain ⟨q, hq⟩ := Go.Deep.choose_lt each
    refine ⟨some ad, l, _, (List.range l).map q, rfl, by simp, hl, by omega, fun h0 => ?_, fun j hj => ?_⟩
    · have h0' : 0 < l := by simpa using h0
      obtain ⟨b, off, spot⟩ := ad
      have hspot : spot = none := by simpa [Addr.add] using World.cell?_spot (hq 0 (by omega)).1
      subst hspot
      refine ⟨b, off, rfl, fun j hj => ?_⟩
      have hj' : j < l := by simpa using hj
      obtain ⟨h0, _⟩ := hq j hj'
      rw [add_at] at h0
      simp only [List.getElem_map, List.getElem_range]
      exact h0
    · have hj' : j < l := by simpa using hj
      simp only [List.getElem_map, List.getElem_range]
      exact (hq j hj').2
end Go.Proofs.YtphijlknefgkiaaGreatDoor.C
