/-
  The draws of two numbers.
-/
import Derived.Test.YtcjidlbpkijmnaaPlaces
namespace Go.Proofs.Ytcjidlbpkijmnaa
open Go.RowKit Go.PlainAid
set_option linter.unusedVariables false

set_option maxHeartbeats 400000 in
theorem pick26 (C B : Nat) (a : Option Addr) (len cap : Nat) (l : List Int) (g cp : Nat) (hl : 0 < l.length) (hl2 : l.length ≤ 1000) (w : World) (hC : Cur w C a len cap) (hB : B ≤ C) (hcode : CodeOk w B a len)
    (hg : g ≠ C) (hgl : g < w.heap.size) (hcell : ∀ j (hj : j < l.length), w.cell? ⟨g, j, none⟩ = some (.int .i64 l[j])) :
    Calls Try.prog 26 #[.pointer (some ⟨C, 0, none⟩), .slice (some ⟨g, 0, none⟩) l.length cp] w fun e w' => ∃ x : Int, e = .returned (.int .i64 x) ∧ x ∈ l ∧ Drawn w w' C B a len cap := by
  have HD0 : Hid (Drawn w w C B a len cap) := ⟨hC, hcode, World.grownBy.refl _ _⟩
  have HC : Hid (∀ j (hj : j < l.length), w.cell? ⟨g, j, none⟩ = some (.int .i64 l[j])) := hcell
  clear hC hcode hcell
  go_enter Try.func26, Try.ntmps26
  go_wp2_with fail
  refine (below28 C B a len cap _ (by omega) (by omega) _ HD0.out.1 hB HD0.out.2.1).mono ?_
  rintro e w1 ⟨x, rfl, x0, x1, hD⟩
  obtain ⟨n, rfl⟩ := Int.eq_ofNat_of_zero_le x0
  have hn : n < l.length := by omega
  have hc : w1.cell? ⟨g, n, none⟩ = some (.int .i64 l[n]) := (hD.2.2.cell_far ⟨g, n, none⟩ hgl (fun e => by cases e; exact hg rfl)).trans (HC.out n hn)
  have hm : l[n] ∈ l := List.getElem_mem hn
  have HD : Hid (Drawn w w1 C B a len cap) := hD
  clear hD HD0
  have HM : Hid (l[n] ∈ l) := hm
  clear hm
  go_wp2
  go_ret
  exact ⟨_, rfl, HM.out, HD.out⟩

theorem pick26' (C B : Nat) (a : Option Addr) (len cap : Nat) (l : List Int) (n g cp : Nat) (hn : l.length = n) (hl : 0 < n) (hl2 : n ≤ 1000) (w : World) (hC : Cur w C a len cap) (hB : B ≤ C) (hcode : CodeOk w B a len)
    (hg : g ≠ C) (hgl : g < w.heap.size) (hcell : ∀ j (hj : j < l.length), w.cell? ⟨g, j, none⟩ = some (.int .i64 l[j])) :
    Calls Try.prog 26 #[.pointer (some ⟨C, 0, none⟩), .slice (some ⟨g, 0, none⟩) n cp] w fun e w' => ∃ x : Int, e = .returned (.int .i64 x) ∧ x ∈ l ∧ Drawn w w' C B a len cap := by
  subst hn; exact pick26 C B a len cap l g cp hl hl2 w hC hB hcode hg hgl hcell

/-- a list of ints that has just been laid -/
theorem laid_ints (w : World) (l : List Int) (j : Nat) (hj : j < l.length) : (w.alloc (.cells (l.map (Value.int .i64)).toArray 3)).cell? ⟨w.heap.size, j, none⟩ = some (.int .i64 l[j]) := by
  rw [cell_of_row _ w.heap.size j _ 3 (0, 0) (heap_alloc_new w _)]
  simp [hj]
/-- a number that is an int -/
def Fits (x : Int) : Prop := -9223372036854775808 ≤ x ∧ x ≤ 9223372036854775807

set_option maxHeartbeats 1000000 in
theorem int21 (C B : Nat) (a : Option Addr) (len cap : Nat) (w : World) (hC : Cur w C a len cap) (hB : B ≤ C) (hcode : CodeOk w B a len) :
    Calls Try.prog 21 #[.pointer (some ⟨C, 0, none⟩)] w fun e w' => ∃ x : Int, e = .returned (.int .i64 x) ∧ Fits x ∧ Drawn w w' C B a len cap := by
  have hlt := cur_lt hC
  have HD0 : Hid (Drawn w w C B a len cap) := ⟨hC, hcode, World.grownBy.refl _ _⟩
  clear hC hcode
  go_enter Try.func21, Try.ntmps21
  go_wp2_with fail
  refine (below28 C B a len cap 5 (by omega) (by omega) _ HD0.out.1 hB HD0.out.2.1).mono ?_
  rintro e w1 ⟨x, rfl, x0, x1, hD⟩
  have HD1 : Hid (Drawn w w1 C B a len cap) := hD
  have s1 := hD.2.2.size
  clear hD HD0
  by_cases h0 : (x == 0) = true
  · have HA : Hid (∀ o, Drawn w (w1.alloc o) C B a len cap) := fun o => drawn_alloc HD1.out (by omega) o
    have hlay := laid_ints w1 [0, 1, -1, 1000000000000, -1000000000000, 1000000000001, 9223372036854775807, -9223372036854775808]
    have HL : Hid _ := hlay
    have s2 := cur_lt HD1.out.1
    clear hlay
    go_wp2_with fail
    refine (pick26' C B a len cap [0, 1, -1, 1000000000000, -1000000000000, 1000000000001, 9223372036854775807, -9223372036854775808] 8 _ _ rfl (by omega) (by omega) _ (HA.out _).1 hB (HA.out _).2.1 (by omega) (by simp) HL.out).mono ?_
    rintro e w2 ⟨y, rfl, hy, hD⟩
    have hy2 : Fits y := by
      simp only [List.mem_cons, List.not_mem_nil, or_false] at hy
      unfold Fits
      omega
    have HD2 : Hid (Drawn w w2 C B a len cap) := drawn_trans (HA.out _) hD
    clear hD hy HA HL HD1
    go_wp2
    go_ret
    exact ⟨_, rfl, hy2, HD2.out⟩
  · have h0' : (x == 0) = false := by simpa using h0
    clear h0
    by_cases h1 : (x == 1) = true
    · go_wp2_with fail
      refine (below28 C B a len cap 2000001 (by omega) (by omega) _ HD1.out.1 hB HD1.out.2.1).mono ?_
      rintro e w2 ⟨y, rfl, y0, y1, hD⟩
      have HD2 : Hid (Drawn w w2 C B a len cap) := drawn_trans HD1.out hD
      clear hD HD1
      go_wp2
      go_ret
      exact ⟨_, rfl, (show Fits _ from by unfold Fits; omega), HD2.out⟩
    · have h1' : (x == 1) = false := by simpa using h1
      clear h1
      go_wp2_with fail
      refine (below28 C B a len cap 20001 (by omega) (by omega) _ HD1.out.1 hB HD1.out.2.1).mono ?_
      rintro e w2 ⟨y, rfl, y0, y1, hD⟩
      have HD2 : Hid (Drawn w w2 C B a len cap) := drawn_trans HD1.out hD
      clear hD HD1
      go_wp2
      go_ret
      exact ⟨_, rfl, (show Fits _ from by unfold Fits; omega), HD2.out⟩

set_option maxHeartbeats 400000 in
theorem draw9 (B : Nat) (a : Option Addr) (len cap : Nat) (w : World) (hcode : CodeOk w B a len) (hB : B ≤ w.heap.size) :
    Calls Try.prog 9 #[.slice a len cap] w fun e w' => ∃ x y : Int, e = .returned (.tuple #[.int .i64 x, .int .i64 y]) ∧ Fits x ∧ Fits y ∧ Below w.heap.size w w' := by
  have HC : Hid (CodeOk w B a len) := hcode
  clear hcode
  go_enter Try.func9, Try.ntmps9
  go_wp2_with fail
  refine (new23 B a len cap _ HC.out hB).mono ?_
  rintro e w1 ⟨C, rfl, hC, hcur, hcode, hb1⟩
  have HCu : Hid (Cur w1 C a len cap) := hcur
  have HCo : Hid (CodeOk w1 B a len) := hcode
  have s1 := hb1.size
  clear hcur hcode
  go_wp2_with fail
  refine (int21 C B a len cap _ HCu.out (by omega) HCo.out).mono ?_
  rintro e w2 ⟨x, rfl, hx, hD⟩
  have HD2 : Hid (Drawn w1 w2 C B a len cap) := hD
  clear hD HCu HCo
  go_wp2_with fail
  refine (int21 C B a len cap _ HD2.out.1 (by omega) HD2.out.2.1).mono ?_
  rintro e w3 ⟨y, rfl, hy, hD⟩
  have hb := drawn_below hb1 hC (drawn_trans HD2.out hD)
  clear hD HD2 hb1
  go_wp2
  go_ret2
  exact ⟨x, y, rfl, hx, hy, hb⟩

set_option maxHeartbeats 400000 in
theorem draw11 (B : Nat) (a : Option Addr) (len cap : Nat) (w : World) (hcode : CodeOk w B a len) (hB : B ≤ w.heap.size) :
    Calls Try.prog 11 #[.slice a len cap] w fun e w' => ∃ x y : Int, e = .returned (.tuple #[.int .i64 x, .int .i64 y]) ∧ Fits x ∧ Fits y ∧ Below w.heap.size w w' := by
  have HC : Hid (CodeOk w B a len) := hcode
  clear hcode
  go_enter Try.func11, Try.ntmps11
  go_wp2_with fail
  refine (new23 B a len cap _ HC.out hB).mono ?_
  rintro e w1 ⟨C, rfl, hC, hcur, hcode, hb1⟩
  have HCu : Hid (Cur w1 C a len cap) := hcur
  have HCo : Hid (CodeOk w1 B a len) := hcode
  have s1 := hb1.size
  clear hcur hcode
  go_wp2_with fail
  refine (int21 C B a len cap _ HCu.out (by omega) HCo.out).mono ?_
  rintro e w2 ⟨x, rfl, hx, hD⟩
  have HD2 : Hid (Drawn w1 w2 C B a len cap) := hD
  clear hD HCu HCo
  go_wp2_with fail
  refine (int21 C B a len cap _ HD2.out.1 (by omega) HD2.out.2.1).mono ?_
  rintro e w3 ⟨y, rfl, hy, hD⟩
  have hb := drawn_below hb1 hC (drawn_trans HD2.out hD)
  clear hD HD2 hb1
  go_wp2
  go_ret2
  exact ⟨x, y, rfl, hx, hy, hb⟩

end Go.Proofs.Ytcjidlbpkijmnaa
