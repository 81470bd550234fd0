/-
  Menus of the program: MenuNew, copyOfMenu, isFigure, areFigures, MenuOk, numberOf.
-/
import Derived.Test.YtjaimcmnndejgaaMnP
import Derived.Test.YtjaimcmnndejgaaMnL
import Derived.Test.YtjaimcmnndejgaaOrdK
import Derived.Test.YtjaimcmnndejgaaRunM
import Derived.Test.YtjaimcmnndejgaaShelf
import Derived.Lib.OthersKept
import Derived.Deep.CutRange
namespace Go.Proofs.Ytjaimcmnndejgaa
open Go.RowKit Go.PlainAid
set_option linter.unusedVariables false
set_option linter.unusedSimpArgs false

set_option maxRecDepth 100000 in
set_option maxHeartbeats 1000000 in
theorem menunewI (w : World) : Calls Try.prog 13 #[] w fun e w' => e = .returned (mnV newM) ∧ Below w.heap.size w w' := by
  go_enter Try.func13, Try.ntmps13
  go_wp2
  refine bodyPost_ret (v := mnV newM) (by simp [results, Try.results13, go_sem, mnV, newM]) rfl ⟨rfl, ?_⟩
  first | exact alM _ _ | (repeat' (first | exact alM _ _ | refine Below.setCell ?_ (Nat.le_refl _) _))
theorem cloneI (s : ByteArray) (w : World) (hs : s.size ≤ 281474976710656) :
    Calls Try.prog 48 #[.string s] w fun e w' => e = .returned (.string s) ∧ Below w.heap.size w w' := by
  go_enter Try.func48, Try.ntmps48
  go_wp2_with fail
  refine (Try.stringslite_Clone s _ hs).mono ?_
  rintro e w1 ⟨rfl, hb⟩
  go_wp2
  go_ret
  exact ⟨rfl, hb⟩
theorem box2m (w : World) (o p : Obj) : ((w.alloc o).alloc p).heap[w.heap.size]? = some o ∧ ((w.alloc o).alloc p).heap[w.heap.size + 1]? = some p ∧ Below w.heap.size w ((w.alloc o).alloc p) := by
  have h0 := heap_new w o
  have h1 := heap_new (w.alloc o) p
  exact ⟨row_on h0 (alM _ _), by simpa using h1, bel_on (Nat.le_refl _) (alM _ _) (alM _ _)⟩
set_option maxRecDepth 100000 in
set_option maxHeartbeats 2000000 in
theorem copyI (m : Mn) (hs : m.s.length ≤ 1048576) (w : World) : Calls Try.prog 34 #[mnV m] w fun e w' => e = .returned (mnV m) ∧ Below w.heap.size w w' := by
  obtain ⟨a, b, n, d, s⟩ := m
  obtain ⟨S, hS⟩ : ∃ S : ByteArray, (⟨s.toArray⟩ : ByteArray) = S := ⟨_, rfl⟩
  obtain ⟨h1, h2, h4⟩ := box2m w (.cells #[.int .i64 a, .bool b, .int .i64 n, .int .i64 d, .string S] 26) (.cells #[.int .i64 0, .bool false, .int .i64 0, .int .i64 0, .string ⟨#[]⟩] 26)
  have HP0 : Hid (_ = _) := h1
  have HZ0 : Hid (_ = _) := h2
  have HB0 : Hid (Below _ _ _) := h4
  have p0 := box5_cells h1
  have hsz := txt_size hS
  have hs' : S.size ≤ 281474976710656 := by dsimp only at hs; omega
  clear h1 h2 h4
  unfold mnV
  dsimp only
  rw [hS]
  clear hs hsz hS
  go_enter Try.func34, Try.ntmps34
  go_wp2_with fail
  refine (cloneI S _ hs').mono ?_
  rintro e w1 ⟨rfl, hb1⟩
  have HB1 : Hid (Below w.heap.size w w1) := bel_on (Nat.le_refl _) HB0.out hb1
  have HP1 : Hid (w1.heap[w.heap.size]? = some (.cells #[.int .i64 a, .bool b, .int .i64 n, .int .i64 d, .string S] 26)) := row_on HP0.out hb1
  have HZ1 : Hid (w1.heap[w.heap.size + 1]? = some (.cells #[.int .i64 0, .bool false, .int .i64 0, .int .i64 0, .string ⟨#[]⟩] 26)) := row_on HZ0.out hb1
  have p1 := box5_cells HP1.out
  clear hb1 HB0 HP0 HZ0 p0
  go_wp2_with (refine listStoreT rfl rfl _ _ _ rfl rfl w.heap.size 4 S rfl rfl HP1.out (by simp) ?_)
  intro w2 hput
  have HB2 : Hid (Below w.heap.size w w2) := hput.2.2.2 _ _ (Nat.le_refl _) HB1.out
  have HP2 : Hid (w2.heap[w.heap.size]? = some (.cells #[.int .i64 a, .bool b, .int .i64 n, .int .i64 d, .string S] 26)) := hput.1
  have HZ2 : Hid (w2.heap[w.heap.size + 1]? = some (.cells #[.int .i64 0, .bool false, .int .i64 0, .int .i64 0, .string ⟨#[]⟩] 26)) := hput.far HZ1.out (by omega)
  have p2 := box5_cells HP2.out
  clear hput HB1 HP1 HZ1 p1
  go_wp2_with (refine listStoreM rfl rfl _ _ _ rfl rfl (w.heap.size + 1) a b n d S rfl rfl HZ2.out ?_)
  intro w8 hput
  have HB8 : Hid (Below w.heap.size w w8) := hput.2.2.2 _ _ (Nat.le_succ _) HB2.out
  have zz := box5_cells hput.1
  clear hput HB2 HP2 HZ2 p2
  go_wp2
  refine bodyPost_ret (v := .agg #[.int .i64 a, .bool b, .int .i64 n, .int .i64 d, .string S]) (by simp only [results, Try.results34]; simp [go_sem, zz]) rfl ⟨rfl, HB8.out⟩
set_option maxRecDepth 100000 in
set_option maxHeartbeats 1000000 in
theorem figI (z : Int) (B : Bool) (hB : decide (48 ≤ z ∧ z ≤ 57) = B) (w : World) : Calls Try.prog 51 #[.int .i32 z] w fun e w' => e = .returned (.bool B) ∧ w' = w := by
  subst hB
  go_enter Try.func51, Try.ntmps51
  by_cases h1 : 48 ≤ z
  · by_cases h2 : z ≤ 57
    · rw [show decide (48 ≤ z ∧ z ≤ 57) = true from decide_eq_true ⟨h1, h2⟩]
      go_wp2
      go_ret
      exact ⟨rfl, rfl⟩
    · rw [show decide (48 ≤ z ∧ z ≤ 57) = false from decide_eq_false (fun h => h2 h.2)]
      go_wp2
      go_ret
      exact ⟨rfl, rfl⟩
  · rw [show decide (48 ≤ z ∧ z ≤ 57) = false from decide_eq_false (fun h => h1 h.1)]
    go_wp2
    go_ret
    exact ⟨rfl, rfl⟩
end Go.Proofs.Ytjaimcmnndejgaa
