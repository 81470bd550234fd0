/-
  Menus of the program: areFigures, numberOf, MenuOk.
-/
import Derived.Test.YtckeffccoghgeaaDoorMnIa
namespace Go.Proofs.YtckeffccoghgeaaDoor
open Go.RowKit Go.PlainAid
set_option linter.unusedVariables false
set_option linter.unusedSimpArgs false

theorem w32_in {n : Int} (h0 : -2147483648 ≤ n) (h1 : n ≤ 2147483647) : IntKind.i32.wrap n = n := by
  rw [IntKind.wrap_i32]
  omega
/-- a text gone through rune by rune: where it is -/
structure IT (w w' : World) (K : ByteArray) (pos : Nat) : Prop where
  it : w'.heap[w.heap.size]? = some (.stringIter K pos)
  b : Below w.heap.size w w'
theorem it_new (w : World) (K : ByteArray) : IT w (w.alloc (.stringIter K 0)) K 0 := ⟨heap_new w _, alM _ _⟩
theorem IT.next {w w' : World} {K : ByteArray} {pos : Nat} (h : IT w w' K pos) (pos' : Nat) : IT w (w'.iterAt w.heap.size K pos') K pos' :=
  ⟨Lib.iterAt_heap w' w.heap.size K pos pos' h.it, Lib.below_iterAt h.b (Nat.le_refl _) K pos'⟩
theorem all_not {s : List UInt8} {j : Nat} (h : j < s.length) (hf : ¬ (48 ≤ (s[j].toNat : Int) ∧ (s[j].toNat : Int) ≤ 57)) : s.all figB = false := by
  cases e : s.all figB
  · rfl
  · exact absurd (of_decide_eq_true (List.all_eq_true.1 e _ (List.getElem_mem h))) hf
set_option maxRecDepth 100000 in
set_option maxHeartbeats 4000000 in
theorem areI (s : List UInt8) (S : ByteArray) (hS : (⟨s.toArray⟩ : ByteArray) = S) (B : Bool) (hB : s.all figB = B) (w : World) : Calls Tryd.prog 58 #[.string S] w fun e w' => e = .returned (.bool B) ∧ Below w.heap.size w w' := by
  have hsz := txt_size hS
  have HAT : Hid (∀ k (h : k < S.size) (h2 : k < s.length), (S[k]'h) = s[k]) := by show ∀ k (h : k < S.size) (h2 : k < s.length), (S[k]'h) = s[k]; intro k h h2; subst hS; rfl
  have HO : Hid (s.all figB = B) := hB
  have HI0 : Hid (IT w (w.alloc (.stringIter S 0)) S 0) := it_new w S
  clear hS hB
  go_enter Tryd.func58, Tryd.ntmps58
  go_wp2
  go_loopg [2] S.size (fun gk v wr => ∃ j : Nat, j + gk = S.size ∧ v = .bool false ∧ Hid (FigJ s j) ∧ Hid (IT w wr S j))
  case atStart => exact ⟨0, by omega, rfl, figJ_zero s, HI0⟩
  case round =>
    clear HI0
    obtain ⟨j, hj, rfl, HF, HI⟩ := hrel
    by_cases hlt : j < S.size
    · have hjl : j < s.length := by omega
      have hat := HAT.out j hlt hjl
      have hnx : ∀ ty, (Instr.next (.pointer (some ⟨w.heap.size, 0, none⟩)) true ty).run Tryd.prog wr = _ := fun ty => Lib.run_next_any_at wr w.heap.size S j ty HI.out.it hlt
      have HI1 := HI.out.next (j + (Utf8.decode S j).2)
      by_cases ha : (S[j]'hlt).toNat < 128
      · rw [decode_ascii S j hlt ha] at hnx HI1
        obtain ⟨z, hz⟩ : ∃ z : Nat, (S[j]'hlt).toNat = z := ⟨_, rfl⟩
        rw [hz] at ha
        dsimp only at hnx HI1
        rw [hz] at hnx
        obtain ⟨w1, hw1e⟩ : ∃ w1, wr.iterAt w.heap.size S (j + 1) = w1 := ⟨_, rfl⟩
        rw [hw1e] at hnx HI1
        have HI2 : Hid (IT w w1 S (j + 1)) := HI1
        have hz2 : s[j].toNat = z := by rw [← hat]; exact hz
        have q1 : IntKind.i32.wrap (z : Int) = (z : Int) := w32_in (by omega) (by omega)
        clear hw1e HI1 HI hat hz
        by_cases hf : 48 ≤ (z : Int) ∧ (z : Int) ≤ 57
        · have HF' : Hid (FigJ s (j + 1)) := figJ_succ HF.out hjl (by rw [hz2]; exact hf)
          have HD : Hid (decide (48 ≤ (z : Int) ∧ (z : Int) ≤ 57) = true) := decide_eq_true hf
          clear HF hz2 hf hjl
          go_wp2_with fail
          refine (figI (z : Int) true HD.out _).mono ?_
          rintro e w2 ⟨rfl, hw⟩
          obtain rfl : w1 = w2 := hw.symm
          clear hw hnx
          go_wp2
          go_roundg (gk - 1)
          case measure => omega
          case rel => exact ⟨j + 1, by omega, rfl, HF', HI2⟩
        · have HD : Hid (decide (48 ≤ (z : Int) ∧ (z : Int) ≤ 57) = false) := decide_eq_false hf
          obtain rfl : false = B := by rw [← HO.out]; exact (all_not hjl (by rw [hz2]; exact hf)).symm
          clear HF hz2 hf hjl
          go_wp2_with fail
          refine (figI (z : Int) false HD.out _).mono ?_
          rintro e w2 ⟨rfl, hw⟩
          obtain rfl : w1 = w2 := hw.symm
          clear hw hnx
          go_wp2
          go_ret
          exact ⟨rfl, HI2.out.b⟩
      · have ha' : 128 ≤ (S[j]'hlt).toNat := by omega
        obtain ⟨d1, d2⟩ := decode_high S j hlt ha'
        have d3 := dec_max S j
        obtain rfl : false = B := by rw [← HO.out]; exact (all_not hjl (by rw [← hat]; omega)).symm
        generalize (Utf8.decode S j).1 = r at *
        generalize (Utf8.decode S j).2 = d at *
        obtain ⟨w1, hw1e⟩ : ∃ w1, wr.iterAt w.heap.size S (j + d) = w1 := ⟨_, rfl⟩
        rw [hw1e] at hnx HI1
        have HI2 : Hid (IT w w1 S (j + d)) := HI1
        have HD : Hid (decide (48 ≤ (r : Int) ∧ (r : Int) ≤ 57) = false) := decide_eq_false (by omega)
        have q1 : IntKind.i32.wrap (r : Int) = (r : Int) := w32_in (by omega) (by omega)
        clear hw1e HI1 HI hat HF ha ha' hjl
        go_wp2_with fail
        refine (figI (r : Int) false HD.out _).mono ?_
        rintro e w2 ⟨rfl, hw⟩
        obtain rfl : w1 = w2 := hw.symm
        clear hw hnx
        go_wp2
        go_ret
        exact ⟨rfl, HI2.out.b⟩
    · have hnx : ∀ ty, (Instr.next (.pointer (some ⟨w.heap.size, 0, none⟩)) true ty).run Tryd.prog wr = _ := fun ty => Lib.run_next_end_at wr w.heap.size S j ty HI.out.it hlt
      obtain rfl : true = B := by rw [← HO.out]; exact (List.all_eq_true.2 (figJ_all HF.out (by omega))).symm
      have HB : Hid (Below w.heap.size w wr) := HI.out.b
      clear HF HI
      go_wp2
      go_ret
      exact ⟨rfl, HB.out⟩
end Go.Proofs.YtckeffccoghgeaaDoor
