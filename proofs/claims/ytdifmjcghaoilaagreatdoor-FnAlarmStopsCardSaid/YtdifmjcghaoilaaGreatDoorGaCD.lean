/-
  Menus of the program: MenuNew, copyOfMenu, isFigure, areFigures, MenuOk, numberOf.
-/
import Derived.Test.YtdifmjcghaoilaaGreatDoorGaBP
import Derived.Test.YtdifmjcghaoilaaGreatDoorGaCC
import Derived.Test.YtdifmjcghaoilaaGreatDoorGaBL
import Derived.Test.YtdifmjcghaoilaaGreatDoorGaBU
import Derived.Test.YtdifmjcghaoilaaGreatDoorShelf
import Derived.Lib.OthersKept
import Derived.Deep.CutRange
namespace Go.Proofs.YtdifmjcghaoilaaGreatDoor
open Go.RowKit Go.PlainAid
set_option linter.unusedVariables false
set_option linter.unusedSimpArgs false

set_option maxRecDepth 100000 in
set_option maxHeartbeats 1000000 in
theorem menunewI (w : World) : Calls Tryz.prog 41 #[] w fun e w' => e = .returned (mnV newM) ∧ Below w.heap.size w w' := by
  go_enter Tryz.func41, Tryz.ntmps41
  go_wp2
  refine bodyPost_ret (v := mnV newM) (by simp [results, Tryz.results41, go_sem, mnV, newM]) rfl ⟨rfl, ?_⟩
  first | exact alM _ _ | (repeat' (first | exact alM _ _ | refine Below.setCell ?_ (Nat.le_refl _) _))
theorem cloneI (s : ByteArray) (w : World) (hs : s.size ≤ 281474976710656) :
    Calls Tryz.prog 62 #[.string s] w fun e w' => e = .returned (.string s) ∧ Below w.heap.size w w' := by
  go_enter Tryz.func62, Tryz.ntmps62
  go_wp2_with fail
  refine (Tryz.stringslite_Clone s _ hs).mono ?_
  rintro e w1 ⟨rfl, hb⟩
  go_wp2
  go_ret
  exact ⟨rfl, hb⟩
theorem box2m (w : World) (o p : Obj) : ((w.alloc o).alloc p).heap[w.heap.size]? = some o ∧ ((w.alloc o).alloc p).heap[w.heap.size + 1]? = some p ∧ Below w.heap.size w ((w.alloc o).alloc p) := by
  have h0 := heap_new w o
  have h1 := heap_new (w.alloc o) p
  exact ⟨row_on h0 (alM _ _), by simpa using h1, bel_on (Nat.le_refl _) (alM _ _) (alM _ _)⟩
set_option maxRecDepth 100000 in
set_option maxHeartbeats 2000000 in
theorem copyI (m : Mn) (hs : m.s.length ≤ 1048576) (w : World) : Calls Tryz.prog 38 #[mnV m] w fun e w' => e = .returned (mnV m) ∧ Below w.heap.size w w' := by
  obtain ⟨a, b, n, d, s⟩ := m
  obtain ⟨S, hS⟩ : ∃ S : ByteArray, (⟨s.toArray⟩ : ByteArray) = S := ⟨_, rfl⟩
  obtain ⟨h1, h2, h4⟩ := box2m w (.cells #[.int .i64 a, .bool b, .int .i64 n, .int .i64 d, .string S] 32) (.cells #[.int .i64 0, .bool false, .int .i64 0, .int .i64 0, .string ⟨#[]⟩] 32)
  have HP0 : Hid (_ = _) := h1
  have HZ0 : Hid (_ = _) := h2
  have HB0 : Hid (Below _ _ _) := h4
  have p0 := box5_cells h1
  have hsz := txt_size hS
  have hs' : S.size ≤ 281474976710656 := by dsimp only at hs; omega
  clear h1 h2 h4
  unfold mnV
  dsimp only
  rw [hS]
  clear hs hsz hS
  go_enter Tryz.func38, Tryz.ntmps38
  go_wp2_with fail
  refine (cloneI S _ hs').mono ?_
  rintro e w1 ⟨rfl, hb1⟩
  have HB1 : Hid (Below w.heap.size w w1) := bel_on (Nat.le_refl _) HB0.out hb1
  have HP1 : Hid (w1.heap[w.heap.size]? = some (.cells #[.int .i64 a, .bool b, .int .i64 n, .int .i64 d, .string S] 32)) := row_on HP0.out hb1
  have HZ1 : Hid (w1.heap[w.heap.size + 1]? = some (.cells #[.int .i64 0, .bool false, .int .i64 0, .int .i64 0, .string ⟨#[]⟩] 32)) := row_on HZ0.out hb1
  have p1 := box5_cells HP1.out
  clear hb1 HB0 HP0 HZ0 p0
  go_wp2_with (refine listStoreT rfl rfl _ _ _ rfl rfl w.heap.size 4 S rfl rfl HP1.out (by simp) ?_)
  intro w2 hput
  have HB2 : Hid (Below w.heap.size w w2) := hput.2.2.2 _ _ (Nat.le_refl _) HB1.out
  have HP2 : Hid (w2.heap[w.heap.size]? = some (.cells #[.int .i64 a, .bool b, .int .i64 n, .int .i64 d, .string S] 32)) := hput.1
  have HZ2 : Hid (w2.heap[w.heap.size + 1]? = some (.cells #[.int .i64 0, .bool false, .int .i64 0, .int .i64 0, .string ⟨#[]⟩] 32)) := hput.far HZ1.out (by omega)
  have p2 := box5_cells HP2.out
  clear hput HB1 HP1 HZ1 p1
  go_wp2_with (refine listStoreM rfl rfl _ _ _ rfl rfl (w.heap.size + 1) a b n d S rfl rfl HZ2.out ?_)
  intro w8 hput
  have HB8 : Hid (Below w.heap.size w w8) := hput.2.2.2 _ _ (Nat.le_succ _) HB2.out
  have zz := box5_cells hput.1
  clear hput HB2 HP2 HZ2 p2
  go_wp2
  refine bodyPost_ret (v := .agg #[.int .i64 a, .bool b, .int .i64 n, .int .i64 d, .string S]) (by simp only [results, Tryz.results38]; simp [go_sem, zz]) rfl ⟨rfl, HB8.out⟩
set_option maxRecDepth 100000 in
set_option maxHeartbeats 1000000 in
theorem figI (z : Int) (B : Bool) (hB : decide (48 ≤ z ∧ z ≤ 57) = B) (w : World) : Calls Tryz.prog 118 #[.int .i32 z] w fun e w' => e = .returned (.bool B) ∧ w' = w := by
  subst hB
  go_enter Tryz.func118, Tryz.ntmps118
  by_cases h1 : 48 ≤ z
  · by_cases h2 : z ≤ 57
    · rw [show decide (48 ≤ z ∧ z ≤ 57) = true from decide_eq_true ⟨h1, h2⟩]
      go_wp2
      go_ret
      exact ⟨rfl, rfl⟩
    · rw [show decide (48 ≤ z ∧ z ≤ 57) = false from decide_eq_false (fun h => h2 h.2)]
      go_wp2
      go_ret
      exact ⟨rfl, rfl⟩
  · rw [show decide (48 ≤ z ∧ z ≤ 57) = false from decide_eq_false (fun h => h1 h.1)]
    go_wp2
    go_ret
    exact ⟨rfl, rfl⟩
end Go.Proofs.YtdifmjcghaoilaaGreatDoor

namespace Go.Proofs.YtdifmjcghaoilaaGreatDoor
open Go.RowKit Go.PlainAid
set_option linter.unusedVariables false
set_option linter.unusedSimpArgs false

theorem w32_in {n : Int} (h0 : -2147483648 ≤ n) (h1 : n ≤ 2147483647) : IntKind.i32.wrap n = n := by
  rw [IntKind.wrap_i32]
  omega
/-- a text gone through rune by rune: where it is -/
structure IT (w w' : World) (K : ByteArray) (pos : Nat) : Prop where
  it : w'.heap[w.heap.size]? = some (.stringIter K pos)
  b : Below w.heap.size w w'
theorem it_new (w : World) (K : ByteArray) : IT w (w.alloc (.stringIter K 0)) K 0 := ⟨heap_new w _, alM _ _⟩
theorem IT.next {w w' : World} {K : ByteArray} {pos : Nat} (h : IT w w' K pos) (pos' : Nat) : IT w (w'.iterAt w.heap.size K pos') K pos' :=
  ⟨Lib.iterAt_heap w' w.heap.size K pos pos' h.it, Lib.below_iterAt h.b (Nat.le_refl _) K pos'⟩
theorem all_not {s : List UInt8} {j : Nat} (h : j < s.length) (hf : ¬ (48 ≤ (s[j].toNat : Int) ∧ (s[j].toNat : Int) ≤ 57)) : s.all figB = false := by
  cases e : s.all figB
  · rfl
  · exact absurd (of_decide_eq_true (List.all_eq_true.1 e _ (List.getElem_mem h))) hf
set_option maxRecDepth 100000 in
set_option maxHeartbeats 4000000 in
theorem areI (s : List UInt8) (S : ByteArray) (hS : (⟨s.toArray⟩ : ByteArray) = S) (B : Bool) (hB : s.all figB = B) (w : World) : Calls Tryz.prog 115 #[.string S] w fun e w' => e = .returned (.bool B) ∧ Below w.heap.size w w' := by
  have hsz := txt_size hS
  have HAT : Hid (∀ k (h : k < S.size) (h2 : k < s.length), (S[k]'h) = s[k]) := by show ∀ k (h : k < S.size) (h2 : k < s.length), (S[k]'h) = s[k]; intro k h h2; subst hS; rfl
  have HO : Hid (s.all figB = B) := hB
  have HI0 : Hid (IT w (w.alloc (.stringIter S 0)) S 0) := it_new w S
  clear hS hB
  go_enter Tryz.func115, Tryz.ntmps115
  go_wp2
  go_loopg [2] S.size (fun gk v wr => ∃ j : Nat, j + gk = S.size ∧ v = .bool false ∧ Hid (FigJ s j) ∧ Hid (IT w wr S j))
  case atStart => exact ⟨0, by omega, rfl, figJ_zero s, HI0⟩
  case round =>
    clear HI0
    obtain ⟨j, hj, rfl, HF, HI⟩ := hrel
    by_cases hlt : j < S.size
    · have hjl : j < s.length := by omega
      have hat := HAT.out j hlt hjl
      have hnx : ∀ ty, (Instr.next (.pointer (some ⟨w.heap.size, 0, none⟩)) true ty).run Tryz.prog wr = _ := fun ty => Lib.run_next_any_at wr w.heap.size S j ty HI.out.it hlt
      have HI1 := HI.out.next (j + (Utf8.decode S j).2)
      by_cases ha : (S[j]'hlt).toNat < 128
      · rw [decode_ascii S j hlt ha] at hnx HI1
        obtain ⟨z, hz⟩ : ∃ z : Nat, (S[j]'hlt).toNat = z := ⟨_, rfl⟩
        rw [hz] at ha
        dsimp only at hnx HI1
        rw [hz] at hnx
        obtain ⟨w1, hw1e⟩ : ∃ w1, wr.iterAt w.heap.size S (j + 1) = w1 := ⟨_, rfl⟩
        rw [hw1e] at hnx HI1
        have HI2 : Hid (IT w w1 S (j + 1)) := HI1
        have hz2 : s[j].toNat = z := by rw [← hat]; exact hz
        have q1 : IntKind.i32.wrap (z : Int) = (z : Int) := w32_in (by omega) (by omega)
        clear hw1e HI1 HI hat hz
        by_cases hf : 48 ≤ (z : Int) ∧ (z : Int) ≤ 57
        · have HF' : Hid (FigJ s (j + 1)) := figJ_succ HF.out hjl (by rw [hz2]; exact hf)
          have HD : Hid (decide (48 ≤ (z : Int) ∧ (z : Int) ≤ 57) = true) := decide_eq_true hf
          clear HF hz2 hf hjl
          go_wp2_with fail
          refine (figI (z : Int) true HD.out _).mono ?_
          rintro e w2 ⟨rfl, hw⟩
          obtain rfl : w1 = w2 := hw.symm
          clear hw hnx
          go_wp2
          go_roundg (gk - 1)
          case measure => omega
          case rel => exact ⟨j + 1, by omega, rfl, HF', HI2⟩
        · have HD : Hid (decide (48 ≤ (z : Int) ∧ (z : Int) ≤ 57) = false) := decide_eq_false hf
          obtain rfl : false = B := by rw [← HO.out]; exact (all_not hjl (by rw [hz2]; exact hf)).symm
          clear HF hz2 hf hjl
          go_wp2_with fail
          refine (figI (z : Int) false HD.out _).mono ?_
          rintro e w2 ⟨rfl, hw⟩
          obtain rfl : w1 = w2 := hw.symm
          clear hw hnx
          go_wp2
          go_ret
          exact ⟨rfl, HI2.out.b⟩
      · have ha' : 128 ≤ (S[j]'hlt).toNat := by omega
        obtain ⟨d1, d2⟩ := decode_high S j hlt ha'
        have d3 := dec_max S j
        obtain rfl : false = B := by rw [← HO.out]; exact (all_not hjl (by rw [← hat]; omega)).symm
        generalize (Utf8.decode S j).1 = r at *
        generalize (Utf8.decode S j).2 = d at *
        obtain ⟨w1, hw1e⟩ : ∃ w1, wr.iterAt w.heap.size S (j + d) = w1 := ⟨_, rfl⟩
        rw [hw1e] at hnx HI1
        have HI2 : Hid (IT w w1 S (j + d)) := HI1
        have HD : Hid (decide (48 ≤ (r : Int) ∧ (r : Int) ≤ 57) = false) := decide_eq_false (by omega)
        have q1 : IntKind.i32.wrap (r : Int) = (r : Int) := w32_in (by omega) (by omega)
        clear hw1e HI1 HI hat HF ha ha' hjl
        go_wp2_with fail
        refine (figI (r : Int) false HD.out _).mono ?_
        rintro e w2 ⟨rfl, hw⟩
        obtain rfl : w1 = w2 := hw.symm
        clear hw hnx
        go_wp2
        go_ret
        exact ⟨rfl, HI2.out.b⟩
    · have hnx : ∀ ty, (Instr.next (.pointer (some ⟨w.heap.size, 0, none⟩)) true ty).run Tryz.prog wr = _ := fun ty => Lib.run_next_end_at wr w.heap.size S j ty HI.out.it hlt
      obtain rfl : true = B := by rw [← HO.out]; exact (List.all_eq_true.2 (figJ_all HF.out (by omega))).symm
      have HB : Hid (Below w.heap.size w wr) := HI.out.b
      clear HF HI
      go_wp2
      go_ret
      exact ⟨rfl, HB.out⟩
set_option maxRecDepth 100000 in
set_option maxHeartbeats 4000000 in
theorem numbI (s : List UInt8) (S : ByteArray) (hS : (⟨s.toArray⟩ : ByteArray) = S) (z : Int) (hz : numF s = z) (hf : ∀ x ∈ s, figB x = true) (hl : s.length ≤ 4) (w : World) : Calls Tryz.prog 126 #[.string S] w fun e w' => e = .returned (.int .i64 z) ∧ Below w.heap.size w w' := by
  have hsz := txt_size hS
  have HAT : Hid (∀ k (h : k < S.size) (h2 : k < s.length), (S[k]'h) = s[k]) := by show ∀ k (h : k < S.size) (h2 : k < s.length), (S[k]'h) = s[k]; intro k h h2; subst hS; rfl
  have HF : Hid (∀ x ∈ s, figB x = true) := hf
  have HZ : Hid (numF s = z) := hz
  have HI0 : Hid (IT w (w.alloc (.stringIter S 0)) S 0) := it_new w S
  clear hS hf hz
  go_enter Tryz.func126, Tryz.ntmps126
  go_wp2
  go_loopg [3] S.size (fun gk v wr => ∃ (j : Nat) (t : Int), j + gk = S.size ∧ v = .int .i64 t ∧ Hid (t = numJ s j) ∧ Hid (IT w wr S j))
  case atStart => exact ⟨0, 0, by omega, rfl, rfl, HI0⟩
  case round =>
    clear HI0
    obtain ⟨j, t, hj, rfl, HT, HI⟩ := hrel
    by_cases hlt : j < S.size
    · have hjl : j < s.length := by omega
      have hat := HAT.out j hlt hjl
      have hfj : 48 ≤ (s[j].toNat : Int) ∧ (s[j].toNat : Int) ≤ 57 := of_decide_eq_true (HF.out _ (List.getElem_mem hjl))
      have hnx : ∀ ty, (Instr.next (.pointer (some ⟨w.heap.size, 0, none⟩)) true ty).run Tryz.prog wr = _ := fun ty => Lib.run_next_any_at wr w.heap.size S j ty HI.out.it hlt
      have HI1 := HI.out.next (j + (Utf8.decode S j).2)
      have ha : (S[j]'hlt).toNat < 128 := by rw [hat]; omega
      rw [decode_ascii S j hlt ha] at hnx HI1
      dsimp only at hnx HI1
      rw [hat] at hnx
      obtain ⟨x, hx⟩ : ∃ x : Nat, s[j].toNat = x := ⟨_, rfl⟩
      have HJ : Hid (numJ s (j + 1) = 10 * numJ s j + (x : Int) - 48) := by show _ = _; rw [numJ_succ hjl, hx]
      rw [hx] at hnx hfj
      obtain ⟨w1, hw1e⟩ : ∃ w1, wr.iterAt w.heap.size S (j + 1) = w1 := ⟨_, rfl⟩
      rw [hw1e] at hnx HI1
      have HI2 : Hid (IT w w1 S (j + 1)) := HI1
      have ht := numJ_bd HF.out hl j
      rw [← HT.out] at ht
      obtain ⟨u, hu⟩ : ∃ u, t * 10 + ((x : Int) - 48) = u := ⟨_, rfl⟩
      have HU : Hid (u = numJ s (j + 1)) := by show _ = _; rw [HJ.out, ← HT.out]; omega
      have q0 : IntKind.i32.wrap (x : Int) = (x : Int) := w32_in (by omega) (by omega)
      have q1 : IntKind.i32.wrap ((x : Int) - 48) = (x : Int) - 48 := w32_in (by omega) (by omega)
      have q2 : IntKind.i64.wrap (t * 10) = t * 10 := wrap_in (by omega) (by omega)
      have q2' : wrap64 (t * 10) = t * 10 := wrap64_in (by omega) (by omega)
      have q3 : IntKind.i64.wrap ((x : Int) - 48) = (x : Int) - 48 := wrap_in (by omega) (by omega)
      have q4 : IntKind.i64.wrap (t * 10 + ((x : Int) - 48)) = u := by rw [hu]; exact wrap_in (by omega) (by omega)
      have q5 : wrap64 u = u := wrap64_in (by omega) (by omega)
      clear hat hfj ht HT hjl HJ hx HI1 HI hw1e ha
      go_wp2
      go_roundg (gk - 1)
      case measure => omega
      case rel => exact ⟨j + 1, u, by omega, (by first | rfl | rw [q5] | rw [hu]), HU, HI2⟩
    · have hnx : ∀ ty, (Instr.next (.pointer (some ⟨w.heap.size, 0, none⟩)) true ty).run Tryz.prog wr = _ := fun ty => Lib.run_next_end_at wr w.heap.size S j ty HI.out.it hlt
      have HE : Hid (t = z) := by show _ = _; rw [HT.out, ← HZ.out]; unfold numJ; rw [List.take_of_length_le (by omega)]
      have HB : Hid (Below w.heap.size w wr) := HI.out.b
      clear HT HI
      go_wp2
      go_ret
      exact ⟨by rw [HE.out]; rfl, HB.out⟩
end Go.Proofs.YtdifmjcghaoilaaGreatDoor

namespace Go.Proofs.YtdifmjcghaoilaaGreatDoor
open Go.RowKit Go.PlainAid
set_option linter.unusedVariables false
set_option linter.unusedSimpArgs false

theorem box2_cells {w : World} {k : Nat} {t : TypeId} {x0 x1 : Value} (h : w.heap[k]? = some (.cells #[x0, x1] t)) :
    (w.cell? ⟨k, 0, none⟩ = some x0 ∧ w.cell? ⟨k, 1, none⟩ = some x1) ∧ w.frozen? ⟨k, 0, none⟩ = false ∧ w.frozen? ⟨k, 1, none⟩ = false := by
  refine ⟨⟨?_, ?_⟩, ?_, ?_⟩ <;> simp [World.cell?, World.frozen?, h]
theorem okM_hi {m : Mn} (h1 : m.a ≠ 1) (h : ¬ (2 ≤ m.a ∧ m.a ≤ 4)) : okM m = false := okM_at (fun h2 => h ⟨by omega, h2.2⟩)
theorem okM_fs {m : Mn} (h : m.s.all figB = false) : okM m = false := by
  cases e : okM m
  · rfl
  · exact absurd (List.all_eq_true.2 ((okM_iff m).1 e).2.1) (by rw [h]; decide)
theorem okM_top (b : Bool) (n d : Int) (s : List UInt8) : okM ⟨1, b, n, d, s⟩ = (!b && (n == 0) && (d == 0) && decide (s = [])) := by
  by_cases h : s = [] ∧ b = false ∧ n = 0 ∧ d = 0
  · obtain ⟨rfl, rfl, rfl, rfl⟩ := h
    rfl
  · rw [okM_t rfl h]
    cases b
    · by_cases hn : n = 0
      · by_cases hd : d = 0
        · by_cases hs : s = []
          · exact absurd ⟨hs, rfl, hn, hd⟩ h
          · simp [hs]
        · simp [hd]
      · simp [hn]
    · simp
set_option maxRecDepth 100000 in
set_option maxHeartbeats 4000000 in
theorem menuokI (m : Mn) (B : Bool) (hB : okM m = B) (w : World) : Calls Tryz.prog 97 #[mnV m] w fun e w' => e = .returned (.bool B) ∧ Below w.heap.size w w' := by
  obtain ⟨a, b, n, d, s⟩ := m
  obtain ⟨S, hS⟩ : ∃ S : ByteArray, (⟨s.toArray⟩ : ByteArray) = S := ⟨_, rfl⟩
  unfold mnV
  dsimp only
  rw [hS]
  have hsz := txt_size hS
  have HO : Hid (okM ⟨a, b, n, d, s⟩ = B) := hB
  have HS : Hid ((⟨s.toArray⟩ : ByteArray) = S) := hS
  have HNIL : Hid ((S.toList = []) ↔ s = []) := txt_nil hS
  have HB0 : Hid (Below w.heap.size w (w.alloc (.cells #[.int .i64 a, .bool b, .int .i64 n, .int .i64 d, .string S] 32))) := alM _ _
  have HP0 : Hid ((w.alloc (.cells #[.int .i64 a, .bool b, .int .i64 n, .int .i64 d, .string S] 32)).heap[w.heap.size]? = some (.cells #[.int .i64 a, .bool b, .int .i64 n, .int .i64 d, .string S] 32)) := heap_new w _
  have p0 := box5_cells HP0.out
  clear hS hB
  go_enter Tryz.func97, Tryz.ntmps97
  by_cases a1 : a = 1
  · subst a1
    go_upto_region 2 with fail
    clear p0
    refine wp_region_held_drew (S := fun w' => w'.cell? ⟨w.heap.size, 0, none⟩ = some (.int .i64 1) ∧ w'.cell? ⟨w.heap.size, 1, none⟩ = some (.bool b) ∧ w'.cell? ⟨w.heap.size, 2, none⟩ = some (.int .i64 n) ∧ w'.cell? ⟨w.heap.size, 3, none⟩ = some (.int .i64 d) ∧ w'.cell? ⟨w.heap.size, 4, none⟩ = some (.string S) ∧ Below w.heap.size w w') (by kernel_rfl) (ky5 (w' := (w.alloc (.cells #[.int .i64 1, .bool b, .int .i64 n, .int .i64 d, .string S] 32)).drew) HP0.out HB0.out.drew) (fun hHeld => ?_)
    refine wpAnyH_take (i := 0) (v := ?_) rfl (by kernel_rfl) (by kernel_rfl) (by kernel_rfl) (fun _ _ _ h => h) (Or.inl ⟨by rfl, ?_⟩) (by assumption) ?_
    rotate_left
    · intro w_ hSw; (try dsimp only at hSw); go_simp <;> with_reducible rfl
    try simp only [Act.put, List.setIfInBounds_toArray, List.set_cons_zero, List.set_cons_succ, List.getElem_toArray, List.getElem_cons_zero, List.getElem_cons_succ]
    refine wpAnyH_ready (rs := [1]) (by kernel_rfl) (by simp) ?_
    refine AllReadyH.cons rfl (fun J hJ => ?_) AllReadyH.nil
    go_simp
    go_at_call 41
    refine (menunewI _).mono ?_
    rintro e w6 ⟨rfl, hbc⟩
    have HB6 : Hid (Below w.heap.size w w6) := bel_on (Nat.le_refl _) HB0.out.drew hbc
    have HP6 : Hid (w6.heap[w.heap.size]? = some (.cells #[.int .i64 1, .bool b, .int .i64 n, .int .i64 d, .string S] 32)) := row_on (w := (w.alloc (.cells #[.int .i64 1, .bool b, .int .i64 n, .int .i64 d, .string S] 32)).drew) HP0.out hbc
    unfold mnV newM
    dsimp only
    clear hbc HB0 HP0
    go_wp2_with fail
    refine hJ.out _ _ (ky5 HP6.out HB6.out) (fun hHeld1 => ?_)
    clear hJ J hHeld
    try simp only [Act.put, List.setIfInBounds_toArray, List.set_cons_zero, List.set_cons_succ, List.getElem_toArray, List.getElem_cons_zero, List.getElem_cons_succ]
    refine wpAnyH_take (i := 2) (v := .bool B) rfl (by kernel_rfl) (by kernel_rfl) (by kernel_rfl) (fun _ _ _ h => h) (Or.inl ⟨by rfl, ?_⟩) (by assumption) ?_
    · intro w_ hSw
      (try dsimp only at hSw)
      go_simp
      have e := HO.out
      rw [okM_top] at e
      have hnil := HNIL.out
      clear hSw HO HNIL
      subst e
      cases b
      · by_cases hn : n = 0
        · by_cases hd : d = 0
          · by_cases hs : S.toList = []
            · simp [hn, hd, hs, hnil.1 hs]
            · have h2 : ¬ s = [] := fun h => hs (hnil.2 h)
              simp [hn, hd, hs, h2]
          · simp [hn, hd]
        · simp [hn]
      · simp
    try simp only [Act.put, List.setIfInBounds_toArray, List.set_cons_zero, List.set_cons_succ, List.getElem_toArray, List.getElem_cons_zero, List.getElem_cons_succ]
    refine wpAnyH_take (i := 3) (v := ?_) rfl (by kernel_rfl) (by kernel_rfl) (by kernel_rfl) (fun _ _ _ h => h) (Or.inl ⟨by rfl, ?_⟩) (by assumption) ?_
    rotate_left
    · intro w_ hSw; (try dsimp only at hSw); go_simp <;> with_reducible rfl
    try simp only [Act.put, List.setIfInBounds_toArray, List.set_cons_zero, List.set_cons_succ, List.getElem_toArray, List.getElem_cons_zero, List.getElem_cons_succ]
    refine wpAnyH_done (by kernel_rfl) ?_ _
    clear hHeld1
    go_wp2
    go_ret
    exact ⟨rfl, HB6.out⟩
  have q1 : (a == 1) = false := by simpa using a1
  have hb : Below w.heap.size w ((w.alloc (.cells #[.int .i64 a, .bool b, .int .i64 n, .int .i64 d, .string S] 32)).alloc (.cells #[.int .i64 0, .int .i64 9999] 108)) := bel_on (Nat.le_refl _) HB0.out (alM _ _)
  have hp : ((w.alloc (.cells #[.int .i64 a, .bool b, .int .i64 n, .int .i64 d, .string S] 32)).alloc (.cells #[.int .i64 0, .int .i64 9999] 108)).heap[w.heap.size]? = some (.cells #[.int .i64 a, .bool b, .int .i64 n, .int .i64 d, .string S] 32) := row_on HP0.out (alM _ _)
  have hy := heap_new (w.alloc (.cells #[.int .i64 a, .bool b, .int .i64 n, .int .i64 d, .string S] 32)) (.cells #[.int .i64 0, .int .i64 9999] 108)
  rw [show (w.alloc (.cells #[.int .i64 a, .bool b, .int .i64 n, .int .i64 d, .string S] 32)).heap.size = w.heap.size + 1 by simp] at hy
  have HB1 : Hid (Below w.heap.size w ((w.alloc (.cells #[.int .i64 a, .bool b, .int .i64 n, .int .i64 d, .string S] 32)).alloc (.cells #[.int .i64 0, .int .i64 9999] 108))) := hb
  have HP1 : Hid (((w.alloc (.cells #[.int .i64 a, .bool b, .int .i64 n, .int .i64 d, .string S] 32)).alloc (.cells #[.int .i64 0, .int .i64 9999] 108)).heap[w.heap.size]? = some (.cells #[.int .i64 a, .bool b, .int .i64 n, .int .i64 d, .string S] 32)) := hp
  have HY1 : Hid (((w.alloc (.cells #[.int .i64 a, .bool b, .int .i64 n, .int .i64 d, .string S] 32)).alloc (.cells #[.int .i64 0, .int .i64 9999] 108)).heap[w.heap.size + 1]? = some (.cells #[.int .i64 0, .int .i64 9999] 108)) := hy
  have p1 := box5_cells HP1.out
  have y1 := box2_cells HY1.out
  clear hb hp hy HB0 HP0
  by_cases h2 : 2 ≤ a ∧ a ≤ 4
  case neg =>
    obtain rfl : false = B := by rw [← HO.out]; exact (okM_hi a1 h2).symm
    go_wp2_with fail
    refine (holdsI 2 4 a false (decide_eq_false h2) _).mono ?_
    rintro e w2 ⟨rfl, hb1⟩
    have HB2 : Hid (Below w.heap.size w w2) := bel_on (Nat.le_refl _) HB1.out hb1
    have HP2 : Hid (w2.heap[w.heap.size]? = some (.cells #[.int .i64 a, .bool b, .int .i64 n, .int .i64 d, .string S] 32)) := row_on HP1.out hb1
    have HY2 : Hid (w2.heap[w.heap.size + 1]? = some (.cells #[.int .i64 0, .int .i64 9999] 108)) := row_on HY1.out hb1
    have p2 := box5_cells HP2.out
    have y2 := box2_cells HY2.out
    clear hb1 HB1 HP1 HY1 p1 y1
    go_wp2
    go_ret
    exact ⟨rfl, HB2.out⟩
  go_wp2_with fail
  refine (holdsI 2 4 a true (decide_eq_true h2) _).mono ?_
  rintro e w2 ⟨rfl, hb1⟩
  have HB2 : Hid (Below w.heap.size w w2) := bel_on (Nat.le_refl _) HB1.out hb1
  have HP2 : Hid (w2.heap[w.heap.size]? = some (.cells #[.int .i64 a, .bool b, .int .i64 n, .int .i64 d, .string S] 32)) := row_on HP1.out hb1
  have HY2 : Hid (w2.heap[w.heap.size + 1]? = some (.cells #[.int .i64 0, .int .i64 9999] 108)) := row_on HY1.out hb1
  have p2 := box5_cells HP2.out
  have y2 := box2_cells HY2.out
  clear hb1 HB1 HP1 HY1 p1 y1
  by_cases h3 : 0 ≤ n ∧ n ≤ 9999
  case neg =>
    obtain rfl : false = B := by rw [← HO.out]; exact (okM_n h3).symm
    go_wp2_with fail
    refine (holdsI 0 9999 n false (decide_eq_false h3) _).mono ?_
    rintro e w3 ⟨rfl, hb1⟩
    have HB3 : Hid (Below w.heap.size w w3) := bel_on (Nat.le_refl _) HB2.out hb1
    have HP3 : Hid (w3.heap[w.heap.size]? = some (.cells #[.int .i64 a, .bool b, .int .i64 n, .int .i64 d, .string S] 32)) := row_on HP2.out hb1
    have HY3 : Hid (w3.heap[w.heap.size + 1]? = some (.cells #[.int .i64 0, .int .i64 9999] 108)) := row_on HY2.out hb1
    have p3 := box5_cells HP3.out
    have y3 := box2_cells HY3.out
    clear hb1 HB2 HP2 HY2 p2 y2
    go_wp2
    go_ret
    exact ⟨rfl, HB3.out⟩
  go_wp2_with fail
  refine (holdsI 0 9999 n true (decide_eq_true h3) _).mono ?_
  rintro e w3 ⟨rfl, hb1⟩
  have HB3 : Hid (Below w.heap.size w w3) := bel_on (Nat.le_refl _) HB2.out hb1
  have HP3 : Hid (w3.heap[w.heap.size]? = some (.cells #[.int .i64 a, .bool b, .int .i64 n, .int .i64 d, .string S] 32)) := row_on HP2.out hb1
  have HY3 : Hid (w3.heap[w.heap.size + 1]? = some (.cells #[.int .i64 0, .int .i64 9999] 108)) := row_on HY2.out hb1
  have p3 := box5_cells HP3.out
  have y3 := box2_cells HY3.out
  clear hb1 HB2 HP2 HY2 p2 y2
  by_cases h4 : 0 ≤ d ∧ d ≤ 9999
  case neg =>
    obtain rfl : false = B := by rw [← HO.out]; exact (okM_d h4).symm
    go_wp2_with fail
    refine (holdsI 0 9999 d false (decide_eq_false h4) _).mono ?_
    rintro e w4 ⟨rfl, hb1⟩
    have HB4 : Hid (Below w.heap.size w w4) := bel_on (Nat.le_refl _) HB3.out hb1
    have HP4 : Hid (w4.heap[w.heap.size]? = some (.cells #[.int .i64 a, .bool b, .int .i64 n, .int .i64 d, .string S] 32)) := row_on HP3.out hb1
    have HY4 : Hid (w4.heap[w.heap.size + 1]? = some (.cells #[.int .i64 0, .int .i64 9999] 108)) := row_on HY3.out hb1
    have p4 := box5_cells HP4.out
    have y4 := box2_cells HY4.out
    clear hb1 HB3 HP3 HY3 p3 y3
    go_wp2
    go_ret
    exact ⟨rfl, HB4.out⟩
  go_wp2_with fail
  refine (holdsI 0 9999 d true (decide_eq_true h4) _).mono ?_
  rintro e w4 ⟨rfl, hb1⟩
  have HB4 : Hid (Below w.heap.size w w4) := bel_on (Nat.le_refl _) HB3.out hb1
  have HP4 : Hid (w4.heap[w.heap.size]? = some (.cells #[.int .i64 a, .bool b, .int .i64 n, .int .i64 d, .string S] 32)) := row_on HP3.out hb1
  have HY4 : Hid (w4.heap[w.heap.size + 1]? = some (.cells #[.int .i64 0, .int .i64 9999] 108)) := row_on HY3.out hb1
  have p4 := box5_cells HP4.out
  have y4 := box2_cells HY4.out
  clear hb1 HB3 HP3 HY3 p3 y3
  by_cases h5 : S.size ≤ 4
  case neg =>
    obtain rfl : false = B := by rw [← HO.out]; exact (okM_l (m := ⟨a, b, n, d, s⟩) (by show ¬ s.length ≤ 4; omega)).symm
    have h5' : ¬ (S.size : Int) ≤ 4 := by omega
    go_wp2
    go_ret
    exact ⟨rfl, HB4.out⟩
  have h5' : (S.size : Int) ≤ 4 := by omega
  obtain ⟨B2, hB2⟩ : ∃ B2, s.all figB = B2 := ⟨_, rfl⟩
  have HA : Hid (s.all figB = B2) := hB2
  clear hB2
  have HB2 : Hid (B2 = B) := by
    show _ = _
    rw [← HO.out]
    cases B2
    · exact (okM_fs (m := ⟨a, b, n, d, s⟩) HA.out).symm
    · exact ((okM_iff _).2 ⟨⟨⟨by show 1 ≤ a; omega, h2.2⟩, h3, h4, by show s.length ≤ 4; omega⟩, List.all_eq_true.1 HA.out, fun e => absurd e a1⟩).symm
  go_wp2_with fail
  refine (areI s S HS.out B2 HA.out _).mono ?_
  rintro e w5 ⟨rfl, hb1⟩
  have HB5 : Hid (Below w.heap.size w w5) := bel_on (Nat.le_refl _) HB4.out hb1
  have HP5 : Hid (w5.heap[w.heap.size]? = some (.cells #[.int .i64 a, .bool b, .int .i64 n, .int .i64 d, .string S] 32)) := row_on HP4.out hb1
  have HY5 : Hid (w5.heap[w.heap.size + 1]? = some (.cells #[.int .i64 0, .int .i64 9999] 108)) := row_on HY4.out hb1
  have p5 := box5_cells HP5.out
  have y5 := box2_cells HY5.out
  clear hb1 HB4 HP4 HY4 p4 y4
  cases B2
  all_goals (go_wp2; go_ret; exact ⟨by rw [← HB2.out]; rfl, HB5.out⟩)
end Go.Proofs.YtdifmjcghaoilaaGreatDoor

namespace Go.Proofs.YtdifmjcghaoilaaGreatDoor
open Go.RowKit Go.PlainAid
set_option linter.unusedVariables false
set_option linter.unusedSimpArgs false

theorem storeB_run {w : World} {g i : Nat} {z : Bool} {cs : Array Value} {T : TypeId} (hg : w.heap[g]? = some (.cells cs T)) (hi : i < cs.size) : (Instr.storeAt 4 (.pointer (some ⟨g, i, none⟩)) (.bool z)).run Tryz.prog w = .ok () (w.setCell ⟨g, i, none⟩ (.bool z)) := by
  have k1 : w.cell? ⟨g, i, none⟩ = some cs[i] := by simp [World.cell?, hg, hi]
  have k2 : w.frozen? ⟨g, i, none⟩ = false := by simp [World.frozen?, hg]
  simp [go_sem, Instr.storeAt, k1, k2]
/-- one flag stored into a row -/
theorem listStoreB {ops : Array Oper} {rest : List Oper} {o : Oper} {a : Act} {Q : Exit → Act → World → Prop} {w : World} (hgd : o.guard = none) (hd : o.dst = none) (x y : Operand) (ty : TypeId) (ho : o.op = .store ty x y) (hty : ty = 4)
    (g i : Nat) (z : Bool) (hx : a.eval x = .pointer (some ⟨g, i, none⟩)) (hy : a.eval y = .bool z)
    {cs : Array Value} {T : TypeId} (hg : w.heap[g]? = some (.cells cs T)) (hi : i < cs.size)
    (h : ∀ w' : World, PutM w w' g (.cells (cs.setIfInBounds i (.bool z)) T) → wpList Tryz.prog ops Q rest a w') : wpList Tryz.prog ops Q (o :: rest) a w := by
  subst hty
  refine wpList_plain hgd fun _ hK => ?_
  unfold Oper.wp
  simp only [execOp, ho, hx, hy, Sem.run_bind, storeB_run hg hi, Result.andThen, Sem.run_pure]
  exact hK _ _ (by rw [hd]; exact h _ (putM_set hg))
set_option maxRecDepth 100000 in
set_option maxHeartbeats 4000000 in
theorem chosenI (key : Int) (r : Pr) (hr : topM newM key = r) (w : World) : Calls Tryz.prog 116 #[mnV newM, .int .i32 key] w fun e w' => e = .returned (.tuple #[mnV r.m, ordV r.k r.n r.d r.v, .bool r.t]) ∧ Below w.heap.size w w' := by
  obtain ⟨h1, h2, h3, h4, h5⟩ := box3m w (.cells #[.int .i64 1, .bool false, .int .i64 0, .int .i64 0, .string ⟨#[]⟩] 32) (.cells #[.int .i64 0, .bool false, .int .i64 0, .int .i64 0, .string ⟨#[]⟩] 32) (.cells #[.int .i64 0, .int .i64 0, .int .i64 0, .int .i64 0] 82)
  have HP0 : Hid (_ = _) := h1
  have HZ0 : Hid (_ = _) := h2
  have HO0 : Hid (_ = _) := h3
  have HB0 : Hid (Below _ _ _) := h4
  have p0 := box5_cells h1
  clear h1 h2 h3 h4 h5
  unfold mnV ordV newM
  dsimp only
  have HR : Hid (topM newM key = r) := hr
  clear hr
  go_enter Tryz.func116, Tryz.ntmps116
  by_cases k98 : key = 98
  · obtain rfl : noP ⟨2, false, 0, 0, []⟩ = r := by rw [← HR.out]; unfold topM; simp [k98]
    clear HR
    subst k98
    (try dsimp only [noP, newM])
    go_upto_region 4 with fail
    go_wp2_with (refine listStoreI rfl rfl _ _ _ rfl rfl w.heap.size 0 2 rfl rfl HP0.out (by simp) ?_)
    intro w1 hput
    have HB1 : Hid (Below w.heap.size w w1) := hput.2.2.2 _ _ (Nat.le_refl _) HB0.out
    have HP1 : Hid (w1.heap[w.heap.size]? = some (.cells #[.int .i64 2, .bool false, .int .i64 0, .int .i64 0, .string ⟨#[]⟩] 32)) := hput.1
    have HZ1 : Hid (w1.heap[w.heap.size + 1]? = some (.cells #[.int .i64 0, .bool false, .int .i64 0, .int .i64 0, .string ⟨#[]⟩] 32)) := hput.far HZ0.out (by omega)
    have HO1 : Hid (w1.heap[w.heap.size + 2]? = some (.cells #[.int .i64 0, .int .i64 0, .int .i64 0, .int .i64 0] 82)) := hput.far HO0.out (by omega)
    have p1 := box5_cells HP1.out
    clear hput HB0 HP0 HZ0 HO0 p0
    go_upto_region 15 with fail
    go_wp2_with (refine listStoreM rfl rfl _ _ _ rfl rfl (w.heap.size + 1) (2) (false) (0) (0) (⟨#[]⟩) rfl rfl HZ1.out ?_)
    intro w8 hput
    have HB8 : Hid (Below w.heap.size w w8) := hput.2.2.2 _ _ (Nat.le_succ _) HB1.out
    have HO8 : Hid (w8.heap[w.heap.size + 2]? = some (.cells #[.int .i64 0, .int .i64 0, .int .i64 0, .int .i64 0] 82)) := hput.far HO1.out (by omega)
    have HZ8 : Hid (w8.heap[w.heap.size + 1]? = some (.cells #[.int .i64 2, .bool false, .int .i64 0, .int .i64 0, .string ⟨#[]⟩] 32)) := hput.1
    clear hput
    go_wp2_with (refine listStoreO rfl rfl _ _ _ rfl rfl (w.heap.size + 2) (0) (0) (0) (0) rfl rfl HO8.out ?_)
    intro w9 hput
    have HB9 : Hid (Below w.heap.size w w9) := hput.2.2.2 _ _ (by omega) HB8.out
    have zz := box5_cells (hput.far HZ8.out (by omega))
    have yy := box4_cells hput.1
    clear hput HB8 HO8 HZ8
    go_wp2
    refine bodyPost_ret (v := .tuple #[.agg #[.int .i64 2, .bool false, .int .i64 0, .int .i64 0, .string ⟨#[]⟩], .agg #[.int .i64 0, .int .i64 0, .int .i64 0, .int .i64 0], .bool false]) (by simp only [results, Tryz.results116]; simp [go_sem, zz, yy]) rfl ⟨rfl, HB9.out⟩
  have q98 : (key == 98) = false := by simpa using k98
  by_cases k111 : key = 111
  · obtain rfl : noP ⟨4, true, 0, 0, []⟩ = r := by rw [← HR.out]; unfold topM; simp [k111]
    clear HR
    subst k111
    (try dsimp only [noP, newM])
    go_upto_region 6 with fail
    go_wp2_with (refine listStoreI rfl rfl _ _ _ rfl rfl w.heap.size 0 4 rfl rfl HP0.out (by simp) ?_)
    intro w1 hput
    have HB1 : Hid (Below w.heap.size w w1) := hput.2.2.2 _ _ (Nat.le_refl _) HB0.out
    have HP1 : Hid (w1.heap[w.heap.size]? = some (.cells #[.int .i64 4, .bool false, .int .i64 0, .int .i64 0, .string ⟨#[]⟩] 32)) := hput.1
    have HZ1 : Hid (w1.heap[w.heap.size + 1]? = some (.cells #[.int .i64 0, .bool false, .int .i64 0, .int .i64 0, .string ⟨#[]⟩] 32)) := hput.far HZ0.out (by omega)
    have HO1 : Hid (w1.heap[w.heap.size + 2]? = some (.cells #[.int .i64 0, .int .i64 0, .int .i64 0, .int .i64 0] 82)) := hput.far HO0.out (by omega)
    have p1 := box5_cells HP1.out
    clear hput HB0 HP0 HZ0 HO0 p0
    go_wp2_with (refine listStoreB rfl rfl _ _ _ rfl rfl w.heap.size 1 true rfl rfl HP1.out (by simp) ?_)
    intro w2 hput
    have HB2 : Hid (Below w.heap.size w w2) := hput.2.2.2 _ _ (Nat.le_refl _) HB1.out
    have HP2 : Hid (w2.heap[w.heap.size]? = some (.cells #[.int .i64 4, .bool true, .int .i64 0, .int .i64 0, .string ⟨#[]⟩] 32)) := hput.1
    have HZ2 : Hid (w2.heap[w.heap.size + 1]? = some (.cells #[.int .i64 0, .bool false, .int .i64 0, .int .i64 0, .string ⟨#[]⟩] 32)) := hput.far HZ1.out (by omega)
    have HO2 : Hid (w2.heap[w.heap.size + 2]? = some (.cells #[.int .i64 0, .int .i64 0, .int .i64 0, .int .i64 0] 82)) := hput.far HO1.out (by omega)
    have p2 := box5_cells HP2.out
    clear hput HB1 HP1 HZ1 HO1 p1
    go_upto_region 15 with fail
    go_wp2_with (refine listStoreM rfl rfl _ _ _ rfl rfl (w.heap.size + 1) (4) (true) (0) (0) (⟨#[]⟩) rfl rfl HZ2.out ?_)
    intro w8 hput
    have HB8 : Hid (Below w.heap.size w w8) := hput.2.2.2 _ _ (Nat.le_succ _) HB2.out
    have HO8 : Hid (w8.heap[w.heap.size + 2]? = some (.cells #[.int .i64 0, .int .i64 0, .int .i64 0, .int .i64 0] 82)) := hput.far HO2.out (by omega)
    have HZ8 : Hid (w8.heap[w.heap.size + 1]? = some (.cells #[.int .i64 4, .bool true, .int .i64 0, .int .i64 0, .string ⟨#[]⟩] 32)) := hput.1
    clear hput
    go_wp2_with (refine listStoreO rfl rfl _ _ _ rfl rfl (w.heap.size + 2) (0) (0) (0) (0) rfl rfl HO8.out ?_)
    intro w9 hput
    have HB9 : Hid (Below w.heap.size w w9) := hput.2.2.2 _ _ (by omega) HB8.out
    have zz := box5_cells (hput.far HZ8.out (by omega))
    have yy := box4_cells hput.1
    clear hput HB8 HO8 HZ8
    go_wp2
    refine bodyPost_ret (v := .tuple #[.agg #[.int .i64 4, .bool true, .int .i64 0, .int .i64 0, .string ⟨#[]⟩], .agg #[.int .i64 0, .int .i64 0, .int .i64 0, .int .i64 0], .bool false]) (by simp only [results, Tryz.results116]; simp [go_sem, zz, yy]) rfl ⟨rfl, HB9.out⟩
  have q111 : (key == 111) = false := by simpa using k111
  by_cases k112 : key = 112
  · obtain rfl : ⟨newM, 3, 0, 0, 0, true⟩ = r := by rw [← HR.out]; unfold topM; simp [k112]
    clear HR
    subst k112
    (try dsimp only [noP, newM])
    go_upto_region 15 with fail
    go_wp2_with (refine listStoreM rfl rfl _ _ _ rfl rfl (w.heap.size + 1) (1) (false) (0) (0) (⟨#[]⟩) rfl rfl HZ0.out ?_)
    intro w8 hput
    have HB8 : Hid (Below w.heap.size w w8) := hput.2.2.2 _ _ (Nat.le_succ _) HB0.out
    have HO8 : Hid (w8.heap[w.heap.size + 2]? = some (.cells #[.int .i64 0, .int .i64 0, .int .i64 0, .int .i64 0] 82)) := hput.far HO0.out (by omega)
    have HZ8 : Hid (w8.heap[w.heap.size + 1]? = some (.cells #[.int .i64 1, .bool false, .int .i64 0, .int .i64 0, .string ⟨#[]⟩] 32)) := hput.1
    clear hput
    go_wp2_with (refine listStoreO rfl rfl _ _ _ rfl rfl (w.heap.size + 2) (3) (0) (0) (0) rfl rfl HO8.out ?_)
    intro w9 hput
    have HB9 : Hid (Below w.heap.size w w9) := hput.2.2.2 _ _ (by omega) HB8.out
    have zz := box5_cells (hput.far HZ8.out (by omega))
    have yy := box4_cells hput.1
    clear hput HB8 HO8 HZ8
    go_wp2
    refine bodyPost_ret (v := .tuple #[.agg #[.int .i64 1, .bool false, .int .i64 0, .int .i64 0, .string ⟨#[]⟩], .agg #[.int .i64 3, .int .i64 0, .int .i64 0, .int .i64 0], .bool true]) (by simp only [results, Tryz.results116]; simp [go_sem, zz, yy]) rfl ⟨rfl, HB9.out⟩
  have q112 : (key == 112) = false := by simpa using k112
  by_cases k103 : key = 103
  · obtain rfl : ⟨newM, 4, 0, 0, 0, true⟩ = r := by rw [← HR.out]; unfold topM; simp [k103]
    clear HR
    subst k103
    (try dsimp only [noP, newM])
    go_upto_region 15 with fail
    go_wp2_with (refine listStoreM rfl rfl _ _ _ rfl rfl (w.heap.size + 1) (1) (false) (0) (0) (⟨#[]⟩) rfl rfl HZ0.out ?_)
    intro w8 hput
    have HB8 : Hid (Below w.heap.size w w8) := hput.2.2.2 _ _ (Nat.le_succ _) HB0.out
    have HO8 : Hid (w8.heap[w.heap.size + 2]? = some (.cells #[.int .i64 0, .int .i64 0, .int .i64 0, .int .i64 0] 82)) := hput.far HO0.out (by omega)
    have HZ8 : Hid (w8.heap[w.heap.size + 1]? = some (.cells #[.int .i64 1, .bool false, .int .i64 0, .int .i64 0, .string ⟨#[]⟩] 32)) := hput.1
    clear hput
    go_wp2_with (refine listStoreO rfl rfl _ _ _ rfl rfl (w.heap.size + 2) (4) (0) (0) (0) rfl rfl HO8.out ?_)
    intro w9 hput
    have HB9 : Hid (Below w.heap.size w w9) := hput.2.2.2 _ _ (by omega) HB8.out
    have zz := box5_cells (hput.far HZ8.out (by omega))
    have yy := box4_cells hput.1
    clear hput HB8 HO8 HZ8
    go_wp2
    refine bodyPost_ret (v := .tuple #[.agg #[.int .i64 1, .bool false, .int .i64 0, .int .i64 0, .string ⟨#[]⟩], .agg #[.int .i64 4, .int .i64 0, .int .i64 0, .int .i64 0], .bool true]) (by simp only [results, Tryz.results116]; simp [go_sem, zz, yy]) rfl ⟨rfl, HB9.out⟩
  have q103 : (key == 103) = false := by simpa using k103
  by_cases k115 : key = 115
  · obtain rfl : ⟨newM, 5, 0, 0, 0, true⟩ = r := by rw [← HR.out]; unfold topM; simp [k115]
    clear HR
    subst k115
    (try dsimp only [noP, newM])
    go_upto_region 15 with fail
    go_wp2_with (refine listStoreM rfl rfl _ _ _ rfl rfl (w.heap.size + 1) (1) (false) (0) (0) (⟨#[]⟩) rfl rfl HZ0.out ?_)
    intro w8 hput
    have HB8 : Hid (Below w.heap.size w w8) := hput.2.2.2 _ _ (Nat.le_succ _) HB0.out
    have HO8 : Hid (w8.heap[w.heap.size + 2]? = some (.cells #[.int .i64 0, .int .i64 0, .int .i64 0, .int .i64 0] 82)) := hput.far HO0.out (by omega)
    have HZ8 : Hid (w8.heap[w.heap.size + 1]? = some (.cells #[.int .i64 1, .bool false, .int .i64 0, .int .i64 0, .string ⟨#[]⟩] 32)) := hput.1
    clear hput
    go_wp2_with (refine listStoreO rfl rfl _ _ _ rfl rfl (w.heap.size + 2) (5) (0) (0) (0) rfl rfl HO8.out ?_)
    intro w9 hput
    have HB9 : Hid (Below w.heap.size w w9) := hput.2.2.2 _ _ (by omega) HB8.out
    have zz := box5_cells (hput.far HZ8.out (by omega))
    have yy := box4_cells hput.1
    clear hput HB8 HO8 HZ8
    go_wp2
    refine bodyPost_ret (v := .tuple #[.agg #[.int .i64 1, .bool false, .int .i64 0, .int .i64 0, .string ⟨#[]⟩], .agg #[.int .i64 5, .int .i64 0, .int .i64 0, .int .i64 0], .bool true]) (by simp only [results, Tryz.results116]; simp [go_sem, zz, yy]) rfl ⟨rfl, HB9.out⟩
  have q115 : (key == 115) = false := by simpa using k115
  by_cases k120 : key = 120
  · obtain rfl : ⟨newM, 6, 0, 0, 0, true⟩ = r := by rw [← HR.out]; unfold topM; simp [k120]
    clear HR
    subst k120
    (try dsimp only [noP, newM])
    go_upto_region 15 with fail
    go_wp2_with (refine listStoreM rfl rfl _ _ _ rfl rfl (w.heap.size + 1) (1) (false) (0) (0) (⟨#[]⟩) rfl rfl HZ0.out ?_)
    intro w8 hput
    have HB8 : Hid (Below w.heap.size w w8) := hput.2.2.2 _ _ (Nat.le_succ _) HB0.out
    have HO8 : Hid (w8.heap[w.heap.size + 2]? = some (.cells #[.int .i64 0, .int .i64 0, .int .i64 0, .int .i64 0] 82)) := hput.far HO0.out (by omega)
    have HZ8 : Hid (w8.heap[w.heap.size + 1]? = some (.cells #[.int .i64 1, .bool false, .int .i64 0, .int .i64 0, .string ⟨#[]⟩] 32)) := hput.1
    clear hput
    go_wp2_with (refine listStoreO rfl rfl _ _ _ rfl rfl (w.heap.size + 2) (6) (0) (0) (0) rfl rfl HO8.out ?_)
    intro w9 hput
    have HB9 : Hid (Below w.heap.size w w9) := hput.2.2.2 _ _ (by omega) HB8.out
    have zz := box5_cells (hput.far HZ8.out (by omega))
    have yy := box4_cells hput.1
    clear hput HB8 HO8 HZ8
    go_wp2
    refine bodyPost_ret (v := .tuple #[.agg #[.int .i64 1, .bool false, .int .i64 0, .int .i64 0, .string ⟨#[]⟩], .agg #[.int .i64 6, .int .i64 0, .int .i64 0, .int .i64 0], .bool true]) (by simp only [results, Tryz.results116]; simp [go_sem, zz, yy]) rfl ⟨rfl, HB9.out⟩
  have q120 : (key == 120) = false := by simpa using k120
  obtain rfl : noP newM = r := by rw [← HR.out]; unfold topM; simp [k98, k111, k112, k103, k115, k120]
  clear HR k98 k111 k112 k103 k115 k120
  (try dsimp only [noP, newM])
  go_upto_region 15 with fail
  go_wp2_with (refine listStoreM rfl rfl _ _ _ rfl rfl (w.heap.size + 1) (1) (false) (0) (0) (⟨#[]⟩) rfl rfl HZ0.out ?_)
  intro w8 hput
  have HB8 : Hid (Below w.heap.size w w8) := hput.2.2.2 _ _ (Nat.le_succ _) HB0.out
  have HO8 : Hid (w8.heap[w.heap.size + 2]? = some (.cells #[.int .i64 0, .int .i64 0, .int .i64 0, .int .i64 0] 82)) := hput.far HO0.out (by omega)
  have HZ8 : Hid (w8.heap[w.heap.size + 1]? = some (.cells #[.int .i64 1, .bool false, .int .i64 0, .int .i64 0, .string ⟨#[]⟩] 32)) := hput.1
  clear hput
  go_wp2_with (refine listStoreO rfl rfl _ _ _ rfl rfl (w.heap.size + 2) (0) (0) (0) (0) rfl rfl HO8.out ?_)
  intro w9 hput
  have HB9 : Hid (Below w.heap.size w w9) := hput.2.2.2 _ _ (by omega) HB8.out
  have zz := box5_cells (hput.far HZ8.out (by omega))
  have yy := box4_cells hput.1
  clear hput HB8 HO8 HZ8
  go_wp2
  refine bodyPost_ret (v := .tuple #[.agg #[.int .i64 1, .bool false, .int .i64 0, .int .i64 0, .string ⟨#[]⟩], .agg #[.int .i64 0, .int .i64 0, .int .i64 0, .int .i64 0], .bool false]) (by simp only [results, Tryz.results116]; simp [go_sem, zz, yy]) rfl ⟨rfl, HB9.out⟩
set_option maxRecDepth 100000 in
set_option maxHeartbeats 4000000 in
theorem orderI (a : Int) (b : Bool) (n d : Int) (S : ByteArray) (z k : Int) (hk : (b = false ∧ k = 1) ∨ (b = true ∧ k = 2)) (B : Bool) (hB : B = true ↔ OrdR k n d z) (o1 o2 o3 o4 : Int) (ho : (B = true ∧ o1 = k ∧ o2 = n ∧ o3 = d ∧ o4 = z) ∨ (B = false ∧ o1 = 0 ∧ o2 = 0 ∧ o3 = 0 ∧ o4 = 0)) (w : World) : Calls Tryz.prog 127 #[.agg #[.int .i64 a, .bool b, .int .i64 n, .int .i64 d, .string S], .int .i64 z] w fun e w' => e = .returned (.tuple #[.agg #[.int .i64 o1, .int .i64 o2, .int .i64 o3, .int .i64 o4], .bool B]) ∧ Below w.heap.size w w' := by
  obtain ⟨h1, h2, h3, h4, h5⟩ := box3m w (.cells #[.int .i64 a, .bool b, .int .i64 n, .int .i64 d, .string S] 32) (.cells #[.int .i64 0, .int .i64 0, .int .i64 0, .int .i64 0] 82) (.cells #[.int .i64 1, .int .i64 n, .int .i64 d, .int .i64 z] 82)
  have HP0 : Hid (_ = _) := h1
  have HO0 : Hid (_ = _) := h2
  have HY0 : Hid (_ = _) := h3
  have HB0 : Hid (Below _ _ _) := h4
  have p0 := box5_cells h1
  have HB : Hid (B = true ↔ OrdR k n d z) := hB
  have HO4 : Hid _ := ho
  clear h1 h2 h3 h4 h5 hB ho
  go_enter Tryz.func127, Tryz.ntmps127
  rcases hk with ⟨rfl, rfl⟩ | ⟨rfl, rfl⟩
  · have y0 := box4_cells HY0.out
    have HBO : Hid (B = true ↔ OrdR (1) (n) (d) (z)) := HB.out
    go_wp2_with fail
    refine (ordokI (1) (n) (d) (z) B HBO.out _).mono ?_
    rintro e w5 ⟨rfl, hb1⟩
    have HY5 : Hid (w5.heap[w.heap.size + 2]? = some (.cells #[.int .i64 1, .int .i64 n, .int .i64 d, .int .i64 z] 82)) := row_on HY0.out hb1
    have HO5 : Hid (w5.heap[w.heap.size + 1]? = some (.cells #[.int .i64 0, .int .i64 0, .int .i64 0, .int .i64 0] 82)) := row_on HO0.out hb1
    have HB5 : Hid (Below w.heap.size w w5) := bel_on (Nat.le_refl _) HB0.out hb1
    have y5 := box4_cells HY5.out
    clear hb1 y0 HY0 HO0 HB0 HBO HB
    cases B
    · obtain ⟨rfl, rfl, rfl, rfl⟩ : o1 = 0 ∧ o2 = 0 ∧ o3 = 0 ∧ o4 = 0 := by rcases HO4.out with h | h; cases h.1; exact h.2
      clear HO4
      go_upto_region 5 with fail
      go_wp2_with (refine listStoreO rfl rfl _ _ _ rfl rfl (w.heap.size + 1) (0) (0) (0) (0) rfl rfl HO5.out ?_)
      intro w9 hput
      have HB9 : Hid (Below w.heap.size w w9) := hput.2.2.2 _ _ (by omega) HB5.out
      have yy := box4_cells hput.1
      clear hput
      go_wp2
      refine bodyPost_ret (v := .tuple #[.agg #[.int .i64 0, .int .i64 0, .int .i64 0, .int .i64 0], .bool false]) (by simp only [results, Tryz.results127]; simp [go_sem, yy]) rfl ⟨rfl, HB9.out⟩
    · obtain ⟨rfl, rfl, rfl, rfl⟩ : 1 = o1 ∧ n = o2 ∧ d = o3 ∧ z = o4 := by rcases HO4.out with h | h; exact ⟨h.2.1.symm, h.2.2.1.symm, h.2.2.2.1.symm, h.2.2.2.2.symm⟩; cases h.1
      clear HO4
      go_upto_region 6 with fail
      go_wp2_with (refine listStoreO rfl rfl _ _ _ rfl rfl (w.heap.size + 1) (1) (n) (d) (z) rfl rfl HO5.out ?_)
      intro w9 hput
      have HB9 : Hid (Below w.heap.size w w9) := hput.2.2.2 _ _ (by omega) HB5.out
      have yy := box4_cells hput.1
      clear hput
      go_wp2
      refine bodyPost_ret (v := .tuple #[.agg #[.int .i64 1, .int .i64 n, .int .i64 d, .int .i64 z], .bool true]) (by simp only [results, Tryz.results127]; simp [go_sem, yy]) rfl ⟨rfl, HB9.out⟩
  · go_upto_region 3 with fail
    go_wp2_with (refine listStoreI rfl rfl _ _ _ rfl rfl (w.heap.size + 2) 0 2 rfl rfl HY0.out (by simp) ?_)
    intro w3 hput
    have HB3 : Hid (Below w.heap.size w w3) := hput.2.2.2 _ _ (by omega) HB0.out
    have HO3 : Hid (w3.heap[w.heap.size + 1]? = some (.cells #[.int .i64 0, .int .i64 0, .int .i64 0, .int .i64 0] 82)) := hput.far HO0.out (by omega)
    have HY3 : Hid (w3.heap[w.heap.size + 2]? = some (.cells #[.int .i64 2, .int .i64 n, .int .i64 d, .int .i64 z] 82)) := hput.1
    clear hput HB0 HO0 HY0 HP0 p0
    have HBO : Hid (B = true ↔ OrdR (2) (n) (d) (z)) := HB.out
    have y3 := box4_cells HY3.out
    go_wp2_with fail
    refine (ordokI (2) (n) (d) (z) B HBO.out _).mono ?_
    rintro e w5 ⟨rfl, hb1⟩
    have HY5 : Hid (w5.heap[w.heap.size + 2]? = some (.cells #[.int .i64 2, .int .i64 n, .int .i64 d, .int .i64 z] 82)) := row_on HY3.out hb1
    have HO5 : Hid (w5.heap[w.heap.size + 1]? = some (.cells #[.int .i64 0, .int .i64 0, .int .i64 0, .int .i64 0] 82)) := row_on HO3.out hb1
    have HB5 : Hid (Below w.heap.size w w5) := bel_on (Nat.le_refl _) HB3.out hb1
    have y5 := box4_cells HY5.out
    clear hb1 y3 HY3 HO3 HB3 HBO HB
    cases B
    · obtain ⟨rfl, rfl, rfl, rfl⟩ : o1 = 0 ∧ o2 = 0 ∧ o3 = 0 ∧ o4 = 0 := by rcases HO4.out with h | h; cases h.1; exact h.2
      clear HO4
      go_upto_region 5 with fail
      go_wp2_with (refine listStoreO rfl rfl _ _ _ rfl rfl (w.heap.size + 1) (0) (0) (0) (0) rfl rfl HO5.out ?_)
      intro w9 hput
      have HB9 : Hid (Below w.heap.size w w9) := hput.2.2.2 _ _ (by omega) HB5.out
      have yy := box4_cells hput.1
      clear hput
      go_wp2
      refine bodyPost_ret (v := .tuple #[.agg #[.int .i64 0, .int .i64 0, .int .i64 0, .int .i64 0], .bool false]) (by simp only [results, Tryz.results127]; simp [go_sem, yy]) rfl ⟨rfl, HB9.out⟩
    · obtain ⟨rfl, rfl, rfl, rfl⟩ : 2 = o1 ∧ n = o2 ∧ d = o3 ∧ z = o4 := by rcases HO4.out with h | h; exact ⟨h.2.1.symm, h.2.2.1.symm, h.2.2.2.1.symm, h.2.2.2.2.symm⟩; cases h.1
      clear HO4
      go_upto_region 6 with fail
      go_wp2_with (refine listStoreO rfl rfl _ _ _ rfl rfl (w.heap.size + 1) (2) (n) (d) (z) rfl rfl HO5.out ?_)
      intro w9 hput
      have HB9 : Hid (Below w.heap.size w w9) := hput.2.2.2 _ _ (by omega) HB5.out
      have yy := box4_cells hput.1
      clear hput
      go_wp2
      refine bodyPost_ret (v := .tuple #[.agg #[.int .i64 2, .int .i64 n, .int .i64 d, .int .i64 z], .bool true]) (by simp only [results, Tryz.results127]; simp [go_sem, yy]) rfl ⟨rfl, HB9.out⟩
end Go.Proofs.YtdifmjcghaoilaaGreatDoor

namespace Go.Proofs.YtdifmjcghaoilaaGreatDoor
open Go.RowKit Go.PlainAid
set_option linter.unusedVariables false
set_option linter.unusedSimpArgs false

/-- what is left of pressM at the byte 10, its number told -/
def entM (a : Int) (b : Bool) (n d : Int) (z : Int) : Pr :=
  if a = 2 then noP ⟨3, b, z, d, []⟩ else if a = 3 then noP ⟨4, b, n, z, []⟩
  else if b = true then (if 1 ≤ z ∧ z ≤ 100 then ⟨newM, 2, 0, 0, z, true⟩ else noP newM)
  else if (1 ≤ d ∧ d ≤ 1000) ∧ (1 ≤ n ∧ n ≤ 1000) ∧ n ≤ 3 * d ∧ (1 ≤ z ∧ z ≤ 5000) then ⟨newM, 1, n, d, z, true⟩ else noP newM
/-- the last entry: what is told -/
theorem ent_end (b : Bool) (n d z : Int) (hg : b = true → n = 0 ∧ d = 0) : ∃ (k : Int) (B : Bool) (o1 o2 o3 o4 : Int), ((b = false ∧ k = 1) ∨ (b = true ∧ k = 2)) ∧ (B = true ↔ OrdR k n d z) ∧ ((B = true ∧ o1 = k ∧ o2 = n ∧ o3 = d ∧ o4 = z) ∨ (B = false ∧ o1 = 0 ∧ o2 = 0 ∧ o3 = 0 ∧ o4 = 0)) ∧ entM 4 b n d z = ⟨newM, o1, o2, o3, o4, B⟩ := by
  cases b
  · obtain ⟨B, hB⟩ := ord_bool 1 n d z
    cases B
    · refine ⟨1, false, 0, 0, 0, 0, Or.inl ⟨rfl, rfl⟩, hB, Or.inr ⟨rfl, rfl, rfl, rfl, rfl⟩, ?_⟩
      unfold entM
      rw [if_neg (by decide), if_neg (by decide), if_neg (by decide), if_neg (fun h => by have := hB.2 (Or.inl ⟨rfl, h⟩); cases this)]
      rfl
    · refine ⟨1, true, 1, n, d, z, Or.inl ⟨rfl, rfl⟩, hB, Or.inl ⟨rfl, rfl, rfl, rfl, rfl⟩, ?_⟩
      unfold entM
      rw [if_neg (by decide), if_neg (by decide), if_neg (by decide), if_pos (by have h := hB.1 rfl; unfold OrdR at h; omega)]
  · obtain ⟨rfl, rfl⟩ := hg rfl
    obtain ⟨B, hB⟩ := ord_bool 2 0 0 z
    cases B
    · refine ⟨2, false, 0, 0, 0, 0, Or.inr ⟨rfl, rfl⟩, hB, Or.inr ⟨rfl, rfl, rfl, rfl, rfl⟩, ?_⟩
      unfold entM
      rw [if_neg (by decide), if_neg (by decide), if_pos rfl, if_neg (fun h => by have := hB.2 (Or.inr (Or.inl ⟨rfl, h, rfl, rfl⟩)); cases this)]
      rfl
    · refine ⟨2, true, 2, 0, 0, z, Or.inr ⟨rfl, rfl⟩, hB, Or.inl ⟨rfl, rfl, rfl, rfl, rfl⟩, ?_⟩
      unfold entM
      rw [if_neg (by decide), if_neg (by decide), if_pos rfl, if_pos (by have h := hB.1 rfl; unfold OrdR at h; omega)]
set_option maxRecDepth 100000 in
set_option maxHeartbeats 4000000 in
theorem enteredI (a : Int) (b : Bool) (n d : Int) (s : List UInt8) (S : ByteArray) (hS : (⟨s.toArray⟩ : ByteArray) = S) (z : Int) (hz : numF s = z) (hf : ∀ x ∈ s, figB x = true) (hl : s.length ≤ 4) (ha : 2 ≤ a ∧ a ≤ 4) (hg : b = true → n = 0 ∧ d = 0) (r : Pr) (hr : entM a b n d z = r) (w : World) : Calls Tryz.prog 117 #[.agg #[.int .i64 a, .bool b, .int .i64 n, .int .i64 d, .string S]] w fun e w' => e = .returned (.tuple #[mnV r.m, ordV r.k r.n r.d r.v, .bool r.t]) ∧ Below w.heap.size w w' := by
  obtain ⟨h1, h2, h3, h4, h5⟩ := box3m w (.cells #[.int .i64 a, .bool b, .int .i64 n, .int .i64 d, .string S] 32) (.cells #[.int .i64 0, .bool false, .int .i64 0, .int .i64 0, .string ⟨#[]⟩] 32) (.cells #[.int .i64 0, .int .i64 0, .int .i64 0, .int .i64 0] 82)
  have HP0 : Hid (_ = _) := h1
  have HZ0 : Hid (_ = _) := h2
  have HO0 : Hid (_ = _) := h3
  have HB0 : Hid (Below _ _ _) := h4
  have p0 := box5_cells h1
  clear h1 h2 h3 h4 h5
  unfold mnV ordV
  have HS : Hid ((⟨s.toArray⟩ : ByteArray) = S) := hS
  have HZF : Hid (numF s = z) := hz
  have HFG : Hid (∀ x ∈ s, figB x = true) := hf
  have HR : Hid (entM a b n d z = r) := hr
  have HG : Hid (b = true → n = 0 ∧ d = 0) := hg
  clear hS hz hf hr hg
  go_enter Tryz.func117, Tryz.ntmps117
  go_wp2_with fail
  refine (numbI s S HS.out z HZF.out HFG.out hl _).mono ?_
  rintro e w1 ⟨rfl, hb1⟩
  have HB1 : Hid (Below w.heap.size w w1) := bel_on (Nat.le_refl _) HB0.out hb1
  have HP1 : Hid (w1.heap[w.heap.size]? = some (.cells #[.int .i64 a, .bool b, .int .i64 n, .int .i64 d, .string S] 32)) := row_on HP0.out hb1
  have HZ1 : Hid (w1.heap[w.heap.size + 1]? = some (.cells #[.int .i64 0, .bool false, .int .i64 0, .int .i64 0, .string ⟨#[]⟩] 32)) := row_on HZ0.out hb1
  have HO1 : Hid (w1.heap[w.heap.size + 2]? = some (.cells #[.int .i64 0, .int .i64 0, .int .i64 0, .int .i64 0] 82)) := row_on HO0.out hb1
  have p1 := box5_cells HP1.out
  clear hb1 HB0 HP0 HZ0 HO0 p0
  clear HZF HFG HS hl
  go_wp2_with (refine listStoreT rfl rfl _ _ _ rfl rfl w.heap.size 4 (⟨#[]⟩ : ByteArray) rfl rfl HP1.out (by simp) ?_)
  intro w2 hput
  have HB2 : Hid (Below w.heap.size w w2) := hput.2.2.2 _ _ (Nat.le_refl _) HB1.out
  have HP2 : Hid (w2.heap[w.heap.size]? = some (.cells #[.int .i64 a, .bool b, .int .i64 n, .int .i64 d, .string ⟨#[]⟩] 32)) := hput.1
  have HZ2 : Hid (w2.heap[w.heap.size + 1]? = some (.cells #[.int .i64 0, .bool false, .int .i64 0, .int .i64 0, .string ⟨#[]⟩] 32)) := hput.far HZ1.out (by omega)
  have HO2 : Hid (w2.heap[w.heap.size + 2]? = some (.cells #[.int .i64 0, .int .i64 0, .int .i64 0, .int .i64 0] 82)) := hput.far HO1.out (by omega)
  have p2 := box5_cells HP2.out
  clear hput HB1 HP1 HZ1 HO1 p1
  by_cases a2 : a = 2
  · obtain rfl : noP ⟨3, b, z, d, []⟩ = r := by rw [← HR.out]; unfold entM; rw [if_pos a2]
    clear HR ha HG
    subst a2
    (try dsimp only [noP])
    go_wp2_with (refine listStoreI rfl rfl _ _ _ rfl rfl w.heap.size 0 3 rfl rfl HP2.out (by simp) ?_)
    intro w3 hput
    have HB3 : Hid (Below w.heap.size w w3) := hput.2.2.2 _ _ (Nat.le_refl _) HB2.out
    have HP3 : Hid (w3.heap[w.heap.size]? = some (.cells #[.int .i64 3, .bool b, .int .i64 n, .int .i64 d, .string ⟨#[]⟩] 32)) := hput.1
    have HZ3 : Hid (w3.heap[w.heap.size + 1]? = some (.cells #[.int .i64 0, .bool false, .int .i64 0, .int .i64 0, .string ⟨#[]⟩] 32)) := hput.far HZ2.out (by omega)
    have HO3 : Hid (w3.heap[w.heap.size + 2]? = some (.cells #[.int .i64 0, .int .i64 0, .int .i64 0, .int .i64 0] 82)) := hput.far HO2.out (by omega)
    have p3 := box5_cells HP3.out
    clear hput HB2 HP2 HZ2 HO2 p2
    go_wp2_with (refine listStoreI rfl rfl _ _ _ rfl rfl w.heap.size 2 z rfl rfl HP3.out (by simp) ?_)
    intro w4 hput
    have HB4 : Hid (Below w.heap.size w w4) := hput.2.2.2 _ _ (Nat.le_refl _) HB3.out
    have HP4 : Hid (w4.heap[w.heap.size]? = some (.cells #[.int .i64 3, .bool b, .int .i64 z, .int .i64 d, .string ⟨#[]⟩] 32)) := hput.1
    have HZ4 : Hid (w4.heap[w.heap.size + 1]? = some (.cells #[.int .i64 0, .bool false, .int .i64 0, .int .i64 0, .string ⟨#[]⟩] 32)) := hput.far HZ3.out (by omega)
    have HO4 : Hid (w4.heap[w.heap.size + 2]? = some (.cells #[.int .i64 0, .int .i64 0, .int .i64 0, .int .i64 0] 82)) := hput.far HO3.out (by omega)
    have p4 := box5_cells HP4.out
    clear hput HB3 HP3 HZ3 HO3 p3
    go_upto_region 10 with fail
    go_wp2_with (refine listStoreM rfl rfl _ _ _ rfl rfl (w.heap.size + 1) (3) (b) (z) (d) (⟨#[]⟩) rfl rfl HZ4.out ?_)
    intro w8 hput
    have HB8 : Hid (Below w.heap.size w w8) := hput.2.2.2 _ _ (Nat.le_succ _) HB4.out
    have HO8 : Hid (w8.heap[w.heap.size + 2]? = some (.cells #[.int .i64 0, .int .i64 0, .int .i64 0, .int .i64 0] 82)) := hput.far HO4.out (by omega)
    have HZ8 : Hid (w8.heap[w.heap.size + 1]? = some (.cells #[.int .i64 3, .bool b, .int .i64 z, .int .i64 d, .string ⟨#[]⟩] 32)) := hput.1
    clear hput
    go_wp2_with (refine listStoreO rfl rfl _ _ _ rfl rfl (w.heap.size + 2) (0) (0) (0) (0) rfl rfl HO8.out ?_)
    intro w9 hput
    have HB9 : Hid (Below w.heap.size w w9) := hput.2.2.2 _ _ (by omega) HB8.out
    have zz := box5_cells (hput.far HZ8.out (by omega))
    have yy := box4_cells hput.1
    clear hput HB8 HO8 HZ8
    go_wp2
    refine bodyPost_ret (v := .tuple #[.agg #[.int .i64 3, .bool b, .int .i64 z, .int .i64 d, .string ⟨#[]⟩], .agg #[.int .i64 0, .int .i64 0, .int .i64 0, .int .i64 0], .bool false]) (by simp only [results, Tryz.results117]; simp [go_sem, zz, yy]) rfl ⟨rfl, HB9.out⟩
  have q2 : (a == 2) = false := by simpa using a2
  by_cases a3 : a = 3
  · obtain rfl : noP ⟨4, b, n, z, []⟩ = r := by rw [← HR.out]; unfold entM; rw [if_neg a2, if_pos a3]
    clear HR ha HG a2 q2
    subst a3
    (try dsimp only [noP])
    go_wp2_with (refine listStoreI rfl rfl _ _ _ rfl rfl w.heap.size 0 4 rfl rfl HP2.out (by simp) ?_)
    intro w3 hput
    have HB3 : Hid (Below w.heap.size w w3) := hput.2.2.2 _ _ (Nat.le_refl _) HB2.out
    have HP3 : Hid (w3.heap[w.heap.size]? = some (.cells #[.int .i64 4, .bool b, .int .i64 n, .int .i64 d, .string ⟨#[]⟩] 32)) := hput.1
    have HZ3 : Hid (w3.heap[w.heap.size + 1]? = some (.cells #[.int .i64 0, .bool false, .int .i64 0, .int .i64 0, .string ⟨#[]⟩] 32)) := hput.far HZ2.out (by omega)
    have HO3 : Hid (w3.heap[w.heap.size + 2]? = some (.cells #[.int .i64 0, .int .i64 0, .int .i64 0, .int .i64 0] 82)) := hput.far HO2.out (by omega)
    have p3 := box5_cells HP3.out
    clear hput HB2 HP2 HZ2 HO2 p2
    go_wp2_with (refine listStoreI rfl rfl _ _ _ rfl rfl w.heap.size 3 z rfl rfl HP3.out (by simp) ?_)
    intro w4 hput
    have HB4 : Hid (Below w.heap.size w w4) := hput.2.2.2 _ _ (Nat.le_refl _) HB3.out
    have HP4 : Hid (w4.heap[w.heap.size]? = some (.cells #[.int .i64 4, .bool b, .int .i64 n, .int .i64 z, .string ⟨#[]⟩] 32)) := hput.1
    have HZ4 : Hid (w4.heap[w.heap.size + 1]? = some (.cells #[.int .i64 0, .bool false, .int .i64 0, .int .i64 0, .string ⟨#[]⟩] 32)) := hput.far HZ3.out (by omega)
    have HO4 : Hid (w4.heap[w.heap.size + 2]? = some (.cells #[.int .i64 0, .int .i64 0, .int .i64 0, .int .i64 0] 82)) := hput.far HO3.out (by omega)
    have p4 := box5_cells HP4.out
    clear hput HB3 HP3 HZ3 HO3 p3
    go_upto_region 10 with fail
    go_wp2_with (refine listStoreM rfl rfl _ _ _ rfl rfl (w.heap.size + 1) (4) (b) (n) (z) (⟨#[]⟩) rfl rfl HZ4.out ?_)
    intro w8 hput
    have HB8 : Hid (Below w.heap.size w w8) := hput.2.2.2 _ _ (Nat.le_succ _) HB4.out
    have HO8 : Hid (w8.heap[w.heap.size + 2]? = some (.cells #[.int .i64 0, .int .i64 0, .int .i64 0, .int .i64 0] 82)) := hput.far HO4.out (by omega)
    have HZ8 : Hid (w8.heap[w.heap.size + 1]? = some (.cells #[.int .i64 4, .bool b, .int .i64 n, .int .i64 z, .string ⟨#[]⟩] 32)) := hput.1
    clear hput
    go_wp2_with (refine listStoreO rfl rfl _ _ _ rfl rfl (w.heap.size + 2) (0) (0) (0) (0) rfl rfl HO8.out ?_)
    intro w9 hput
    have HB9 : Hid (Below w.heap.size w w9) := hput.2.2.2 _ _ (by omega) HB8.out
    have zz := box5_cells (hput.far HZ8.out (by omega))
    have yy := box4_cells hput.1
    clear hput HB8 HO8 HZ8
    go_wp2
    refine bodyPost_ret (v := .tuple #[.agg #[.int .i64 4, .bool b, .int .i64 n, .int .i64 z, .string ⟨#[]⟩], .agg #[.int .i64 0, .int .i64 0, .int .i64 0, .int .i64 0], .bool false]) (by simp only [results, Tryz.results117]; simp [go_sem, zz, yy]) rfl ⟨rfl, HB9.out⟩
  obtain rfl : a = 4 := by omega
  clear ha a2 a3 q2
  obtain ⟨k, B, o1, o2, o3, o4, hk, hB, ho, hE⟩ := ent_end b n d z HG.out
  obtain rfl : (⟨newM, o1, o2, o3, o4, B⟩ : Pr) = r := by rw [← HR.out, hE]
  have HK : Hid ((b = false ∧ k = 1) ∨ (b = true ∧ k = 2)) := hk
  have HBO : Hid (B = true ↔ OrdR k n d z) := hB
  have HQQ : Hid ((B = true ∧ o1 = k ∧ o2 = n ∧ o3 = d ∧ o4 = z) ∨ (B = false ∧ o1 = 0 ∧ o2 = 0 ∧ o3 = 0 ∧ o4 = 0)) := ho
  clear HR hk hB ho hE HG
  (try dsimp only [newM])
  go_wp2_with fail
  refine (orderI 4 b n d ⟨#[]⟩ z k HK.out B HBO.out o1 o2 o3 o4 HQQ.out _).mono ?_
  rintro e w4 ⟨rfl, hb1⟩
  have HB4 : Hid (Below w.heap.size w w4) := bel_on (Nat.le_refl _) HB2.out hb1
  have HP4 : Hid (w4.heap[w.heap.size]? = some (.cells #[.int .i64 4, .bool b, .int .i64 n, .int .i64 d, .string ⟨#[]⟩] 32)) := row_on HP2.out hb1
  have HZ4 : Hid (w4.heap[w.heap.size + 1]? = some (.cells #[.int .i64 0, .bool false, .int .i64 0, .int .i64 0, .string ⟨#[]⟩] 32)) := row_on HZ2.out hb1
  have HO4 : Hid (w4.heap[w.heap.size + 2]? = some (.cells #[.int .i64 0, .int .i64 0, .int .i64 0, .int .i64 0] 82)) := row_on HO2.out hb1
  have p4 := box5_cells HP4.out
  clear hb1 HB2 HP2 HZ2 HO2 p2
  clear HK HBO HQQ
  have HB5 : Hid (Below w.heap.size w (w4.alloc (.cells #[.int .i64 o1, .int .i64 o2, .int .i64 o3, .int .i64 o4] 82))) := bel_on (Nat.le_refl _) HB4.out (alM _ _)
  have HZ5 : Hid ((w4.alloc (.cells #[.int .i64 o1, .int .i64 o2, .int .i64 o3, .int .i64 o4] 82)).heap[w.heap.size + 1]? = some (.cells #[.int .i64 0, .bool false, .int .i64 0, .int .i64 0, .string ⟨#[]⟩] 32)) := row_on HZ4.out (alM _ _)
  have HO5 : Hid ((w4.alloc (.cells #[.int .i64 o1, .int .i64 o2, .int .i64 o3, .int .i64 o4] 82)).heap[w.heap.size + 2]? = some (.cells #[.int .i64 0, .int .i64 0, .int .i64 0, .int .i64 0] 82)) := row_on HO4.out (alM _ _)
  have HY5 : Hid ((w4.alloc (.cells #[.int .i64 o1, .int .i64 o2, .int .i64 o3, .int .i64 o4] 82)).heap[w4.heap.size]? = some (.cells #[.int .i64 o1, .int .i64 o2, .int .i64 o3, .int .i64 o4] 82)) := heap_new w4 _
  have hY : w.heap.size + 2 < w4.heap.size := row_lt HO4.out
  clear HP4 p4 HB4 HZ4 HO4
  go_upto_region 5 with fail
  generalize w4.alloc (.cells #[.int .i64 o1, .int .i64 o2, .int .i64 o3, .int .i64 o4] 82) = w5 at *
  generalize w4.heap.size = Y at *
  have y5 := box4_cells HY5.out
  refine wp_region_held_drew (S := fun w' => w'.cell? ⟨Y, 0, none⟩ = some (.int .i64 o1) ∧ w'.cell? ⟨Y, 1, none⟩ = some (.int .i64 o2) ∧ w'.cell? ⟨Y, 2, none⟩ = some (.int .i64 o3) ∧ w'.cell? ⟨Y, 3, none⟩ = some (.int .i64 o4) ∧ Below w.heap.size w w') (by kernel_rfl) (ky4 (w' := w5.drew) HY5.out HB5.out.drew) (fun hHeld => ?_)
  refine wpAnyH_take (i := 1) (v := ?_) rfl (by kernel_rfl) (by kernel_rfl) (by kernel_rfl) (fun _ _ _ h => h) (Or.inl ⟨by rfl, ?_⟩) (by assumption) ?_
  rotate_left
  · intro w_ hSw; (try dsimp only at hSw); go_simp <;> with_reducible rfl
  try simp only [Act.put, List.setIfInBounds_toArray, List.set_cons_zero, List.set_cons_succ, List.getElem_toArray, List.getElem_cons_zero, List.getElem_cons_succ]
  refine wpAnyH_take (i := 2) (v := ?_) rfl (by kernel_rfl) (by kernel_rfl) (by kernel_rfl) (fun _ _ _ h => h) (Or.inl ⟨by rfl, ?_⟩) (by assumption) ?_
  rotate_left
  · intro w_ hSw; (try dsimp only at hSw); go_simp <;> with_reducible rfl
  try simp only [Act.put, List.setIfInBounds_toArray, List.set_cons_zero, List.set_cons_succ, List.getElem_toArray, List.getElem_cons_zero, List.getElem_cons_succ]
  refine wpAnyH_ready (rs := [0]) (by kernel_rfl) (by simp) ?_
  refine AllReadyH.cons rfl (fun J hJ => ?_) AllReadyH.nil
  go_simp
  go_at_call 41
  refine (menunewI _).mono ?_
  rintro e w6 ⟨rfl, hbc⟩
  have HB6 : Hid (Below w.heap.size w w6) := bel_on (Nat.le_refl _) HB5.out.drew hbc
  have HY6 : Hid (w6.heap[Y]? = some (.cells #[.int .i64 o1, .int .i64 o2, .int .i64 o3, .int .i64 o4] 82)) := row_on (w := w5.drew) HY5.out hbc
  have HZ6 : Hid (w6.heap[w.heap.size + 1]? = some (.cells #[.int .i64 0, .bool false, .int .i64 0, .int .i64 0, .string ⟨#[]⟩] 32)) := row_on (w := w5.drew) HZ5.out hbc
  have HO6 : Hid (w6.heap[w.heap.size + 2]? = some (.cells #[.int .i64 0, .int .i64 0, .int .i64 0, .int .i64 0] 82)) := row_on (w := w5.drew) HO5.out hbc
  unfold mnV newM
  dsimp only
  clear hbc HB5 HY5 HZ5 HO5 y5
  go_wp2_with fail
  refine hJ.out _ _ (ky4 HY6.out HB6.out) (fun hHeld1 => ?_)
  clear hJ J hHeld
  try simp only [Act.put, List.setIfInBounds_toArray, List.set_cons_zero, List.set_cons_succ, List.getElem_toArray, List.getElem_cons_zero, List.getElem_cons_succ]
  refine wpAnyH_ready (rs := [3]) (by kernel_rfl) (by simp) ?_
  refine AllReadyH.cons rfl (fun J hJ => ?_) AllReadyH.nil
  refine storeM_any rfl rfl _ _ _ rfl rfl (w.heap.size + 1) 1 false 0 0 ⟨#[]⟩ rfl rfl HZ6.out ?_
  intro w7 hput
  have HB7 : Hid (Below w.heap.size w w7) := hput.2.2.2 _ _ (Nat.le_succ _) HB6.out
  have HY7 : Hid (w7.heap[Y]? = some (.cells #[.int .i64 o1, .int .i64 o2, .int .i64 o3, .int .i64 o4] 82)) := hput.far HY6.out (by omega)
  have HZ7 : Hid (w7.heap[w.heap.size + 1]? = some (.cells #[.int .i64 1, .bool false, .int .i64 0, .int .i64 0, .string ⟨#[]⟩] 32)) := hput.1
  have HO7 : Hid (w7.heap[w.heap.size + 2]? = some (.cells #[.int .i64 0, .int .i64 0, .int .i64 0, .int .i64 0] 82)) := hput.far HO6.out (by omega)
  clear hput HB6 HY6 HZ6 HO6
  refine hJ.out _ _ (ky4 HY7.out HB7.out) (fun hHeld2 => ?_)
  clear hJ J hHeld1
  try simp only [Act.put, List.setIfInBounds_toArray, List.set_cons_zero, List.set_cons_succ, List.getElem_toArray, List.getElem_cons_zero, List.getElem_cons_succ]
  refine wpAnyH_ready (rs := [4]) (by kernel_rfl) (by simp) ?_
  refine AllReadyH.cons rfl (fun J hJ => ?_) AllReadyH.nil
  refine storeO_any rfl rfl _ _ _ rfl rfl (w.heap.size + 2) o1 o2 o3 o4 rfl rfl HO7.out ?_
  intro w9 hput
  have HB9 : Hid (Below w.heap.size w w9) := hput.2.2.2 _ _ (by omega) HB7.out
  have HY9 : Hid (w9.heap[Y]? = some (.cells #[.int .i64 o1, .int .i64 o2, .int .i64 o3, .int .i64 o4] 82)) := hput.far HY7.out (by omega)
  have zz := box5_cells (hput.far HZ7.out (by omega))
  have yy := box4_cells hput.1
  clear hput HB7 HY7 HZ7 HO7
  refine hJ.out _ _ (ky4 HY9.out HB9.out) (fun hHeld3 => ?_)
  clear hJ J hHeld2
  try simp only [Act.put, List.setIfInBounds_toArray, List.set_cons_zero, List.set_cons_succ, List.getElem_toArray, List.getElem_cons_zero, List.getElem_cons_succ]
  refine wpAnyH_take (i := 5) (v := ?_) rfl (by kernel_rfl) (by kernel_rfl) (by kernel_rfl) (fun _ _ _ h => h) (Or.inl ⟨by rfl, ?_⟩) (by assumption) ?_
  rotate_left
  · intro w_ hSw; (try dsimp only at hSw); go_simp <;> with_reducible rfl
  try simp only [Act.put, List.setIfInBounds_toArray, List.set_cons_zero, List.set_cons_succ, List.getElem_toArray, List.getElem_cons_zero, List.getElem_cons_succ]
  refine wpAnyH_done (by kernel_rfl) ?_ _
  clear hHeld3
  go_wp2
  refine bodyPost_ret (v := .tuple #[.agg #[.int .i64 1, .bool false, .int .i64 0, .int .i64 0, .string ⟨#[]⟩], .agg #[.int .i64 o1, .int .i64 o2, .int .i64 o3, .int .i64 o4], .bool B]) (by simp only [results, Tryz.results117]; simp [go_sem, zz, yy]) rfl ⟨rfl, HB9.out⟩
end Go.Proofs.YtdifmjcghaoilaaGreatDoor
