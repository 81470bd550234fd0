/-
  Menus of the program: MenuNew, copyOfMenu, isFigure, areFigures, MenuOk, numberOf.
-/
import Derived.Test.YtfhhnelffldggaaGreatDoorUqAH
import Derived.Test.YtfhhnelffldggaaGreatDoorUqAJ
import Derived.Test.YtfhhnelffldggaaGreatDoorUqAB
import Derived.Test.YtfhhnelffldggaaGreatDoorUqAY
import Derived.Test.YtfhhnelffldggaaGreatDoorShelf
import Derived.Lib.OthersKept
import Derived.Deep.CutRange
import Derived.Test.YtfhhnelffldggaaGreatDoorUqAD
set_option maxRecDepth 100000
set_option maxHeartbeats 16000000
namespace Go.Proofs.YtfhhnelffldggaaGreatDoor
open Go.RowKit Go.PlainAid
set_option linter.unusedVariables false
set_option linter.unusedSimpArgs false
theorem menunewI (w : World) : Calls Tryz.prog 45 #[] w fun e w' => e = .returned (mnV newM) ∧ Below w.heap.size w w' := by
 go_enter Tryz.func45, Tryz.ntmps45
 go_wp2
 refine bodyPost_ret (v := mnV newM) (by simp [results, Tryz.results45, go_sem, mnV, newM]) rfl ⟨rfl, ?_⟩
 first | exact alM _ _ | (repeat' (first | exact alM _ _ | refine Below.setCell ?_ (Nat.le_refl _) _))
theorem cloneI (s : ByteArray) (w : World) (hs : s.size ≤ 281474976710656) :
  Calls Tryz.prog 129 #[.string s] w fun e w' => e = .returned (.string s) ∧ Below w.heap.size w w' := by
 go_enter Tryz.func129, Tryz.ntmps129
 go_wp2_with fail
 refine (Tryz.stringslite_Clone s _ hs).mono ?_
 rintro e w1 ⟨rfl, hb⟩
 go_wp2
 go_ret
 exact ⟨rfl, hb⟩
theorem box2m (w : World) (o p : Obj) : ((w.alloc o).alloc p).heap[w.heap.size]? = some o ∧ ((w.alloc o).alloc p).heap[w.heap.size + 1]? = some p ∧ Below w.heap.size w ((w.alloc o).alloc p) := by
 have h0 := heap_new w o
 have h1 := heap_new (w.alloc o) p
 exact ⟨row_on h0 (alM _ _), by simpa using h1, bel_on (Nat.le_refl _) (alM _ _) (alM _ _)⟩
theorem copyI (m : Mn) (hs : m.s.length ≤ 1048576) (w : World) : Calls Tryz.prog 77 #[mnV m] w fun e w' => e = .returned (mnV m) ∧ Below w.heap.size w w' := by
 obtain ⟨a, b, n, d, s⟩ := m
 obtain ⟨S, hS⟩ : ∃ S : ByteArray, (⟨s.toArray⟩ : ByteArray) = S := ⟨_, rfl⟩
 obtain ⟨h1, h2, h4⟩ := box2m w (.cells #[.int .i64 a, .bool b, .int .i64 n, .int .i64 d, .string S] 34) (.cells #[.int .i64 0, .bool false, .int .i64 0, .int .i64 0, .string ⟨#[]⟩] 34)
 have HP0 := hq h1
 have HZ0 := hq h2
 have HB0 := hq h4
 have p0 := box5_cells h1
 have hsz := txt_size hS
 have hs' : S.size ≤ 281474976710656 := by dsimp only at hs; omega
 clear h1 h2 h4
 unfold mnV
 dsimp only
 rw [hS]
 clear hs hsz hS
 go_enter Tryz.func77, Tryz.ntmps77
 go_wp2_with fail
 refine (cloneI S _ hs').mono ?_
 rintro e w1 ⟨rfl, hb1⟩
 have HB1 := bq HB0 hb1
 have HP1 := rq HP0 hb1
 have HZ1 := rq HZ0 hb1
 have p1 := box5_cells HP1.out
 clear hb1 HB0 HP0 HZ0 p0
 go_wp2_with (refine listStoreT rfl rfl _ _ _ rfl rfl w.heap.size 4 S rfl rfl HP1.out (by simp) ?_)
 intro w2 hput
 have HB2 := hq (hput.2.2.2 _ _ (Nat.le_refl _) HB1.out)
 have HP2 := hq hput.1
 have HZ2 := hq (hput.far HZ1.out (by omega))
 have p2 := box5_cells HP2.out
 clear hput HB1 HP1 HZ1 p1
 go_wp2_with (refine listStoreM rfl rfl _ _ _ rfl rfl (w.heap.size + 1) a b n d S rfl rfl HZ2.out ?_)
 intro w8 hput
 have HB8 := hq (hput.2.2.2 _ _ (Nat.le_succ _) HB2.out)
 have zz := box5_cells hput.1
 clear hput HB2 HP2 HZ2 p2
 go_wp2
 refine bodyPost_ret (v := .agg #[.int .i64 a, .bool b, .int .i64 n, .int .i64 d, .string S]) (by simp only [results, Tryz.results77]; simp [go_sem, zz]) rfl ⟨rfl, HB8.out⟩
theorem figI (z : Int) (B : Bool) (hB : decide (48 ≤ z ∧ z ≤ 57) = B) (w : World) : Calls Tryz.prog 161 #[.int .i32 z] w fun e w' => e = .returned (.bool B) ∧ w' = w := by
 subst hB
 go_enter Tryz.func161, Tryz.ntmps161
 by_cases h1 : 48 ≤ z
 ·
  by_cases h2 : z ≤ 57
  ·
   rw [show decide (48 ≤ z ∧ z ≤ 57) = true from decide_eq_true ⟨h1, h2⟩]
   go_wp2
   go_ret
   exact ⟨rfl, rfl⟩
  ·
   rw [show decide (48 ≤ z ∧ z ≤ 57) = false from decide_eq_false (fun h => h2 h.2)]
   go_wp2
   go_ret
   exact ⟨rfl, rfl⟩
 ·
  rw [show decide (48 ≤ z ∧ z ≤ 57) = false from decide_eq_false (fun h => h1 h.1)]
  go_wp2
  go_ret
  exact ⟨rfl, rfl⟩
theorem w32_in {n : Int} (h0 : -2147483648 ≤ n) (h1 : n ≤ 2147483647) : IntKind.i32.wrap n = n := by
 rw [IntKind.wrap_i32]
 omega
structure IT (w w' : World) (K : ByteArray) (pos : Nat) : Prop where
 it : w'.heap[w.heap.size]? = some (.stringIter K pos)
 b : Below w.heap.size w w'
theorem it_new (w : World) (K : ByteArray) : IT w (w.alloc (.stringIter K 0)) K 0 := ⟨heap_new w _, alM _ _⟩
theorem IT.next {w w' : World} {K : ByteArray} {pos : Nat} (h : IT w w' K pos) (pos' : Nat) : IT w (w'.iterAt w.heap.size K pos') K pos' :=
 ⟨Lib.iterAt_heap w' w.heap.size K pos pos' h.it, Lib.below_iterAt h.b (Nat.le_refl _) K pos'⟩
theorem all_not {s : List UInt8} {j : Nat} (h : j < s.length) (hf : ¬ (48 ≤ (s[j].toNat : Int) ∧ (s[j].toNat : Int) ≤ 57)) : s.all figB = false := by
 cases e : s.all figB
 · rfl
 · exact absurd (of_decide_eq_true (List.all_eq_true.1 e _ (List.getElem_mem h))) hf
theorem areI (s : List UInt8) (S : ByteArray) (hS : (⟨s.toArray⟩ : ByteArray) = S) (B : Bool) (hB : s.all figB = B) (w : World) : Calls Tryz.prog 117 #[.string S] w fun e w' => e = .returned (.bool B) ∧ Below w.heap.size w w' := by
 have hsz := txt_size hS
 have HAT : Hid (∀ k (h : k < S.size) (h2 : k < s.length), (S[k]'h) = s[k]) := by show ∀ k (h : k < S.size) (h2 : k < s.length), (S[k]'h) = s[k]; intro k h h2; subst hS; rfl
 have HO := hq hB
 have HI0 : Hid (IT w (w.alloc (.stringIter S 0)) S 0) := it_new w S
 clear hS hB
 go_enter Tryz.func117, Tryz.ntmps117
 go_wp2
 go_loopg [2] S.size (fun gk v wr => ∃ j : Nat, j + gk = S.size ∧ v = .bool false ∧ Hid (FigJ s j) ∧ Hid (IT w wr S j))
 case atStart => exact ⟨0, by omega, rfl, figJ_zero s, HI0⟩
 case round =>
  clear HI0
  obtain ⟨j, hj, rfl, HF, HI⟩ := hrel
  by_cases hlt : j < S.size
  ·
   have hjl : j < s.length := by omega
   have hat := HAT.out j hlt hjl
   have hnx : ∀ ty, (Instr.next (.pointer (some ⟨w.heap.size, 0, none⟩)) true ty).run Tryz.prog wr = _ := fun ty => Lib.run_next_any_at wr w.heap.size S j ty HI.out.it hlt
   have HI1 := HI.out.next (j + (Utf8.decode S j).2)
   by_cases ha : (S[j]'hlt).toNat < 128
   ·
    rw [decode_ascii S j hlt ha] at hnx HI1
    obtain ⟨z, hz⟩ : ∃ z : Nat, (S[j]'hlt).toNat = z := ⟨_, rfl⟩
    rw [hz] at ha
    dsimp only at hnx HI1
    rw [hz] at hnx
    obtain ⟨w1, hw1e⟩ : ∃ w1, wr.iterAt w.heap.size S (j + 1) = w1 := ⟨_, rfl⟩
    rw [hw1e] at hnx HI1
    have HI2 : Hid (IT w w1 S (j + 1)) := HI1
    have hz2 : s[j].toNat = z := by rw [← hat]; exact hz
    have q1 : IntKind.i32.wrap (z : Int) = (z : Int) := w32_in (by omega) (by omega)
    clear hw1e HI1 HI hat hz
    by_cases hf : 48 ≤ (z : Int) ∧ (z : Int) ≤ 57
    ·
     have HF' : Hid (FigJ s (j + 1)) := figJ_succ HF.out hjl (by rw [hz2]; exact hf)
     have HD : Hid (decide (48 ≤ (z : Int) ∧ (z : Int) ≤ 57) = true) := decide_eq_true hf
     clear HF hz2 hf hjl
     go_wp2_with fail
     refine (figI (z : Int) true HD.out _).mono ?_
     rintro e w2 ⟨rfl, hw⟩
     obtain rfl : w1 = w2 := hw.symm
     clear hw hnx
     go_wp2
     go_roundg (gk - 1)
     case measure => omega
     case rel => exact ⟨j + 1, by omega, rfl, HF', HI2⟩
    ·
     have HD : Hid (decide (48 ≤ (z : Int) ∧ (z : Int) ≤ 57) = false) := decide_eq_false hf
     obtain rfl : false = B := by rw [← HO.out]; exact (all_not hjl (by rw [hz2]; exact hf)).symm
     clear HF hz2 hf hjl
     go_wp2_with fail
     refine (figI (z : Int) false HD.out _).mono ?_
     rintro e w2 ⟨rfl, hw⟩
     obtain rfl : w1 = w2 := hw.symm
     clear hw hnx
     go_wp2
     go_ret
     exact ⟨rfl, HI2.out.b⟩
   ·
    have ha' : 128 ≤ (S[j]'hlt).toNat := by omega
    obtain ⟨d1, d2⟩ := decode_high S j hlt ha'
    have d3 := dec_max S j
    obtain rfl : false = B := by rw [← HO.out]; exact (all_not hjl (by rw [← hat]; omega)).symm
    generalize (Utf8.decode S j).1 = r at *
    generalize (Utf8.decode S j).2 = d at *
    obtain ⟨w1, hw1e⟩ : ∃ w1, wr.iterAt w.heap.size S (j + d) = w1 := ⟨_, rfl⟩
    rw [hw1e] at hnx HI1
    have HI2 : Hid (IT w w1 S (j + d)) := HI1
    have HD : Hid (decide (48 ≤ (r : Int) ∧ (r : Int) ≤ 57) = false) := decide_eq_false (by omega)
    have q1 : IntKind.i32.wrap (r : Int) = (r : Int) := w32_in (by omega) (by omega)
    clear hw1e HI1 HI hat HF ha ha' hjl
    go_wp2_with fail
    refine (figI (r : Int) false HD.out _).mono ?_
    rintro e w2 ⟨rfl, hw⟩
    obtain rfl : w1 = w2 := hw.symm
    clear hw hnx
    go_wp2
    go_ret
    exact ⟨rfl, HI2.out.b⟩
  ·
   have hnx : ∀ ty, (Instr.next (.pointer (some ⟨w.heap.size, 0, none⟩)) true ty).run Tryz.prog wr = _ := fun ty => Lib.run_next_end_at wr w.heap.size S j ty HI.out.it hlt
   obtain rfl : true = B := by rw [← HO.out]; exact (List.all_eq_true.2 (figJ_all HF.out (by omega))).symm
   have HB : Hid (Below w.heap.size w wr) := HI.out.b
   clear HF HI
   go_wp2
   go_ret
   exact ⟨rfl, HB.out⟩
theorem numbI (s : List UInt8) (S : ByteArray) (hS : (⟨s.toArray⟩ : ByteArray) = S) (z : Int) (hz : numF s = z) (hf : ∀ x ∈ s, figB x = true) (hl : s.length ≤ 4) (w : World) : Calls Tryz.prog 187 #[.string S] w fun e w' => e = .returned (.int .i64 z) ∧ Below w.heap.size w w' := by
 have hsz := txt_size hS
 have HAT : Hid (∀ k (h : k < S.size) (h2 : k < s.length), (S[k]'h) = s[k]) := by show ∀ k (h : k < S.size) (h2 : k < s.length), (S[k]'h) = s[k]; intro k h h2; subst hS; rfl
 have HF := hq hf
 have HZ := hq hz
 have HI0 : Hid (IT w (w.alloc (.stringIter S 0)) S 0) := it_new w S
 clear hS hf hz
 go_enter Tryz.func187, Tryz.ntmps187
 go_wp2
 go_loopg [3] S.size (fun gk v wr => ∃ (j : Nat) (t : Int), j + gk = S.size ∧ v = .int .i64 t ∧ Hid (t = numJ s j) ∧ Hid (IT w wr S j))
 case atStart => exact ⟨0, 0, by omega, rfl, rfl, HI0⟩
 case round =>
  clear HI0
  obtain ⟨j, t, hj, rfl, HT, HI⟩ := hrel
  by_cases hlt : j < S.size
  ·
   have hjl : j < s.length := by omega
   have hat := HAT.out j hlt hjl
   have hfj : 48 ≤ (s[j].toNat : Int) ∧ (s[j].toNat : Int) ≤ 57 := of_decide_eq_true (HF.out _ (List.getElem_mem hjl))
   have hnx : ∀ ty, (Instr.next (.pointer (some ⟨w.heap.size, 0, none⟩)) true ty).run Tryz.prog wr = _ := fun ty => Lib.run_next_any_at wr w.heap.size S j ty HI.out.it hlt
   have HI1 := HI.out.next (j + (Utf8.decode S j).2)
   have ha : (S[j]'hlt).toNat < 128 := by rw [hat]; omega
   rw [decode_ascii S j hlt ha] at hnx HI1
   dsimp only at hnx HI1
   rw [hat] at hnx
   obtain ⟨x, hx⟩ : ∃ x : Nat, s[j].toNat = x := ⟨_, rfl⟩
   have HJ : Hid (numJ s (j + 1) = 10 * numJ s j + (x : Int) - 48) := by show _ = _; rw [numJ_succ hjl, hx]
   rw [hx] at hnx hfj
   obtain ⟨w1, hw1e⟩ : ∃ w1, wr.iterAt w.heap.size S (j + 1) = w1 := ⟨_, rfl⟩
   rw [hw1e] at hnx HI1
   have HI2 : Hid (IT w w1 S (j + 1)) := HI1
   have ht := numJ_bd HF.out hl j
   rw [← HT.out] at ht
   obtain ⟨u, hu⟩ : ∃ u, t * 10 + ((x : Int) - 48) = u := ⟨_, rfl⟩
   have HU : Hid (u = numJ s (j + 1)) := by show _ = _; rw [HJ.out, ← HT.out]; omega
   have q0 : IntKind.i32.wrap (x : Int) = (x : Int) := w32_in (by omega) (by omega)
   have q1 : IntKind.i32.wrap ((x : Int) - 48) = (x : Int) - 48 := w32_in (by omega) (by omega)
   have q2 : IntKind.i64.wrap (t * 10) = t * 10 := wrap_in (by omega) (by omega)
   have q2' : wrap64 (t * 10) = t * 10 := wrap64_in (by omega) (by omega)
   have q3 : IntKind.i64.wrap ((x : Int) - 48) = (x : Int) - 48 := wrap_in (by omega) (by omega)
   have q4 : IntKind.i64.wrap (t * 10 + ((x : Int) - 48)) = u := by rw [hu]; exact wrap_in (by omega) (by omega)
   have q5 : wrap64 u = u := wrap64_in (by omega) (by omega)
   clear hat hfj ht HT hjl HJ hx HI1 HI hw1e ha
   go_wp2
   go_roundg (gk - 1)
   case measure => omega
   case rel => exact ⟨j + 1, u, by omega, (by first | rfl | rw [q5] | rw [hu]), HU, HI2⟩
  ·
   have hnx : ∀ ty, (Instr.next (.pointer (some ⟨w.heap.size, 0, none⟩)) true ty).run Tryz.prog wr = _ := fun ty => Lib.run_next_end_at wr w.heap.size S j ty HI.out.it hlt
   have HE : Hid (t = z) := by show _ = _; rw [HT.out, ← HZ.out]; unfold numJ; rw [List.take_of_length_le (by omega)]
   have HB : Hid (Below w.heap.size w wr) := HI.out.b
   clear HT HI
   go_wp2
   go_ret
   exact ⟨by rw [HE.out]; rfl, HB.out⟩
theorem box2_cells {w : World} {k : Nat} {t : TypeId} {x0 x1 : Value} (h : w.heap[k]? = some (.cells #[x0, x1] t)) :
  (w.cell? ⟨k, 0, none⟩ = some x0 ∧ w.cell? ⟨k, 1, none⟩ = some x1) ∧ w.frozen? ⟨k, 0, none⟩ = false ∧ w.frozen? ⟨k, 1, none⟩ = false := by
 refine ⟨⟨?_, ?_⟩, ?_, ?_⟩ <;> simp [World.cell?, World.frozen?, h]
theorem okM_hi {m : Mn} (h1 : m.a ≠ 1) (h : ¬ (2 ≤ m.a ∧ m.a ≤ 4)) : okM m = false := okM_at (fun h2 => h ⟨by omega, h2.2⟩)
theorem okM_fs {m : Mn} (h : m.s.all figB = false) : okM m = false := by
 cases e : okM m
 · rfl
 · exact absurd (List.all_eq_true.2 ((okM_iff m).1 e).2.1) (by rw [h]; decide)
theorem okM_top (b : Bool) (n d : Int) (s : List UInt8) : okM ⟨1, b, n, d, s⟩ = (!b && (n == 0) && (d == 0) && decide (s = [])) := by
 by_cases h : s = [] ∧ b = false ∧ n = 0 ∧ d = 0
 ·
  obtain ⟨rfl, rfl, rfl, rfl⟩ := h
  rfl
 ·
  rw [okM_t rfl h]
  cases b
  ·
   by_cases hn : n = 0
   ·
    by_cases hd : d = 0
    ·
     by_cases hs : s = []
     · exact absurd ⟨hs, rfl, hn, hd⟩ h
     · simp [hs]
    · simp [hd]
   · simp [hn]
  · simp
theorem menuokI (m : Mn) (B : Bool) (hB : okM m = B) (w : World) : Calls Tryz.prog 60 #[mnV m] w fun e w' => e = .returned (.bool B) ∧ Below w.heap.size w w' := by
 obtain ⟨a, b, n, d, s⟩ := m
 obtain ⟨S, hS⟩ : ∃ S : ByteArray, (⟨s.toArray⟩ : ByteArray) = S := ⟨_, rfl⟩
 unfold mnV
 dsimp only
 rw [hS]
 have hsz := txt_size hS
 have HO := hq hB
 have HS := hq hS
 have HNIL : Hid ((S.toList = []) ↔ s = []) := txt_nil hS
 have HB0 : Hid (Below w.heap.size w (w.alloc (.cells #[.int .i64 a, .bool b, .int .i64 n, .int .i64 d, .string S] 34))) := alM _ _
 have HP0 : Hid ((w.alloc (.cells #[.int .i64 a, .bool b, .int .i64 n, .int .i64 d, .string S] 34)).heap[w.heap.size]? = some (.cells #[.int .i64 a, .bool b, .int .i64 n, .int .i64 d, .string S] 34)) := heap_new w _
 have p0 := box5_cells HP0.out
 clear hS hB
 go_enter Tryz.func60, Tryz.ntmps60
 by_cases a1 : a = 1
 ·
  subst a1
  go_upto_region 2 with fail
  clear p0
  refine wp_region_held_drew (S := fun w' => w'.cell? ⟨w.heap.size, 0, none⟩ = some (.int .i64 1) ∧ w'.cell? ⟨w.heap.size, 1, none⟩ = some (.bool b) ∧ w'.cell? ⟨w.heap.size, 2, none⟩ = some (.int .i64 n) ∧ w'.cell? ⟨w.heap.size, 3, none⟩ = some (.int .i64 d) ∧ w'.cell? ⟨w.heap.size, 4, none⟩ = some (.string S) ∧ Below w.heap.size w w') (by kernel_rfl) (ky5 (w' := (w.alloc (.cells #[.int .i64 1, .bool b, .int .i64 n, .int .i64 d, .string S] 34)).drew) HP0.out HB0.out.drew) (fun hHeld => ?_)
  refine tkQ 0 ?_ rfl ?_ ?_
  rotate_left
  · intro w_ hSw; (try dsimp only at hSw); go_simp <;> with_reducible rfl
  try simp only [Act.put, sQ]
  refine wpAnyH_ready (rs := [1]) (by kernel_rfl) (by simp) ?_
  refine AllReadyH.cons rfl (fun J hJ => ?_) AllReadyH.nil
  go_simp
  go_at_call 45
  refine (menunewI _).mono ?_
  rintro e w6 ⟨rfl, hbc⟩
  have HB6 : Hid (Below w.heap.size w w6) := bel_on (Nat.le_refl _) HB0.out.drew hbc
  have HP6 : Hid (w6.heap[w.heap.size]? = some (.cells #[.int .i64 1, .bool b, .int .i64 n, .int .i64 d, .string S] 34)) := row_on (w := (w.alloc (.cells #[.int .i64 1, .bool b, .int .i64 n, .int .i64 d, .string S] 34)).drew) HP0.out hbc
  unfold mnV newM
  dsimp only
  clear hbc HB0 HP0
  go_wp2_with fail
  refine hJ.out _ _ (ky5 HP6.out HB6.out) (fun hHeld1 => ?_)
  clear hJ J hHeld
  try simp only [Act.put, sQ]
  refine tkQ 2 (.bool B) rfl ?_ ?_
  ·
   intro w_ hSw
   (try dsimp only at hSw)
   go_simp
   have e := HO.out
   rw [okM_top] at e
   have hnil := HNIL.out
   clear hSw HO HNIL
   subst e
   cases b
   ·
    by_cases hn : n = 0
    ·
     by_cases hd : d = 0
     ·
      by_cases hs : S.toList = []
      · simp [hn, hd, hs, hnil.1 hs]
      ·
       have h2 : ¬ s = [] := fun h => hs (hnil.2 h)
       simp [hn, hd, hs, h2]
     · simp [hn, hd]
    · simp [hn]
   · simp
  try simp only [Act.put, sQ]
  refine tkQ 3 ?_ rfl ?_ ?_
  rotate_left
  · intro w_ hSw; (try dsimp only at hSw); go_simp <;> with_reducible rfl
  try simp only [Act.put, sQ]
  refine wpAnyH_done (by kernel_rfl) ?_ _
  clear hHeld1
  go_wp2
  go_ret
  exact ⟨rfl, HB6.out⟩
 have q1 : (a == 1) = false := by simpa using a1
 have hb : Below w.heap.size w ((w.alloc (.cells #[.int .i64 a, .bool b, .int .i64 n, .int .i64 d, .string S] 34)).alloc (.cells #[.int .i64 0, .int .i64 9999] 151)) := bel_on (Nat.le_refl _) HB0.out (alM _ _)
 have hp : ((w.alloc (.cells #[.int .i64 a, .bool b, .int .i64 n, .int .i64 d, .string S] 34)).alloc (.cells #[.int .i64 0, .int .i64 9999] 151)).heap[w.heap.size]? = some (.cells #[.int .i64 a, .bool b, .int .i64 n, .int .i64 d, .string S] 34) := row_on HP0.out (alM _ _)
 have hy := heap_new (w.alloc (.cells #[.int .i64 a, .bool b, .int .i64 n, .int .i64 d, .string S] 34)) (.cells #[.int .i64 0, .int .i64 9999] 151)
 rw [show (w.alloc (.cells #[.int .i64 a, .bool b, .int .i64 n, .int .i64 d, .string S] 34)).heap.size = w.heap.size + 1 by simp] at hy
 have HB1 := hq hb
 have HP1 := hq hp
 have HY1 := hq hy
 have p1 := box5_cells HP1.out
 have y1 := box2_cells HY1.out
 clear hb hp hy HB0 HP0
 by_cases h2 : 2 ≤ a ∧ a ≤ 4
 case neg =>
  obtain rfl : false = B := by rw [← HO.out]; exact (okM_hi a1 h2).symm
  go_wp2_with fail
  refine (holdsI 2 4 a false (decide_eq_false h2) _).mono ?_
  rintro e w2 ⟨rfl, hb1⟩
  have HB2 := bq HB1 hb1
  have HP2 := rq HP1 hb1
  have HY2 := rq HY1 hb1
  have p2 := box5_cells HP2.out
  have y2 := box2_cells HY2.out
  clear hb1 HB1 HP1 HY1 p1 y1
  go_wp2
  go_ret
  exact ⟨rfl, HB2.out⟩
 go_wp2_with fail
 refine (holdsI 2 4 a true (decide_eq_true h2) _).mono ?_
 rintro e w2 ⟨rfl, hb1⟩
 have HB2 := bq HB1 hb1
 have HP2 := rq HP1 hb1
 have HY2 := rq HY1 hb1
 have p2 := box5_cells HP2.out
 have y2 := box2_cells HY2.out
 clear hb1 HB1 HP1 HY1 p1 y1
 by_cases h3 : 0 ≤ n ∧ n ≤ 9999
 case neg =>
  obtain rfl : false = B := by rw [← HO.out]; exact (okM_n h3).symm
  go_wp2_with fail
  refine (holdsI 0 9999 n false (decide_eq_false h3) _).mono ?_
  rintro e w3 ⟨rfl, hb1⟩
  have HB3 := bq HB2 hb1
  have HP3 := rq HP2 hb1
  have HY3 := rq HY2 hb1
  have p3 := box5_cells HP3.out
  have y3 := box2_cells HY3.out
  clear hb1 HB2 HP2 HY2 p2 y2
  go_wp2
  go_ret
  exact ⟨rfl, HB3.out⟩
 go_wp2_with fail
 refine (holdsI 0 9999 n true (decide_eq_true h3) _).mono ?_
 rintro e w3 ⟨rfl, hb1⟩
 have HB3 := bq HB2 hb1
 have HP3 := rq HP2 hb1
 have HY3 := rq HY2 hb1
 have p3 := box5_cells HP3.out
 have y3 := box2_cells HY3.out
 clear hb1 HB2 HP2 HY2 p2 y2
 by_cases h4 : 0 ≤ d ∧ d ≤ 9999
 case neg =>
  obtain rfl : false = B := by rw [← HO.out]; exact (okM_d h4).symm
  go_wp2_with fail
  refine (holdsI 0 9999 d false (decide_eq_false h4) _).mono ?_
  rintro e w4 ⟨rfl, hb1⟩
  have HB4 := bq HB3 hb1
  have HP4 := rq HP3 hb1
  have HY4 := rq HY3 hb1
  have p4 := box5_cells HP4.out
  have y4 := box2_cells HY4.out
  clear hb1 HB3 HP3 HY3 p3 y3
  go_wp2
  go_ret
  exact ⟨rfl, HB4.out⟩
 go_wp2_with fail
 refine (holdsI 0 9999 d true (decide_eq_true h4) _).mono ?_
 rintro e w4 ⟨rfl, hb1⟩
 have HB4 := bq HB3 hb1
 have HP4 := rq HP3 hb1
 have HY4 := rq HY3 hb1
 have p4 := box5_cells HP4.out
 have y4 := box2_cells HY4.out
 clear hb1 HB3 HP3 HY3 p3 y3
 by_cases h5 : S.size ≤ 4
 case neg =>
  obtain rfl : false = B := by rw [← HO.out]; exact (okM_l (m := ⟨a, b, n, d, s⟩) (by show ¬ s.length ≤ 4; omega)).symm
  have h5' : ¬ (S.size : Int) ≤ 4 := by omega
  go_wp2
  go_ret
  exact ⟨rfl, HB4.out⟩
 have h5' : (S.size : Int) ≤ 4 := by omega
 obtain ⟨B2, hB2⟩ : ∃ B2, s.all figB = B2 := ⟨_, rfl⟩
 have HA := hq hB2
 clear hB2
 have HB2 : Hid (B2 = B) := by
  show _ = _
  rw [← HO.out]
  cases B2
  · exact (okM_fs (m := ⟨a, b, n, d, s⟩) HA.out).symm
  · exact ((okM_iff _).2 ⟨⟨⟨by show 1 ≤ a; omega, h2.2⟩, h3, h4, by show s.length ≤ 4; omega⟩, List.all_eq_true.1 HA.out, fun e => absurd e a1⟩).symm
 go_wp2_with fail
 refine (areI s S HS.out B2 HA.out _).mono ?_
 rintro e w5 ⟨rfl, hb1⟩
 have HB5 := bq HB4 hb1
 have HP5 := rq HP4 hb1
 have HY5 := rq HY4 hb1
 have p5 := box5_cells HP5.out
 have y5 := box2_cells HY5.out
 clear hb1 HB4 HP4 HY4 p4 y4
 cases B2
 all_goals (go_wp2; go_ret; exact ⟨by rw [← HB2.out]; rfl, HB5.out⟩)
theorem storeB_run {w : World} {g i : Nat} {z : Bool} {cs : Array Value} {T : TypeId} (hg : w.heap[g]? = some (.cells cs T)) (hi : i < cs.size) : (Instr.storeAt 4 (.pointer (some ⟨g, i, none⟩)) (.bool z)).run Tryz.prog w = .ok () (w.setCell ⟨g, i, none⟩ (.bool z)) := by
 have k1 : w.cell? ⟨g, i, none⟩ = some cs[i] := by simp [World.cell?, hg, hi]
 have k2 : w.frozen? ⟨g, i, none⟩ = false := by simp [World.frozen?, hg]
 simp [go_sem, Instr.storeAt, k1, k2]
theorem listStoreB {ops : Array Oper} {rest : List Oper} {o : Oper} {a : Act} {Q : Exit → Act → World → Prop} {w : World} (hgd : o.guard = none) (hd : o.dst = none) (x y : Operand) (ty : TypeId) (ho : o.op = .store ty x y) (hty : ty = 4)
  (g i : Nat) (z : Bool) (hx : a.eval x = .pointer (some ⟨g, i, none⟩)) (hy : a.eval y = .bool z)
  {cs : Array Value} {T : TypeId} (hg : w.heap[g]? = some (.cells cs T)) (hi : i < cs.size)
  (h : ∀ w' : World, PutM w w' g (.cells (cs.setIfInBounds i (.bool z)) T) → wpList Tryz.prog ops Q rest a w') : wpList Tryz.prog ops Q (o :: rest) a w := by
 subst hty
 refine wpList_plain hgd fun _ hK => ?_
 unfold Oper.wp
 simp only [execOp, ho, hx, hy, Sem.run_bind, storeB_run hg hi, Result.andThen, Sem.run_pure]
 exact hK _ _ (by rw [hd]; exact h _ (putM_set hg))
theorem chosenI (key : Int) (r : Pr) (hr : topM newM key = r) (w : World) : Calls Tryz.prog 179 #[mnV newM, .int .i32 key] w fun e w' => e = .returned (.tuple #[mnV r.m, ordV r.k r.n r.d r.v, .bool r.t]) ∧ Below w.heap.size w w' := by
 obtain ⟨h1, h2, h3, h4, h5⟩ := box3m w (.cells #[.int .i64 1, .bool false, .int .i64 0, .int .i64 0, .string ⟨#[]⟩] 34) (.cells #[.int .i64 0, .bool false, .int .i64 0, .int .i64 0, .string ⟨#[]⟩] 34) (oB 0 0 0 0)
 have HP0 := hq h1
 have HZ0 := hq h2
 have HO0 := hq h3
 have HB0 := hq h4
 have p0 := box5_cells h1
 clear h1 h2 h3 h4 h5
 unfold mnV ordV newM
 dsimp only
 have HR := hq hr
 clear hr
 go_enter Tryz.func179, Tryz.ntmps179
 by_cases k98 : key = 98
 ·
  obtain rfl : noP ⟨2, false, 0, 0, []⟩ = r := by rw [← HR.out]; unfold topM; simp [k98]
  clear HR
  subst k98
  (try dsimp only [noP, newM])
  go_upto_region 4 with fail
  go_wp2_with (refine listStoreI rfl rfl _ _ _ rfl rfl w.heap.size 0 2 rfl rfl HP0.out (by simp) ?_)
  intro w1 hput
  have HB1 := hq (hput.2.2.2 _ _ (Nat.le_refl _) HB0.out)
  have HP1 := hq hput.1
  have HZ1 := hq (hput.far HZ0.out (by omega))
  have HO1 := hq (hput.far HO0.out (by omega))
  have p1 := box5_cells HP1.out
  clear hput HB0 HP0 HZ0 HO0 p0
  go_upto_region 15 with fail
  go_wp2_with (refine listStoreM rfl rfl _ _ _ rfl rfl (w.heap.size + 1) (2) (false) (0) (0) (⟨#[]⟩) rfl rfl HZ1.out ?_)
  intro w8 hput
  have HB8 := hq (hput.2.2.2 _ _ (Nat.le_succ _) HB1.out)
  have HO8 := hq (hput.far HO1.out (by omega))
  have HZ8 := hq hput.1
  clear hput
  go_wp2_with (refine listStoreO rfl rfl _ _ _ rfl rfl (w.heap.size + 2) (0) (0) (0) (0) rfl rfl HO8.out ?_)
  intro w9 hput
  have HB9 := hq (hput.2.2.2 _ _ (by omega) HB8.out)
  have zz := box5_cells (hput.far HZ8.out (by omega))
  have yy := box4_cells hput.1
  clear hput HB8 HO8 HZ8
  go_wp2
  refine bodyPost_ret (v := .tuple #[.agg #[.int .i64 2, .bool false, .int .i64 0, .int .i64 0, .string ⟨#[]⟩], .agg #[.int .i64 0, .int .i64 0, .int .i64 0, .int .i64 0], .bool false]) (by simp only [results, Tryz.results179]; simp [go_sem, zz, yy]) rfl ⟨rfl, HB9.out⟩
 have q98 : (key == 98) = false := by simpa using k98
 by_cases k111 : key = 111
 ·
  obtain rfl : noP ⟨4, true, 0, 0, []⟩ = r := by rw [← HR.out]; unfold topM; simp [k111]
  clear HR
  subst k111
  (try dsimp only [noP, newM])
  go_upto_region 6 with fail
  go_wp2_with (refine listStoreI rfl rfl _ _ _ rfl rfl w.heap.size 0 4 rfl rfl HP0.out (by simp) ?_)
  intro w1 hput
  have HB1 := hq (hput.2.2.2 _ _ (Nat.le_refl _) HB0.out)
  have HP1 := hq hput.1
  have HZ1 := hq (hput.far HZ0.out (by omega))
  have HO1 := hq (hput.far HO0.out (by omega))
  have p1 := box5_cells HP1.out
  clear hput HB0 HP0 HZ0 HO0 p0
  go_wp2_with (refine listStoreB rfl rfl _ _ _ rfl rfl w.heap.size 1 true rfl rfl HP1.out (by simp) ?_)
  intro w2 hput
  have HB2 := hq (hput.2.2.2 _ _ (Nat.le_refl _) HB1.out)
  have HP2 := hq hput.1
  have HZ2 := hq (hput.far HZ1.out (by omega))
  have HO2 := hq (hput.far HO1.out (by omega))
  have p2 := box5_cells HP2.out
  clear hput HB1 HP1 HZ1 HO1 p1
  go_upto_region 15 with fail
  go_wp2_with (refine listStoreM rfl rfl _ _ _ rfl rfl (w.heap.size + 1) (4) (true) (0) (0) (⟨#[]⟩) rfl rfl HZ2.out ?_)
  intro w8 hput
  have HB8 := hq (hput.2.2.2 _ _ (Nat.le_succ _) HB2.out)
  have HO8 := hq (hput.far HO2.out (by omega))
  have HZ8 := hq hput.1
  clear hput
  go_wp2_with (refine listStoreO rfl rfl _ _ _ rfl rfl (w.heap.size + 2) (0) (0) (0) (0) rfl rfl HO8.out ?_)
  intro w9 hput
  have HB9 := hq (hput.2.2.2 _ _ (by omega) HB8.out)
  have zz := box5_cells (hput.far HZ8.out (by omega))
  have yy := box4_cells hput.1
  clear hput HB8 HO8 HZ8
  go_wp2
  refine bodyPost_ret (v := .tuple #[.agg #[.int .i64 4, .bool true, .int .i64 0, .int .i64 0, .string ⟨#[]⟩], .agg #[.int .i64 0, .int .i64 0, .int .i64 0, .int .i64 0], .bool false]) (by simp only [results, Tryz.results179]; simp [go_sem, zz, yy]) rfl ⟨rfl, HB9.out⟩
 have q111 : (key == 111) = false := by simpa using k111
 by_cases k112 : key = 112
 ·
  obtain rfl : ⟨newM, 3, 0, 0, 0, true⟩ = r := by rw [← HR.out]; unfold topM; simp [k112]
  clear HR
  subst k112
  (try dsimp only [noP, newM])
  go_upto_region 15 with fail
  go_wp2_with (refine listStoreM rfl rfl _ _ _ rfl rfl (w.heap.size + 1) (1) (false) (0) (0) (⟨#[]⟩) rfl rfl HZ0.out ?_)
  intro w8 hput
  have HB8 := hq (hput.2.2.2 _ _ (Nat.le_succ _) HB0.out)
  have HO8 := hq (hput.far HO0.out (by omega))
  have HZ8 := hq hput.1
  clear hput
  go_wp2_with (refine listStoreO rfl rfl _ _ _ rfl rfl (w.heap.size + 2) (3) (0) (0) (0) rfl rfl HO8.out ?_)
  intro w9 hput
  have HB9 := hq (hput.2.2.2 _ _ (by omega) HB8.out)
  have zz := box5_cells (hput.far HZ8.out (by omega))
  have yy := box4_cells hput.1
  clear hput HB8 HO8 HZ8
  go_wp2
  refine bodyPost_ret (v := .tuple #[.agg #[.int .i64 1, .bool false, .int .i64 0, .int .i64 0, .string ⟨#[]⟩], .agg #[.int .i64 3, .int .i64 0, .int .i64 0, .int .i64 0], .bool true]) (by simp only [results, Tryz.results179]; simp [go_sem, zz, yy]) rfl ⟨rfl, HB9.out⟩
 have q112 : (key == 112) = false := by simpa using k112
 by_cases k103 : key = 103
 ·
  obtain rfl : ⟨newM, 4, 0, 0, 0, true⟩ = r := by rw [← HR.out]; unfold topM; simp [k103]
  clear HR
  subst k103
  (try dsimp only [noP, newM])
  go_upto_region 15 with fail
  go_wp2_with (refine listStoreM rfl rfl _ _ _ rfl rfl (w.heap.size + 1) (1) (false) (0) (0) (⟨#[]⟩) rfl rfl HZ0.out ?_)
  intro w8 hput
  have HB8 := hq (hput.2.2.2 _ _ (Nat.le_succ _) HB0.out)
  have HO8 := hq (hput.far HO0.out (by omega))
  have HZ8 := hq hput.1
  clear hput
  go_wp2_with (refine listStoreO rfl rfl _ _ _ rfl rfl (w.heap.size + 2) (4) (0) (0) (0) rfl rfl HO8.out ?_)
  intro w9 hput
  have HB9 := hq (hput.2.2.2 _ _ (by omega) HB8.out)
  have zz := box5_cells (hput.far HZ8.out (by omega))
  have yy := box4_cells hput.1
  clear hput HB8 HO8 HZ8
  go_wp2
  refine bodyPost_ret (v := .tuple #[.agg #[.int .i64 1, .bool false, .int .i64 0, .int .i64 0, .string ⟨#[]⟩], .agg #[.int .i64 4, .int .i64 0, .int .i64 0, .int .i64 0], .bool true]) (by simp only [results, Tryz.results179]; simp [go_sem, zz, yy]) rfl ⟨rfl, HB9.out⟩
 have q103 : (key == 103) = false := by simpa using k103
 by_cases k115 : key = 115
 ·
  obtain rfl : ⟨newM, 5, 0, 0, 0, true⟩ = r := by rw [← HR.out]; unfold topM; simp [k115]
  clear HR
  subst k115
  (try dsimp only [noP, newM])
  go_upto_region 15 with fail
  go_wp2_with (refine listStoreM rfl rfl _ _ _ rfl rfl (w.heap.size + 1) (1) (false) (0) (0) (⟨#[]⟩) rfl rfl HZ0.out ?_)
  intro w8 hput
  have HB8 := hq (hput.2.2.2 _ _ (Nat.le_succ _) HB0.out)
  have HO8 := hq (hput.far HO0.out (by omega))
  have HZ8 := hq hput.1
  clear hput
  go_wp2_with (refine listStoreO rfl rfl _ _ _ rfl rfl (w.heap.size + 2) (5) (0) (0) (0) rfl rfl HO8.out ?_)
  intro w9 hput
  have HB9 := hq (hput.2.2.2 _ _ (by omega) HB8.out)
  have zz := box5_cells (hput.far HZ8.out (by omega))
  have yy := box4_cells hput.1
  clear hput HB8 HO8 HZ8
  go_wp2
  refine bodyPost_ret (v := .tuple #[.agg #[.int .i64 1, .bool false, .int .i64 0, .int .i64 0, .string ⟨#[]⟩], .agg #[.int .i64 5, .int .i64 0, .int .i64 0, .int .i64 0], .bool true]) (by simp only [results, Tryz.results179]; simp [go_sem, zz, yy]) rfl ⟨rfl, HB9.out⟩
 have q115 : (key == 115) = false := by simpa using k115
 by_cases k120 : key = 120
 ·
  obtain rfl : ⟨newM, 6, 0, 0, 0, true⟩ = r := by rw [← HR.out]; unfold topM; simp [k120]
  clear HR
  subst k120
  (try dsimp only [noP, newM])
  go_upto_region 15 with fail
  go_wp2_with (refine listStoreM rfl rfl _ _ _ rfl rfl (w.heap.size + 1) (1) (false) (0) (0) (⟨#[]⟩) rfl rfl HZ0.out ?_)
  intro w8 hput
  have HB8 := hq (hput.2.2.2 _ _ (Nat.le_succ _) HB0.out)
  have HO8 := hq (hput.far HO0.out (by omega))
  have HZ8 := hq hput.1
  clear hput
  go_wp2_with (refine listStoreO rfl rfl _ _ _ rfl rfl (w.heap.size + 2) (6) (0) (0) (0) rfl rfl HO8.out ?_)
  intro w9 hput
  have HB9 := hq (hput.2.2.2 _ _ (by omega) HB8.out)
  have zz := box5_cells (hput.far HZ8.out (by omega))
  have yy := box4_cells hput.1
  clear hput HB8 HO8 HZ8
  go_wp2
  refine bodyPost_ret (v := .tuple #[.agg #[.int .i64 1, .bool false, .int .i64 0, .int .i64 0, .string ⟨#[]⟩], .agg #[.int .i64 6, .int .i64 0, .int .i64 0, .int .i64 0], .bool true]) (by simp only [results, Tryz.results179]; simp [go_sem, zz, yy]) rfl ⟨rfl, HB9.out⟩
 have q120 : (key == 120) = false := by simpa using k120
 obtain rfl : noP newM = r := by rw [← HR.out]; unfold topM; simp [k98, k111, k112, k103, k115, k120]
 clear HR k98 k111 k112 k103 k115 k120
 (try dsimp only [noP, newM])
 go_upto_region 15 with fail
 go_wp2_with (refine listStoreM rfl rfl _ _ _ rfl rfl (w.heap.size + 1) (1) (false) (0) (0) (⟨#[]⟩) rfl rfl HZ0.out ?_)
 intro w8 hput
 have HB8 := hq (hput.2.2.2 _ _ (Nat.le_succ _) HB0.out)
 have HO8 := hq (hput.far HO0.out (by omega))
 have HZ8 := hq hput.1
 clear hput
 go_wp2_with (refine listStoreO rfl rfl _ _ _ rfl rfl (w.heap.size + 2) (0) (0) (0) (0) rfl rfl HO8.out ?_)
 intro w9 hput
 have HB9 := hq (hput.2.2.2 _ _ (by omega) HB8.out)
 have zz := box5_cells (hput.far HZ8.out (by omega))
 have yy := box4_cells hput.1
 clear hput HB8 HO8 HZ8
 go_wp2
 refine bodyPost_ret (v := .tuple #[.agg #[.int .i64 1, .bool false, .int .i64 0, .int .i64 0, .string ⟨#[]⟩], .agg #[.int .i64 0, .int .i64 0, .int .i64 0, .int .i64 0], .bool false]) (by simp only [results, Tryz.results179]; simp [go_sem, zz, yy]) rfl ⟨rfl, HB9.out⟩
theorem orderI (a : Int) (b : Bool) (n d : Int) (S : ByteArray) (z k : Int) (hk : (b = false ∧ k = 1) ∨ (b = true ∧ k = 2)) (B : Bool) (hB : B = true ↔ OrdR k n d z) (o1 o2 o3 o4 : Int) (ho : (B = true ∧ o1 = k ∧ o2 = n ∧ o3 = d ∧ o4 = z) ∨ (B = false ∧ o1 = 0 ∧ o2 = 0 ∧ o3 = 0 ∧ o4 = 0)) (w : World) : Calls Tryz.prog 188 #[.agg #[.int .i64 a, .bool b, .int .i64 n, .int .i64 d, .string S], .int .i64 z] w fun e w' => e = .returned (.tuple #[.agg #[.int .i64 o1, .int .i64 o2, .int .i64 o3, .int .i64 o4], .bool B]) ∧ Below w.heap.size w w' := by
 obtain ⟨h1, h2, h3, h4, h5⟩ := box3m w (.cells #[.int .i64 a, .bool b, .int .i64 n, .int .i64 d, .string S] 34) (oB 0 0 0 0) (oB 1 n d z)
 have HP0 := hq h1
 have HO0 := hq h2
 have HY0 := hq h3
 have HB0 := hq h4
 have p0 := box5_cells h1
 have HB := hq hB
 have HO4 : Hid _ := ho
 clear h1 h2 h3 h4 h5 hB ho
 go_enter Tryz.func188, Tryz.ntmps188
 rcases hk with ⟨rfl, rfl⟩ | ⟨rfl, rfl⟩
 ·
  have y0 := box4_cells HY0.out
  have HBO := hq HB.out
  go_wp2_with fail
  refine (ordokI (1) (n) (d) (z) B HBO.out _).mono ?_
  rintro e w5 ⟨rfl, hb1⟩
  have HY5 := rq HY0 hb1
  have HO5 := rq HO0 hb1
  have HB5 := bq HB0 hb1
  have y5 := box4_cells HY5.out
  clear hb1 y0 HY0 HO0 HB0 HBO HB
  cases B
  ·
   obtain ⟨rfl, rfl, rfl, rfl⟩ : o1 = 0 ∧ o2 = 0 ∧ o3 = 0 ∧ o4 = 0 := by rcases HO4.out with h | h; cases h.1; exact h.2
   clear HO4
   go_upto_region 5 with fail
   go_wp2_with (refine listStoreO rfl rfl _ _ _ rfl rfl (w.heap.size + 1) (0) (0) (0) (0) rfl rfl HO5.out ?_)
   intro w9 hput
   have HB9 := hq (hput.2.2.2 _ _ (by omega) HB5.out)
   have yy := box4_cells hput.1
   clear hput
   go_wp2
   refine bodyPost_ret (v := .tuple #[.agg #[.int .i64 0, .int .i64 0, .int .i64 0, .int .i64 0], .bool false]) (by simp only [results, Tryz.results188]; simp [go_sem, yy]) rfl ⟨rfl, HB9.out⟩
  ·
   obtain ⟨rfl, rfl, rfl, rfl⟩ : 1 = o1 ∧ n = o2 ∧ d = o3 ∧ z = o4 := by rcases HO4.out with h | h; exact ⟨h.2.1.symm, h.2.2.1.symm, h.2.2.2.1.symm, h.2.2.2.2.symm⟩; cases h.1
   clear HO4
   go_upto_region 6 with fail
   go_wp2_with (refine listStoreO rfl rfl _ _ _ rfl rfl (w.heap.size + 1) (1) (n) (d) (z) rfl rfl HO5.out ?_)
   intro w9 hput
   have HB9 := hq (hput.2.2.2 _ _ (by omega) HB5.out)
   have yy := box4_cells hput.1
   clear hput
   go_wp2
   refine bodyPost_ret (v := .tuple #[.agg #[.int .i64 1, .int .i64 n, .int .i64 d, .int .i64 z], .bool true]) (by simp only [results, Tryz.results188]; simp [go_sem, yy]) rfl ⟨rfl, HB9.out⟩
 ·
  go_upto_region 3 with fail
  go_wp2_with (refine listStoreI rfl rfl _ _ _ rfl rfl (w.heap.size + 2) 0 2 rfl rfl HY0.out (by simp) ?_)
  intro w3 hput
  have HB3 := hq (hput.2.2.2 _ _ (by omega) HB0.out)
  have HO3 := hq (hput.far HO0.out (by omega))
  have HY3 := hq hput.1
  clear hput HB0 HO0 HY0 HP0 p0
  have HBO := hq HB.out
  have y3 := box4_cells HY3.out
  go_wp2_with fail
  refine (ordokI (2) (n) (d) (z) B HBO.out _).mono ?_
  rintro e w5 ⟨rfl, hb1⟩
  have HY5 := rq HY3 hb1
  have HO5 := rq HO3 hb1
  have HB5 := bq HB3 hb1
  have y5 := box4_cells HY5.out
  clear hb1 y3 HY3 HO3 HB3 HBO HB
  cases B
  ·
   obtain ⟨rfl, rfl, rfl, rfl⟩ : o1 = 0 ∧ o2 = 0 ∧ o3 = 0 ∧ o4 = 0 := by rcases HO4.out with h | h; cases h.1; exact h.2
   clear HO4
   go_upto_region 5 with fail
   go_wp2_with (refine listStoreO rfl rfl _ _ _ rfl rfl (w.heap.size + 1) (0) (0) (0) (0) rfl rfl HO5.out ?_)
   intro w9 hput
   have HB9 := hq (hput.2.2.2 _ _ (by omega) HB5.out)
   have yy := box4_cells hput.1
   clear hput
   go_wp2
   refine bodyPost_ret (v := .tuple #[.agg #[.int .i64 0, .int .i64 0, .int .i64 0, .int .i64 0], .bool false]) (by simp only [results, Tryz.results188]; simp [go_sem, yy]) rfl ⟨rfl, HB9.out⟩
  ·
   obtain ⟨rfl, rfl, rfl, rfl⟩ : 2 = o1 ∧ n = o2 ∧ d = o3 ∧ z = o4 := by rcases HO4.out with h | h; exact ⟨h.2.1.symm, h.2.2.1.symm, h.2.2.2.1.symm, h.2.2.2.2.symm⟩; cases h.1
   clear HO4
   go_upto_region 6 with fail
   go_wp2_with (refine listStoreO rfl rfl _ _ _ rfl rfl (w.heap.size + 1) (2) (n) (d) (z) rfl rfl HO5.out ?_)
   intro w9 hput
   have HB9 := hq (hput.2.2.2 _ _ (by omega) HB5.out)
   have yy := box4_cells hput.1
   clear hput
   go_wp2
   refine bodyPost_ret (v := .tuple #[.agg #[.int .i64 2, .int .i64 n, .int .i64 d, .int .i64 z], .bool true]) (by simp only [results, Tryz.results188]; simp [go_sem, yy]) rfl ⟨rfl, HB9.out⟩
end Go.Proofs.YtfhhnelffldggaaGreatDoor
