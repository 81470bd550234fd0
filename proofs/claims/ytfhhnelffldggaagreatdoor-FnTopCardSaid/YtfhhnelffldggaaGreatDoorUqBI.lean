/-
  orderIn of the program.
-/
import Derived.Test.YtfhhnelffldggaaGreatDoorUqAB
import Derived.Test.YtfhhnelffldggaaGreatDoorUqAQ
import Derived.Lib.AppendStr
set_option maxRecDepth 100000
set_option maxHeartbeats 16000000
namespace Go.Proofs.YtfhhnelffldggaaGreatDoor
open Go.RowKit Go.PlainAid Plain
set_option linter.unusedVariables false
set_option linter.unusedSimpArgs false
theorem rvF_ext {s : ByteArray} {a : Nat} : ∀ (f k : Nat) (N S : Int) {M : Int} {c : Nat}, V.rvF s a f k N S = some (M, c) → Plain.vt M.toNat = (s.extract a c).toList
 | 0, k, N, S, M, c, h => by simp [V.rvF] at h
 | f + 1, k, N, S, M, c, h => by
  unfold V.rvF at h
  split at h
  ·
   split at h
   ·
    unfold V.fin at h
    split at h
    ·
     rename_i hh
     simp at h
     obtain ⟨rfl, rfl⟩ := h
     exact hh.2
    · simp at h
   · exact rvF_ext f (k + 1) _ _ h
  · simp at h
theorem rv_ext {s : ByteArray} {a : Nat} {M : Int} {c : Nat} (h : V.rv s (a : Int) = some (M, c)) : Plain.vt M.toNat = (s.data.toList.drop a).take (c - a) ∧ a ≤ s.size ∧ c ≤ s.size ∧ 0 ≤ M ∧ M ≤ 1000000000 := by
 have h2 := V.rv_some h
 unfold V.rv at h
 split at h
 ·
  rename_i hh
  have := rvF_ext 5 _ 0 1 h
  rw [ByteArray.toList_eq, V.ext_list] at this
  exact ⟨by simpa using this, by omega, h2.2.2, h2.1, h2.2.1⟩
 · simp at h
theorem rv_cut {s : ByteArray} {a : Nat} {M : Int} {c : Nat} (h : V.rv s (a : Int) = some (M, c)) : ∃ r, s.data.toList.drop a = Plain.vt M.toNat ++ r ∧ r = s.data.toList.drop c ∧ a < c := by
 obtain ⟨h1, h2, h3, h4, h5⟩ := rv_ext h
 have hp := Plain.vt_pos M.toNat
 rw [h1] at hp
 have hac : a < c := by
  rcases Nat.lt_or_ge a c with h | h
  · exact h
  · rw [show c - a = 0 by omega] at hp; simp at hp
 refine ⟨s.data.toList.drop c, ?_, rfl, hac⟩
 rw [h1]
 have := (List.take_append_drop (c - a) (s.data.toList.drop a)).symm
 rw [List.drop_drop, show a + (c - a) = c by omega] at this
 exact this
def OI (s : ByteArray) (k n d v : Int) : Prop := (∀ k' n' d' v', OrdR k' n' d' v' → ordB k' n' d' v' = s → k = k' ∧ n = n' ∧ d = d' ∧ v = v') ∧ (OrdR k n d v → ordB k n d v = s)
theorem not_zero : ¬ OrdR 0 0 0 0 := by unfold OrdR; omega
theorem oi_none {s : ByteArray} (h : ∀ k n d v, OrdR k n d v → ordB k n d v ≠ s) : OI s 0 0 0 0 := ⟨fun k n d v hR e => absurd e (h k n d v hR), fun h => absurd h not_zero⟩
theorem oi_empty {s : ByteArray} (h : s.size = 0) : OI s 0 0 0 0 := oi_none fun k n d v hR e => by rw [← e, ordB_size] at h; omega
theorem oi_1 {s : ByteArray} (h : V.rv s ((1 : Nat) : Int) = none) : OI s 0 0 0 0 := oi_none fun k n d v hR e => by
 have g := rd_num hR
 rw [e, h] at g; cases g
theorem oi_2 {s : ByteArray} {x : Int} {a : Nat} (h1 : V.rv s ((1 : Nat) : Int) = some (x, a)) (h : V.rv s (a : Int) = none) : OI s 0 0 0 0 := oi_none fun k n d v hR e => by
 have g := rd_num hR
 rw [e, h1] at g
 obtain ⟨rfl, rfl⟩ := Prod.mk.inj (Option.some.inj g)
 have g := rd_den hR
 rw [e, h] at g; cases g
theorem oi_3 {s : ByteArray} {x y : Int} {a b : Nat} (h1 : V.rv s ((1 : Nat) : Int) = some (x, a)) (h2 : V.rv s (a : Int) = some (y, b)) (h : V.rv s (b : Int) = none) : OI s 0 0 0 0 := oi_none fun k n d v hR e => by
 have g := rd_num hR
 rw [e, h1] at g
 obtain ⟨rfl, rfl⟩ := Prod.mk.inj (Option.some.inj g)
 have g := rd_den hR
 rw [e, h2] at g
 obtain ⟨rfl, rfl⟩ := Prod.mk.inj (Option.some.inj g)
 have g := rd_vol hR
 rw [e, h] at g; cases g
theorem oi_all {s : ByteArray} {x y z : Int} {a b c : Nat} (h1 : V.rv s ((1 : Nat) : Int) = some (x, a)) (h2 : V.rv s (a : Int) = some (y, b)) (h3 : V.rv s (b : Int) = some (z, c)) {k n d v : Int} (hR : OrdR k n d v) (e : ordB k n d v = s) :
  bt s 0 = k ∧ x = n ∧ y = d ∧ z = v ∧ c = s.size := by
 have hk : bt (ordB k n d v) 0 = k := by
  have h := (V.bt_drop (s := ordB k n d v) (k := 0) (by rw [List.drop_zero, ordB_list])).2.1
  rw [h, UInt8.toNat_ofNat']
  have := hR.bd
  omega
 have g := rd_num hR
 rw [e, h1] at g
 obtain ⟨rfl, rfl⟩ := Prod.mk.inj (Option.some.inj g)
 have g := rd_den hR
 rw [e, h2] at g
 obtain ⟨rfl, rfl⟩ := Prod.mk.inj (Option.some.inj g)
 have g := rd_vol hR
 rw [e, h3] at g
 obtain ⟨rfl, rfl⟩ := Prod.mk.inj (Option.some.inj g)
 exact ⟨by rw [← e]; exact hk, rfl, rfl, rfl, by rw [← e, ordB_size]⟩
theorem oi_far {s : ByteArray} {x y z : Int} {a b c : Nat} (h1 : V.rv s ((1 : Nat) : Int) = some (x, a)) (h2 : V.rv s (a : Int) = some (y, b)) (h3 : V.rv s (b : Int) = some (z, c)) (hc : c ≠ s.size) : OI s 0 0 0 0 := oi_none fun k n d v hR e => hc (oi_all h1 h2 h3 hR e).2.2.2.2
theorem oi_yes {s : ByteArray} {x y z : Int} {a b c : Nat} (h0 : 0 < s.size) (h1 : V.rv s ((1 : Nat) : Int) = some (x, a)) (h2 : V.rv s (a : Int) = some (y, b)) (h3 : V.rv s (b : Int) = some (z, c)) (hc : c = s.size) : OI s (bt s 0) x y z := by
 refine ⟨fun k n d v hR e => ?_, fun hR => ?_⟩
 ·
  obtain ⟨q0, q1, q2, q3, _⟩ := oi_all h1 h2 h3 hR e
  exact ⟨q0, q1, q2, q3⟩
 ·
  apply ba_eq
  obtain ⟨r1, e1, f1, _⟩ := rv_cut h1
  obtain ⟨r2, e2, f2, _⟩ := rv_cut h2
  obtain ⟨r3, e3, f3, _⟩ := rv_cut h3
  have hl : s.data.toList.length = s.size := (V.size_list s).symm
  rw [hc, List.drop_eq_nil_of_le (by omega)] at f3
  subst f3
  rw [← f1] at e2
  subst e2
  rw [← f2] at e3
  subst e3
  rw [ordB_list]
  have hd : s.data.toList = s.data.toList[0]'(by omega) :: s.data.toList.drop 1 := by
   conv => lhs; rw [← List.drop_zero (l := s.data.toList)]
   rw [List.drop_eq_getElem_cons (by omega)]
  have hb := (V.bt_drop (s := s) (k := 0) (by rw [List.drop_zero]; exact hd)).2.1
  rw [hd, e1, hb]
  simp
theorem bt_at0 {s : ByteArray} (h : 0 < s.size) : IntKind.i64.wrap ((s[0]'h).toNat : Int) = bt s 0 := by
 have hl : s.data.toList.length = s.size := (V.size_list s).symm
 have hd : s.data.toList = (s[0]'h) :: s.data.toList.drop 1 := by
  conv => lhs; rw [← List.drop_zero (l := s.data.toList)]
  rw [List.drop_eq_getElem_cons (by omega)]
  rfl
 have hb := (V.bt_drop (s := s) (k := 0) (by rw [List.drop_zero]; exact hd)).2.1
 rw [hb, IntKind.wrap_i64]
 have := (s[0]'h).toNat_lt
 omega
theorem arr3c {w : World} {k : Nat} {t : TypeId} {x y z : Value} (h : w.heap[k]? = some (.cells #[x, y, z] t)) :
  w.cell? ⟨k, 0, none⟩ = some x ∧ w.cell? ⟨k, 1, none⟩ = some y ∧ w.cell? ⟨k, 2, none⟩ = some z ∧ w.frozen? ⟨k, 0, none⟩ = false ∧ w.frozen? ⟨k, 1, none⟩ = false ∧ w.frozen? ⟨k, 2, none⟩ = false := by
 refine ⟨?_, ?_, ?_, ?_, ?_, ?_⟩ <;> simp [World.cell?, World.frozen?, h]
theorem orderinI (s : ByteArray) (hs : s.size ≤ 1048576) (w : World) : Calls Tryz.prog 168 #[.string s] w fun e w' => ∃ k n d v : Int, e = .returned (ordV k n d v) ∧ OI s k n d v ∧ Below w.heap.size w w' := by
 by_cases h0 : s.size = 0
 ·
  have HO : Hid (OI s 0 0 0 0) := oi_empty h0
  obtain rfl : s = ⟨#[]⟩ := by
   apply ByteArray.ext
   exact Array.eq_empty_of_size_eq_zero h0
  have HR0 : Hid ((w.alloc (oB 0 0 0 0)).heap[w.heap.size]? = some (oB 0 0 0 0)) := heap_new w _
  have HB0 : Hid (Below w.heap.size w (w.alloc (oB 0 0 0 0))) := alQ _ _
  have kz := box4_cells HR0.out
  clear h0
  go_enter Tryz.func168, Tryz.ntmps168
  go_wp2
  refine bodyPost_ret (v := ordV 0 0 0 0) (by simp [results, Tryz.results168, go_sem, ordV]) rfl ⟨0, 0, 0, 0, rfl, HO.out, ?_⟩
  exact HB0.out
 ·
  have K1 : Hid (∀ w, Calls Tryz.prog 183 #[.string s, .int .i64 1] w fun e w' => e = .returned (V.enc3 (V.rv s ((1 : Nat) : Int))) ∧ Below w.heap.size w w') := fun w => V.rv12 s ((1 : Nat) : Int) hs w
  have hse : s.toList.isEmpty = false := by
   rw [ByteArray.toList_eq]
   cases hc : s.data.toList
   · exact absurd (by rw [V.size_list, hc]; rfl) h0
   · rfl
  rcases h1 : V.rv s ((1 : Nat) : Int) with _ | ⟨x, a⟩
  ·
   have HO : Hid (OI s 0 0 0 0) := oi_1 h1
   rw [h1] at K1
   clear h1 h0
   have HBs0 : Hid (Below w.heap.size w ((w.alloc (oB 0 0 0 0)).alloc (.cells #[.int .i64 0, .int .i64 0, .int .i64 0] 199))) := bel_on (Nat.le_refl _) (alQ _ _) (alQ _ _)
   have HRs0 : Hid (((w.alloc (oB 0 0 0 0)).alloc (.cells #[.int .i64 0, .int .i64 0, .int .i64 0] 199)).heap[w.heap.size]? = some (oB 0 0 0 0)) := row_on (heap_new w _) (alQ _ _)
   have HAs0 : Hid (((w.alloc (oB 0 0 0 0)).alloc (.cells #[.int .i64 0, .int .i64 0, .int .i64 0] 199)).heap[w.heap.size + 1]? = some (.cells #[.int .i64 0, .int .i64 0, .int .i64 0] 199)) := by
    have h := heap_new (w.alloc (oB 0 0 0 0)) (.cells #[.int .i64 0, .int .i64 0, .int .i64 0] 199)
    rw [World.size_alloc] at h
    exact h
   go_enter Tryz.func168, Tryz.ntmps168
   go_wp2
   refine wp_loop_rounds 4 ?_
   rw [rounds_succ]
   go_wp2_with fail
   refine (K1.out _).mono ?_
   rintro e w1 ⟨rfl, hb1⟩
   have HB1 := bq HBs0 hb1
   have HR1 := rq HRs0 hb1
   have HA1 := rq HAs0 hb1
   have hlt1 := row_lt HA1.out
   have ca1 := arr3c HA1.out
   have cr1 := box4_cells HR1.out
   clear hb1 HBs0 HRs0 HAs0
   simp only [V.enc3]
   have HF : Hid (Below w.heap.size w ((((w1.setCell ⟨w.heap.size, 0, none⟩ (.int .i64 0)).setCell ⟨w.heap.size, 1, none⟩ (.int .i64 0)).setCell ⟨w.heap.size, 2, none⟩ (.int .i64 0)).setCell ⟨w.heap.size, 3, none⟩ (.int .i64 0))) := (((HB1.out.setCell (Nat.le_refl _) _).setCell (Nat.le_refl _) _).setCell (Nat.le_refl _) _).setCell (Nat.le_refl _) _
   have kz := box4_cells HR1.out
   go_wp2
   refine bodyPost_ret (v := ordV 0 0 0 0) (by simp [results, Tryz.results168, go_sem, kz, ordV]) rfl ⟨0, 0, 0, 0, rfl, HO.out, HF.out⟩
  ·
   rw [h1] at K1
   have K2 : Hid (∀ w, Calls Tryz.prog 183 #[.string s, .int .i64 (a : Int)] w fun e w' => e = .returned (V.enc3 (V.rv s (a : Int))) ∧ Below w.heap.size w w') := fun w => V.rv12 s (a : Int) hs w
   have hx := V.rv_some h1
   rcases h2 : V.rv s (a : Int) with _ | ⟨y, b⟩
   ·
    have HO : Hid (OI s 0 0 0 0) := oi_2 h1 h2
    rw [h2] at K2
    clear h1 h2 h0
    have HBs0 : Hid (Below w.heap.size w ((w.alloc (oB 0 0 0 0)).alloc (.cells #[.int .i64 0, .int .i64 0, .int .i64 0] 199))) := bel_on (Nat.le_refl _) (alQ _ _) (alQ _ _)
    have HRs0 : Hid (((w.alloc (oB 0 0 0 0)).alloc (.cells #[.int .i64 0, .int .i64 0, .int .i64 0] 199)).heap[w.heap.size]? = some (oB 0 0 0 0)) := row_on (heap_new w _) (alQ _ _)
    have HAs0 : Hid (((w.alloc (oB 0 0 0 0)).alloc (.cells #[.int .i64 0, .int .i64 0, .int .i64 0] 199)).heap[w.heap.size + 1]? = some (.cells #[.int .i64 0, .int .i64 0, .int .i64 0] 199)) := by
     have h := heap_new (w.alloc (oB 0 0 0 0)) (.cells #[.int .i64 0, .int .i64 0, .int .i64 0] 199)
     rw [World.size_alloc] at h
     exact h
    go_enter Tryz.func168, Tryz.ntmps168
    go_wp2
    refine wp_loop_rounds 4 ?_
    rw [rounds_succ]
    go_wp2_with fail
    refine (K1.out _).mono ?_
    rintro e w1 ⟨rfl, hb1⟩
    have HB1 := bq HBs0 hb1
    have HR1 := rq HRs0 hb1
    have HA1 := rq HAs0 hb1
    have hlt1 := row_lt HA1.out
    have ca1 := arr3c HA1.out
    have cr1 := box4_cells HR1.out
    clear hb1 HBs0 HRs0 HAs0
    simp only [V.enc3]
    have HBs1 : Hid (Below w.heap.size w (w1.setCell ⟨w.heap.size + 1, 0, none⟩ (.int .i64 x))) := HB1.out.setCell (Nat.le_succ _) _
    have HRs1 : Hid ((w1.setCell ⟨w.heap.size + 1, 0, none⟩ (.int .i64 x)).heap[w.heap.size]? = some (oB 0 0 0 0)) := set_far HR1.out (by omega)
    have HAs1 : Hid ((w1.setCell ⟨w.heap.size + 1, 0, none⟩ (.int .i64 x)).heap[w.heap.size + 1]? = some (.cells #[.int .i64 x, .int .i64 0, .int .i64 0] 199)) := set_row5 HA1.out 0 _
    go_wp2
    rw [rounds_succ]
    go_wp2_with fail
    refine (K2.out _).mono ?_
    rintro e w2 ⟨rfl, hb2⟩
    have HB2 := bq HBs1 hb2
    have HR2 := rq HRs1 hb2
    have HA2 := rq HAs1 hb2
    have hlt2 := row_lt HA2.out
    have ca2 := arr3c HA2.out
    have cr2 := box4_cells HR2.out
    clear hb2 HBs1 HRs1 HAs1
    simp only [V.enc3]
    have HF : Hid (Below w.heap.size w ((((w2.setCell ⟨w.heap.size, 0, none⟩ (.int .i64 0)).setCell ⟨w.heap.size, 1, none⟩ (.int .i64 0)).setCell ⟨w.heap.size, 2, none⟩ (.int .i64 0)).setCell ⟨w.heap.size, 3, none⟩ (.int .i64 0))) := (((HB2.out.setCell (Nat.le_refl _) _).setCell (Nat.le_refl _) _).setCell (Nat.le_refl _) _).setCell (Nat.le_refl _) _
    have kz := box4_cells HR2.out
    go_wp2
    refine bodyPost_ret (v := ordV 0 0 0 0) (by simp [results, Tryz.results168, go_sem, kz, ordV]) rfl ⟨0, 0, 0, 0, rfl, HO.out, HF.out⟩
   ·
    rw [h2] at K2
    have K3 : Hid (∀ w, Calls Tryz.prog 183 #[.string s, .int .i64 (b : Int)] w fun e w' => e = .returned (V.enc3 (V.rv s (b : Int))) ∧ Below w.heap.size w w') := fun w => V.rv12 s (b : Int) hs w
    have hy := V.rv_some h2
    rcases h3 : V.rv s (b : Int) with _ | ⟨z, c⟩
    ·
     have HO : Hid (OI s 0 0 0 0) := oi_3 h1 h2 h3
     rw [h3] at K3
     clear h1 h2 h3 h0
     have HBs0 : Hid (Below w.heap.size w ((w.alloc (oB 0 0 0 0)).alloc (.cells #[.int .i64 0, .int .i64 0, .int .i64 0] 199))) := bel_on (Nat.le_refl _) (alQ _ _) (alQ _ _)
     have HRs0 : Hid (((w.alloc (oB 0 0 0 0)).alloc (.cells #[.int .i64 0, .int .i64 0, .int .i64 0] 199)).heap[w.heap.size]? = some (oB 0 0 0 0)) := row_on (heap_new w _) (alQ _ _)
     have HAs0 : Hid (((w.alloc (oB 0 0 0 0)).alloc (.cells #[.int .i64 0, .int .i64 0, .int .i64 0] 199)).heap[w.heap.size + 1]? = some (.cells #[.int .i64 0, .int .i64 0, .int .i64 0] 199)) := by
      have h := heap_new (w.alloc (oB 0 0 0 0)) (.cells #[.int .i64 0, .int .i64 0, .int .i64 0] 199)
      rw [World.size_alloc] at h
      exact h
     go_enter Tryz.func168, Tryz.ntmps168
     go_wp2
     refine wp_loop_rounds 4 ?_
     rw [rounds_succ]
     go_wp2_with fail
     refine (K1.out _).mono ?_
     rintro e w1 ⟨rfl, hb1⟩
     have HB1 := bq HBs0 hb1
     have HR1 := rq HRs0 hb1
     have HA1 := rq HAs0 hb1
     have hlt1 := row_lt HA1.out
     have ca1 := arr3c HA1.out
     have cr1 := box4_cells HR1.out
     clear hb1 HBs0 HRs0 HAs0
     simp only [V.enc3]
     have HBs1 : Hid (Below w.heap.size w (w1.setCell ⟨w.heap.size + 1, 0, none⟩ (.int .i64 x))) := HB1.out.setCell (Nat.le_succ _) _
     have HRs1 : Hid ((w1.setCell ⟨w.heap.size + 1, 0, none⟩ (.int .i64 x)).heap[w.heap.size]? = some (oB 0 0 0 0)) := set_far HR1.out (by omega)
     have HAs1 : Hid ((w1.setCell ⟨w.heap.size + 1, 0, none⟩ (.int .i64 x)).heap[w.heap.size + 1]? = some (.cells #[.int .i64 x, .int .i64 0, .int .i64 0] 199)) := set_row5 HA1.out 0 _
     go_wp2
     rw [rounds_succ]
     go_wp2_with fail
     refine (K2.out _).mono ?_
     rintro e w2 ⟨rfl, hb2⟩
     have HB2 := bq HBs1 hb2
     have HR2 := rq HRs1 hb2
     have HA2 := rq HAs1 hb2
     have hlt2 := row_lt HA2.out
     have ca2 := arr3c HA2.out
     have cr2 := box4_cells HR2.out
     clear hb2 HBs1 HRs1 HAs1
     simp only [V.enc3]
     have HBs2 : Hid (Below w.heap.size w (w2.setCell ⟨w.heap.size + 1, 1, none⟩ (.int .i64 y))) := HB2.out.setCell (Nat.le_succ _) _
     have HRs2 : Hid ((w2.setCell ⟨w.heap.size + 1, 1, none⟩ (.int .i64 y)).heap[w.heap.size]? = some (oB 0 0 0 0)) := set_far HR2.out (by omega)
     have HAs2 : Hid ((w2.setCell ⟨w.heap.size + 1, 1, none⟩ (.int .i64 y)).heap[w.heap.size + 1]? = some (.cells #[.int .i64 x, .int .i64 y, .int .i64 0] 199)) := set_row5 HA2.out 1 _
     go_wp2
     rw [rounds_succ]
     go_wp2_with fail
     refine (K3.out _).mono ?_
     rintro e w3 ⟨rfl, hb3⟩
     have HB3 := bq HBs2 hb3
     have HR3 := rq HRs2 hb3
     have HA3 := rq HAs2 hb3
     have hlt3 := row_lt HA3.out
     have ca3 := arr3c HA3.out
     have cr3 := box4_cells HR3.out
     clear hb3 HBs2 HRs2 HAs2
     simp only [V.enc3]
     have HF : Hid (Below w.heap.size w ((((w3.setCell ⟨w.heap.size, 0, none⟩ (.int .i64 0)).setCell ⟨w.heap.size, 1, none⟩ (.int .i64 0)).setCell ⟨w.heap.size, 2, none⟩ (.int .i64 0)).setCell ⟨w.heap.size, 3, none⟩ (.int .i64 0))) := (((HB3.out.setCell (Nat.le_refl _) _).setCell (Nat.le_refl _) _).setCell (Nat.le_refl _) _).setCell (Nat.le_refl _) _
     have kz := box4_cells HR3.out
     go_wp2
     refine bodyPost_ret (v := ordV 0 0 0 0) (by simp [results, Tryz.results168, go_sem, kz, ordV]) rfl ⟨0, 0, 0, 0, rfl, HO.out, HF.out⟩
    ·
     rw [h3] at K3
     have hz := V.rv_some h3
     by_cases hc : c = s.size
     ·
      have HO : Hid (OI s (bt s 0) x y z) := oi_yes (by omega) h1 h2 h3 hc
      clear h1 h2 h3
      have HBs0 : Hid (Below w.heap.size w ((w.alloc (oB 0 0 0 0)).alloc (.cells #[.int .i64 0, .int .i64 0, .int .i64 0] 199))) := bel_on (Nat.le_refl _) (alQ _ _) (alQ _ _)
      have HRs0 : Hid (((w.alloc (oB 0 0 0 0)).alloc (.cells #[.int .i64 0, .int .i64 0, .int .i64 0] 199)).heap[w.heap.size]? = some (oB 0 0 0 0)) := row_on (heap_new w _) (alQ _ _)
      have HAs0 : Hid (((w.alloc (oB 0 0 0 0)).alloc (.cells #[.int .i64 0, .int .i64 0, .int .i64 0] 199)).heap[w.heap.size + 1]? = some (.cells #[.int .i64 0, .int .i64 0, .int .i64 0] 199)) := by
       have h := heap_new (w.alloc (oB 0 0 0 0)) (.cells #[.int .i64 0, .int .i64 0, .int .i64 0] 199)
       rw [World.size_alloc] at h
       exact h
      go_enter Tryz.func168, Tryz.ntmps168
      go_wp2
      refine wp_loop_rounds 4 ?_
      rw [rounds_succ]
      go_wp2_with fail
      refine (K1.out _).mono ?_
      rintro e w1 ⟨rfl, hb1⟩
      have HB1 := bq HBs0 hb1
      have HR1 := rq HRs0 hb1
      have HA1 := rq HAs0 hb1
      have hlt1 := row_lt HA1.out
      have ca1 := arr3c HA1.out
      have cr1 := box4_cells HR1.out
      clear hb1 HBs0 HRs0 HAs0
      simp only [V.enc3]
      have HBs1 : Hid (Below w.heap.size w (w1.setCell ⟨w.heap.size + 1, 0, none⟩ (.int .i64 x))) := HB1.out.setCell (Nat.le_succ _) _
      have HRs1 : Hid ((w1.setCell ⟨w.heap.size + 1, 0, none⟩ (.int .i64 x)).heap[w.heap.size]? = some (oB 0 0 0 0)) := set_far HR1.out (by omega)
      have HAs1 : Hid ((w1.setCell ⟨w.heap.size + 1, 0, none⟩ (.int .i64 x)).heap[w.heap.size + 1]? = some (.cells #[.int .i64 x, .int .i64 0, .int .i64 0] 199)) := set_row5 HA1.out 0 _
      go_wp2
      rw [rounds_succ]
      go_wp2_with fail
      refine (K2.out _).mono ?_
      rintro e w2 ⟨rfl, hb2⟩
      have HB2 := bq HBs1 hb2
      have HR2 := rq HRs1 hb2
      have HA2 := rq HAs1 hb2
      have hlt2 := row_lt HA2.out
      have ca2 := arr3c HA2.out
      have cr2 := box4_cells HR2.out
      clear hb2 HBs1 HRs1 HAs1
      simp only [V.enc3]
      have HBs2 : Hid (Below w.heap.size w (w2.setCell ⟨w.heap.size + 1, 1, none⟩ (.int .i64 y))) := HB2.out.setCell (Nat.le_succ _) _
      have HRs2 : Hid ((w2.setCell ⟨w.heap.size + 1, 1, none⟩ (.int .i64 y)).heap[w.heap.size]? = some (oB 0 0 0 0)) := set_far HR2.out (by omega)
      have HAs2 : Hid ((w2.setCell ⟨w.heap.size + 1, 1, none⟩ (.int .i64 y)).heap[w.heap.size + 1]? = some (.cells #[.int .i64 x, .int .i64 y, .int .i64 0] 199)) := set_row5 HA2.out 1 _
      go_wp2
      rw [rounds_succ]
      go_wp2_with fail
      refine (K3.out _).mono ?_
      rintro e w3 ⟨rfl, hb3⟩
      have HB3 := bq HBs2 hb3
      have HR3 := rq HRs2 hb3
      have HA3 := rq HAs2 hb3
      have hlt3 := row_lt HA3.out
      have ca3 := arr3c HA3.out
      have cr3 := box4_cells HR3.out
      clear hb3 HBs2 HRs2 HAs2
      simp only [V.enc3]
      have HBs3 : Hid (Below w.heap.size w (w3.setCell ⟨w.heap.size + 1, 2, none⟩ (.int .i64 z))) := HB3.out.setCell (Nat.le_succ _) _
      have HRs3 : Hid ((w3.setCell ⟨w.heap.size + 1, 2, none⟩ (.int .i64 z)).heap[w.heap.size]? = some (oB 0 0 0 0)) := set_far HR3.out (by omega)
      have HAs3 : Hid ((w3.setCell ⟨w.heap.size + 1, 2, none⟩ (.int .i64 z)).heap[w.heap.size + 1]? = some (.cells #[.int .i64 x, .int .i64 y, .int .i64 z] 199)) := set_row5 HA3.out 2 _
      go_wp2
      rw [rounds_succ]
      have hs0 : 0 < s.size := by omega
      have cs3 := arr3c HAs3.out
      have cz3 := box4_cells HRs3.out
      go_wp2
      refine wp_region_held_drew (S := fun w' => w'.cell? ⟨w.heap.size + 1, 0, none⟩ = some (.int .i64 x) ∧ w'.cell? ⟨w.heap.size + 1, 1, none⟩ = some (.int .i64 y) ∧ w'.cell? ⟨w.heap.size + 1, 2, none⟩ = some (.int .i64 z)) (by kernel_rfl) ?_ (fun hHeld => ?_)
      · exact ⟨cs3.1, cs3.2.1, cs3.2.2.1⟩
      refine tkQ 0 ?_ rfl ?_ ?_
      rotate_left
      · intro w hSw; (try dsimp only at hSw); go_simp <;> with_reducible rfl
      try simp only [Act.put, List.setIfInBounds_toArray, List.set_cons_zero, List.set_cons_succ]
      refine tkQ 1 ?_ rfl ?_ ?_
      rotate_left
      · intro w hSw; (try dsimp only at hSw); go_simp <;> with_reducible rfl
      try simp only [Act.put, List.setIfInBounds_toArray, List.set_cons_zero, List.set_cons_succ]
      refine tkQ 2 ?_ rfl ?_ ?_
      rotate_left
      · intro w hSw; (try dsimp only at hSw); go_simp <;> with_reducible rfl
      try simp only [Act.put, List.setIfInBounds_toArray, List.set_cons_zero, List.set_cons_succ]
      refine tkQ 3 ?_ rfl ?_ ?_
      rotate_left
      · intro w hSw; (try dsimp only at hSw); go_simp <;> with_reducible rfl
      try simp only [Act.put, List.setIfInBounds_toArray, List.set_cons_zero, List.set_cons_succ]
      refine tkQ 4 ?_ rfl ?_ ?_
      rotate_left
      · intro w hSw; (try dsimp only at hSw); go_simp <;> with_reducible rfl
      try simp only [Act.put, List.setIfInBounds_toArray, List.set_cons_zero, List.set_cons_succ]
      refine tkQ 5 ?_ rfl ?_ ?_
      rotate_left
      · intro w hSw; (try dsimp only at hSw); go_simp <;> with_reducible rfl
      try simp only [Act.put, List.setIfInBounds_toArray, List.set_cons_zero, List.set_cons_succ]
      refine tkQ 6 ?_ rfl ?_ ?_
      rotate_left
      · intro w hSw; (try dsimp only at hSw); go_simp <;> with_reducible rfl
      try simp only [Act.put, List.setIfInBounds_toArray, List.set_cons_zero, List.set_cons_succ]
      refine tkQ 7 ?_ rfl ?_ ?_
      rotate_left
      · intro w hSw; (try dsimp only at hSw); go_simp <;> with_reducible rfl
      try simp only [Act.put, List.setIfInBounds_toArray, List.set_cons_zero, List.set_cons_succ]
      refine tkQ 8 ?_ rfl ?_ ?_
      rotate_left
      · intro w hSw; (try dsimp only at hSw); go_simp <;> with_reducible rfl
      try simp only [Act.put, List.setIfInBounds_toArray, List.set_cons_zero, List.set_cons_succ]
      refine tkQ 9 ?_ rfl ?_ ?_
      rotate_left
      · intro w hSw; (try dsimp only at hSw); go_simp <;> with_reducible rfl
      try simp only [Act.put, List.setIfInBounds_toArray, List.set_cons_zero, List.set_cons_succ]
      refine wpAnyH_ready (rs := [10]) (by kernel_rfl) (by simp) ?_
      refine AllReadyH.cons rfl (fun K hK => ?_) AllReadyH.nil
      go_simp
      have HT : Hid (((((((w3.setCell ⟨w.heap.size + 1, 2, none⟩ (.int .i64 z)).setCell ⟨w.heap.size, 0, none⟩ (.int .i64 (IntKind.i64.wrap (s[0]'hs0).toNat))).setCell ⟨w.heap.size, 1, none⟩ (.int .i64 x)).setCell ⟨w.heap.size, 2, none⟩ (.int .i64 y)).setCell ⟨w.heap.size, 3, none⟩ (.int .i64 z)).drew).heap[w.heap.size + 1]? = some (.cells #[.int .i64 x, .int .i64 y, .int .i64 z] 199)) := set_far (set_far (set_far (set_far HAs3.out (by omega)) (by omega)) (by omega)) (by omega)
      have HR4 : Hid (((((((w3.setCell ⟨w.heap.size + 1, 2, none⟩ (.int .i64 z)).setCell ⟨w.heap.size, 0, none⟩ (.int .i64 (IntKind.i64.wrap (s[0]'hs0).toNat))).setCell ⟨w.heap.size, 1, none⟩ (.int .i64 x)).setCell ⟨w.heap.size, 2, none⟩ (.int .i64 y)).setCell ⟨w.heap.size, 3, none⟩ (.int .i64 z)).drew).heap[w.heap.size]? = some (.cells #[.int .i64 (IntKind.i64.wrap (s[0]'hs0).toNat), .int .i64 x, .int .i64 y, .int .i64 z] 82)) := set_row5 (set_row5 (set_row5 (set_row5 HRs3.out 0 _) 1 _) 2 _) 3 _
      have HF : Hid (Below w.heap.size w (((((w3.setCell ⟨w.heap.size + 1, 2, none⟩ (.int .i64 z)).setCell ⟨w.heap.size, 0, none⟩ (.int .i64 (IntKind.i64.wrap (s[0]'hs0).toNat))).setCell ⟨w.heap.size, 1, none⟩ (.int .i64 x)).setCell ⟨w.heap.size, 2, none⟩ (.int .i64 y)).setCell ⟨w.heap.size, 3, none⟩ (.int .i64 z)).drew) := ((((HBs3.out.setCell (Nat.le_refl _) _).setCell (Nat.le_refl _) _).setCell (Nat.le_refl _) _).setCell (Nat.le_refl _) _).drew
      refine hK.out _ _ ?_ (fun hHeld => ?_)
      ·
       have q := arr3c HT.out
       exact ⟨q.1, q.2.1, q.2.2.1⟩
      clear hK K hHeld
      try simp only [Act.put, List.setIfInBounds_toArray, List.set_cons_zero, List.set_cons_succ]
      refine wpAnyH_done (by kernel_rfl) ?_ _
      have kz := box4_cells HR4.out
      have HE : Hid (IntKind.i64.wrap (s[0]'hs0).toNat = bt s 0) := bt_at0 hs0
      generalize (((((w3.setCell ⟨w.heap.size + 1, 2, none⟩ (.int .i64 z)).setCell ⟨w.heap.size, 0, none⟩ (.int .i64 (IntKind.i64.wrap (s[0]'hs0).toNat))).setCell ⟨w.heap.size, 1, none⟩ (.int .i64 x)).setCell ⟨w.heap.size, 2, none⟩ (.int .i64 y)).setCell ⟨w.heap.size, 3, none⟩ (.int .i64 z)).drew = W at *
      go_wp2
      refine bodyPost_ret (v := ordV (IntKind.i64.wrap (s[0]'hs0).toNat) x y z) (by simp [results, Tryz.results168, go_sem, kz, ordV]) rfl ⟨_, x, y, z, rfl, (by rw [HE.out]; exact HO.out), HF.out⟩
     ·
      have HO : Hid (OI s 0 0 0 0) := oi_far h1 h2 h3 hc
      clear h1 h2 h3 h0
      have HBs0 : Hid (Below w.heap.size w ((w.alloc (oB 0 0 0 0)).alloc (.cells #[.int .i64 0, .int .i64 0, .int .i64 0] 199))) := bel_on (Nat.le_refl _) (alQ _ _) (alQ _ _)
      have HRs0 : Hid (((w.alloc (oB 0 0 0 0)).alloc (.cells #[.int .i64 0, .int .i64 0, .int .i64 0] 199)).heap[w.heap.size]? = some (oB 0 0 0 0)) := row_on (heap_new w _) (alQ _ _)
      have HAs0 : Hid (((w.alloc (oB 0 0 0 0)).alloc (.cells #[.int .i64 0, .int .i64 0, .int .i64 0] 199)).heap[w.heap.size + 1]? = some (.cells #[.int .i64 0, .int .i64 0, .int .i64 0] 199)) := by
       have h := heap_new (w.alloc (oB 0 0 0 0)) (.cells #[.int .i64 0, .int .i64 0, .int .i64 0] 199)
       rw [World.size_alloc] at h
       exact h
      go_enter Tryz.func168, Tryz.ntmps168
      go_wp2
      refine wp_loop_rounds 4 ?_
      rw [rounds_succ]
      go_wp2_with fail
      refine (K1.out _).mono ?_
      rintro e w1 ⟨rfl, hb1⟩
      have HB1 := bq HBs0 hb1
      have HR1 := rq HRs0 hb1
      have HA1 := rq HAs0 hb1
      have hlt1 := row_lt HA1.out
      have ca1 := arr3c HA1.out
      have cr1 := box4_cells HR1.out
      clear hb1 HBs0 HRs0 HAs0
      simp only [V.enc3]
      have HBs1 : Hid (Below w.heap.size w (w1.setCell ⟨w.heap.size + 1, 0, none⟩ (.int .i64 x))) := HB1.out.setCell (Nat.le_succ _) _
      have HRs1 : Hid ((w1.setCell ⟨w.heap.size + 1, 0, none⟩ (.int .i64 x)).heap[w.heap.size]? = some (oB 0 0 0 0)) := set_far HR1.out (by omega)
      have HAs1 : Hid ((w1.setCell ⟨w.heap.size + 1, 0, none⟩ (.int .i64 x)).heap[w.heap.size + 1]? = some (.cells #[.int .i64 x, .int .i64 0, .int .i64 0] 199)) := set_row5 HA1.out 0 _
      go_wp2
      rw [rounds_succ]
      go_wp2_with fail
      refine (K2.out _).mono ?_
      rintro e w2 ⟨rfl, hb2⟩
      have HB2 := bq HBs1 hb2
      have HR2 := rq HRs1 hb2
      have HA2 := rq HAs1 hb2
      have hlt2 := row_lt HA2.out
      have ca2 := arr3c HA2.out
      have cr2 := box4_cells HR2.out
      clear hb2 HBs1 HRs1 HAs1
      simp only [V.enc3]
      have HBs2 : Hid (Below w.heap.size w (w2.setCell ⟨w.heap.size + 1, 1, none⟩ (.int .i64 y))) := HB2.out.setCell (Nat.le_succ _) _
      have HRs2 : Hid ((w2.setCell ⟨w.heap.size + 1, 1, none⟩ (.int .i64 y)).heap[w.heap.size]? = some (oB 0 0 0 0)) := set_far HR2.out (by omega)
      have HAs2 : Hid ((w2.setCell ⟨w.heap.size + 1, 1, none⟩ (.int .i64 y)).heap[w.heap.size + 1]? = some (.cells #[.int .i64 x, .int .i64 y, .int .i64 0] 199)) := set_row5 HA2.out 1 _
      go_wp2
      rw [rounds_succ]
      go_wp2_with fail
      refine (K3.out _).mono ?_
      rintro e w3 ⟨rfl, hb3⟩
      have HB3 := bq HBs2 hb3
      have HR3 := rq HRs2 hb3
      have HA3 := rq HAs2 hb3
      have hlt3 := row_lt HA3.out
      have ca3 := arr3c HA3.out
      have cr3 := box4_cells HR3.out
      clear hb3 HBs2 HRs2 HAs2
      simp only [V.enc3]
      have HBs3 : Hid (Below w.heap.size w (w3.setCell ⟨w.heap.size + 1, 2, none⟩ (.int .i64 z))) := HB3.out.setCell (Nat.le_succ _) _
      have HRs3 : Hid ((w3.setCell ⟨w.heap.size + 1, 2, none⟩ (.int .i64 z)).heap[w.heap.size]? = some (oB 0 0 0 0)) := set_far HR3.out (by omega)
      have HAs3 : Hid ((w3.setCell ⟨w.heap.size + 1, 2, none⟩ (.int .i64 z)).heap[w.heap.size + 1]? = some (.cells #[.int .i64 x, .int .i64 y, .int .i64 z] 199)) := set_row5 HA3.out 2 _
      go_wp2
      rw [rounds_succ]
      have HF : Hid (Below w.heap.size w (((((w3.setCell ⟨w.heap.size + 1, 2, none⟩ (.int .i64 z)).setCell ⟨w.heap.size, 0, none⟩ (.int .i64 0)).setCell ⟨w.heap.size, 1, none⟩ (.int .i64 0)).setCell ⟨w.heap.size, 2, none⟩ (.int .i64 0)).setCell ⟨w.heap.size, 3, none⟩ (.int .i64 0))) := (((HBs3.out.setCell (Nat.le_refl _) _).setCell (Nat.le_refl _) _).setCell (Nat.le_refl _) _).setCell (Nat.le_refl _) _
      have kz := box4_cells HRs3.out
      go_wp2
      refine bodyPost_ret (v := ordV 0 0 0 0) (by simp [results, Tryz.results168, go_sem, kz, ordV]) rfl ⟨0, 0, 0, 0, rfl, HO.out, HF.out⟩
theorem rd_no {t : ByteArray} (h : Q.unsealed t = none) : RdOr t 0 0 0 0 false := .inr ⟨(fun k n d v hR e => by rw [uns_ord hR e] at h; exact absurd h (by simp)), rfl, rfl, rfl, rfl, rfl⟩
theorem rd_oi {t s : ByteArray} {k n d v : Int} (h : Q.unsealed t = some s) (ho : OI s k n d v) (hR : OrdR k n d v) : RdOr t k n d v true := .inl ⟨hR, by
 have e := ho.2 hR
 unfold ordT
 rw [e]
 exact (uns_some h).1.symm, rfl⟩
theorem rd_oi_no {t s : ByteArray} {k n d v : Int} (h : Q.unsealed t = some s) (ho : OI s k n d v) (hR : ¬ OrdR k n d v) : RdOr t 0 0 0 0 false := .inr ⟨(fun k' n' d' v' hR' e => by
 have e1 := uns_ord hR' e
 rw [h] at e1
 obtain ⟨rfl, rfl, rfl, rfl⟩ := ho.1 k' n' d' v' hR' (Option.some.inj e1).symm
 exact hR hR'), rfl, rfl, rfl, rfl, rfl⟩
theorem uns_small {t s : ByteArray} (h : Q.unsealed t = some s) : s.size ≤ 1048576 := by have := (uns_some h).2; omega
theorem readoI (t : ByteArray) (hs : t.size ≤ 1048576) (w : World) (ht : Q.Tab w) : Calls Tryz.prog 131 #[.string t] w fun e w' => ∃ (k n d v : Int) (b : Bool), e = .returned (.tuple #[ordV k n d v, .bool b]) ∧ RdOr t k n d v b ∧ Below w.heap.size w w' := by
 have HR0 : Hid ((w.alloc (oB 0 0 0 0)).heap[w.heap.size]? = some (oB 0 0 0 0)) := heap_new w _
 have K1 : Hid (Calls Tryz.prog 167 #[.string t] (w.alloc (oB 0 0 0 0)) fun e w' => e = .returned (Q.encU (Q.unsealed t)) ∧ Below (w.alloc (oB 0 0 0 0)).heap.size (w.alloc (oB 0 0 0 0)) w') := Q.un5 t hs _ (Q.tab_below ht (alQ w _))
 clear ht
 rcases hU : Q.unsealed t with _ | s
 ·
  have HRD : Hid (RdOr t 0 0 0 0 false) := rd_no hU
  have HS : Hid ((⟨#[]⟩ : ByteArray).size ≤ 1048576) := by show _ ≤ _; decide
  rw [hU] at K1
  clear hU
  go_enter Tryz.func131, Tryz.ntmps131
  go_wp2_with fail
  refine K1.out.mono ?_
  rintro e w1 ⟨rfl, hb1⟩
  have HB1 : Hid (Below w.heap.size w w1) := bel_on (Nat.le_refl _) (alQ _ _) hb1
  have HR1 := rq HR0 hb1
  clear hb1 HR0 K1
  simp only [Q.encU]
  go_wp2_with fail
  refine (orderinI ⟨#[]⟩ HS.out _).mono ?_
  rintro e w2 ⟨k, n, d, v, rfl, ho, hb2⟩
  have HO := hq ho
  have HB2 := bq HB1 hb2
  have HR2 := rq HR1 hb2
  have hlt := row_lt HR2.out
  unfold ordV
  clear hb2 HR1 HB1 ho
  have HBa : Hid (Below w.heap.size w (w2.alloc (oB k n d v))) := bel_on (Nat.le_refl _) HB2.out (alQ _ _)
  have HRa : Hid ((w2.alloc (oB k n d v)).heap[w.heap.size]? = some (oB 0 0 0 0)) := row_on HR2.out (alQ _ _)
  have HKa : Hid ((w2.alloc (oB k n d v)).heap[w2.heap.size]? = some (oB k n d v)) := heap_new w2 _
  have ka := box4_cells HKa.out
  have kb := box4_cells HR2.out
  have kr := box4_cells HRa.out
  have HF : Hid (∀ o, Below w.heap.size w (((((w2.setCell ⟨w.heap.size, 0, none⟩ (.int .i64 0)).setCell ⟨w.heap.size, 1, none⟩ (.int .i64 0)).setCell ⟨w.heap.size, 2, none⟩ (.int .i64 0)).setCell ⟨w.heap.size, 3, none⟩ (.int .i64 0)).alloc o)) := fun o => ((((HB2.out.setCell (Nat.le_refl _) _).setCell (Nat.le_refl _) _).setCell (Nat.le_refl _) _).setCell (Nat.le_refl _) _).alloc (by have := HB2.out.size; simp; omega) o
  have hr : ((((w2.setCell ⟨w.heap.size, 0, none⟩ (.int .i64 0)).setCell ⟨w.heap.size, 1, none⟩ (.int .i64 0)).setCell ⟨w.heap.size, 2, none⟩ (.int .i64 0)).setCell ⟨w.heap.size, 3, none⟩ (.int .i64 0)).heap[w.heap.size]? = some (oB 0 0 0 0) := set_row5 (set_row5 (set_row5 (set_row5 HR2.out 0 _) 1 _) 2 _) 3 _
  have HRf : Hid ((((((w2.setCell ⟨w.heap.size, 0, none⟩ (.int .i64 0)).setCell ⟨w.heap.size, 1, none⟩ (.int .i64 0)).setCell ⟨w.heap.size, 2, none⟩ (.int .i64 0)).setCell ⟨w.heap.size, 3, none⟩ (.int .i64 0)).alloc (oB k n d v)).heap[w.heap.size]? = some (oB 0 0 0 0)) := (Below.heap_alloc _ _ _ (row_lt hr)).trans hr
  clear hr
  go_wp2
  obtain ⟨⟨q0, q1, q2, q3⟩, _⟩ := box4_cells HRf.out
  refine bodyPost_ret (v := .tuple #[ordV 0 0 0 0, .bool false]) (by simp only [results, Tryz.results131]; simp [go_sem, q0, q1, q2, q3, ordV]) rfl ⟨0, 0, 0, 0, false, rfl, HRD.out, HF.out _⟩
 ·
  have HU : Hid (Q.unsealed t = some s) := hU
  have HS : Hid (s.size ≤ 1048576) := uns_small hU
  rw [hU] at K1
  clear hU
  go_enter Tryz.func131, Tryz.ntmps131
  go_wp2_with fail
  refine K1.out.mono ?_
  rintro e w1 ⟨rfl, hb1⟩
  have HB1 : Hid (Below w.heap.size w w1) := bel_on (Nat.le_refl _) (alQ _ _) hb1
  have HR1 := rq HR0 hb1
  clear hb1 HR0 K1
  simp only [Q.encU]
  go_wp2_with fail
  refine (orderinI s HS.out _).mono ?_
  rintro e w2 ⟨k, n, d, v, rfl, ho, hb2⟩
  have HO := hq ho
  have HB2 := bq HB1 hb2
  have HR2 := rq HR1 hb2
  have hlt := row_lt HR2.out
  unfold ordV
  clear hb2 HR1 HB1 ho
  have HBa : Hid (Below w.heap.size w (w2.alloc (oB k n d v))) := bel_on (Nat.le_refl _) HB2.out (alQ _ _)
  have HRa : Hid ((w2.alloc (oB k n d v)).heap[w.heap.size]? = some (oB 0 0 0 0)) := row_on HR2.out (alQ _ _)
  have HKa : Hid ((w2.alloc (oB k n d v)).heap[w2.heap.size]? = some (oB k n d v)) := heap_new w2 _
  have ka := box4_cells HKa.out
  have kb := box4_cells HR2.out
  have kr := box4_cells HRa.out
  by_cases hR : OrdR k n d v
  ·
   have HRD : Hid (RdOr t k n d v true) := rd_oi HU.out HO.out hR
   have HO1 : Hid (∀ w, Calls Tryz.prog 169 #[.agg #[.int .i64 k, .int .i64 n, .int .i64 d, .int .i64 v]] w fun e w' => e = .returned (.bool true) ∧ Below w.heap.size w w') := fun w => ordokI k n d v true ⟨fun _ => hR, fun _ => rfl⟩ w
   clear hR HO HU
   go_wp2_with fail
   refine (HO1.out _).mono ?_
   rintro e w3 ⟨rfl, hb3⟩
   have HB3 := bq HBa hb3
   have HR3 := rq HRa hb3
   have HK3 := rq HKa hb3
   have HF : Hid (Below w.heap.size w ((((w3.setCell ⟨w.heap.size, 0, none⟩ (.int .i64 k)).setCell ⟨w.heap.size, 1, none⟩ (.int .i64 n)).setCell ⟨w.heap.size, 2, none⟩ (.int .i64 d)).setCell ⟨w.heap.size, 3, none⟩ (.int .i64 v))) := ((((HB3.out.setCell (Nat.le_refl _) _).setCell (Nat.le_refl _) _).setCell (Nat.le_refl _) _).setCell (Nat.le_refl _) _)
   have k3 := box4_cells HK3.out
   have kr3 := box4_cells HR3.out
   clear hb3 HBa HRa HKa ka kr kb HB2 HR2
   go_wp2
   refine bodyPost_ret (v := .tuple #[ordV k n d v, .bool true]) (by simp [results, Tryz.results131, go_sem, kr3, ordV]) rfl ⟨k, n, d, v, true, rfl, HRD.out, HF.out⟩
  ·
   have HRD : Hid (RdOr t 0 0 0 0 false) := rd_oi_no HU.out HO.out hR
   have HO1 : Hid (∀ w, Calls Tryz.prog 169 #[.agg #[.int .i64 k, .int .i64 n, .int .i64 d, .int .i64 v]] w fun e w' => e = .returned (.bool false) ∧ Below w.heap.size w w') := fun w => ordokI k n d v false ⟨fun h => (by cases h), fun h => absurd h hR⟩ w
   clear hR HO HU
   go_wp2_with fail
   refine (HO1.out _).mono ?_
   rintro e w3 ⟨rfl, hb3⟩
   have HB3 := bq HBa hb3
   have HR3 := rq HRa hb3
   have HF : Hid (Below w.heap.size w ((((w3.setCell ⟨w.heap.size, 0, none⟩ (.int .i64 0)).setCell ⟨w.heap.size, 1, none⟩ (.int .i64 0)).setCell ⟨w.heap.size, 2, none⟩ (.int .i64 0)).setCell ⟨w.heap.size, 3, none⟩ (.int .i64 0))) := ((((HB3.out.setCell (Nat.le_refl _) _).setCell (Nat.le_refl _) _).setCell (Nat.le_refl _) _).setCell (Nat.le_refl _) _)
   have kr3 := box4_cells HR3.out
   clear hb3 HBa HRa HKa ka kr kb HB2 HR2
   go_wp2
   refine bodyPost_ret (v := .tuple #[ordV 0 0 0 0, .bool false]) (by simp [results, Tryz.results131, go_sem, kr3, ordV]) rfl ⟨0, 0, 0, 0, false, rfl, HRD.out, HF.out⟩
end Go.Proofs.YtfhhnelffldggaaGreatDoor
