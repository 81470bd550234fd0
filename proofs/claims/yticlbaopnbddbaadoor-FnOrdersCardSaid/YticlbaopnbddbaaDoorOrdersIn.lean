/-
  FnOrders over bytes that are few enough.
-/
import Derived.Test.YticlbaopnbddbaaDoorOrdI
import Derived.Test.YticlbaopnbddbaaDoorOrdS
import Derived.Test.YticlbaopnbddbaaDoorOrdX
import Derived.Test.YticlbaopnbddbaaDoorDrawOa
import Derived.Test.YticlbaopnbddbaaDoorTrn14
import Derived.Test.YticlbaopnbddbaaDoorRow
namespace Go.Proofs.YticlbaopnbddbaaDoor
open Go.RowKit Go.PlainAid
set_option linter.unusedVariables false
set_option linter.unusedSimpArgs false

theorem code_on {w w' : World} {a : Option Addr} {len : Nat} (h : CodeOk w w.heap.size a len) (hb : Below w.heap.size w w') : CodeOk w' w'.heap.size a len := by
  have h2 := code_below h hb
  refine ⟨h2.1, fun hp => ?_⟩
  obtain ⟨b, off, ha, hlt, hc⟩ := h2.2 hp
  exact ⟨b, off, ha, Nat.lt_of_lt_of_le hlt hb.size, hc⟩
theorem ordT_size {k n d v : Int} (hR : OrdR k n d v) : 0 < (ordT k n d v).size ∧ (ordT k n d v).size ≤ 100 := by
  have h := ordB_small hR
  unfold ordT
  rw [ByteArray.size_append, Q.sigil_size]
  omega
theorem rd_own {k n d v k' n' d' v' : Int} {s : ByteArray} {b : Bool} (hR : OrdR k n d v) (hs : ordT k n d v = s) (h : RdOr s k' n' d' v' b) : k = k' ∧ n = n' ∧ d = d' ∧ v = v' ∧ true = b := RdOr.uni (.inl ⟨hR, hs, rfl⟩) h
theorem rd_trn {k n d v k' n' d' v' : Int} {s t : ByteArray} {b : Bool} (hR : OrdR k n d v) (hs : ordT k n d v = s) (ht : Trn s t) (h : RdOr t k' n' d' v' b) : b = false := by
  obtain ⟨l, m, c, e, h1, h2, hne⟩ := ht
  exact turned_rd hR (by rw [hs]; exact h1) h2 hne h
/-- the bytes of what was read: those that it was read from -/
theorem again {t : ByteArray} {k n d v : Int} {b : Bool} (h : RdOr t k n d v b) : ∃ (u : ByteArray) (c : Bool), Hid (∀ w, Q.Tab w → Calls Tryd.prog 8 #[.agg #[.int .i64 k, .int .i64 n, .int .i64 d, .int .i64 v]] w fun e w' => e = .returned (.tuple #[.string u, .bool c]) ∧ Below w.heap.size w w') ∧ Hid (b = true → t = u) := by
  rcases h with ⟨hR, hs, _⟩ | ⟨_, hb, rfl, rfl, rfl, rfl⟩
  · exact ⟨_, _, fun w ht => textI k n d v hR w ht, fun _ => hs.symm⟩
  · exact ⟨_, _, fun w _ => textNoI 0 0 0 0 not_zero w, fun h => by rw [hb] at h; cases h⟩

set_option maxRecDepth 100000 in
set_option maxHeartbeats 4000000 in
theorem orders_in (a : Option Addr) (len cap : Nat) (hb : len ≤ 1048576) (w : World) (hcode : CodeOk w w.heap.size a len) (ht : Q.Tab w) :
    Calls Tryd.prog 3 #[.slice a len cap] w fun e w' => e = .returned (.bool true) ∧ Below w.heap.size w w' := by
  have HC : Hid (CodeOk w w.heap.size a len) := hcode
  have HT : Hid (Q.Tab w) := ht
  clear hcode ht
  go_enter Tryd.func3, Tryd.ntmps3
  go_wp2_with fail
  refine (big5 a len cap (by omega) _).mono ?_
  rintro e w1 ⟨rfl, rfl⟩
  rw [decide_eq_false (by omega)]
  go_wp2_with fail
  refine (I.drawOrd a len cap _ HC.out).mono ?_
  rintro e w2 ⟨k, n, d, v, rfl, hb2⟩
  unfold ordV
  have HB2 : Hid (Below w1.heap.size w1 (w2.alloc (.cells #[.int .i64 k, .int .i64 n, .int .i64 d, .int .i64 v] 25))) := bel_on (Nat.le_refl _) hb2 (alQ _ _)
  have HO2 : Hid ((w2.alloc (.cells #[.int .i64 k, .int .i64 n, .int .i64 d, .int .i64 v] 25)).heap[w2.heap.size]? = some (.cells #[.int .i64 k, .int .i64 n, .int .i64 d, .int .i64 v] 25)) := heap_new w2 _
  have o2 := box4_cells HO2.out
  clear hb2
  by_cases hR : OrdR k n d v
  · obtain ⟨s, hs⟩ : ∃ s, ordT k n d v = s := ⟨_, rfl⟩
    have K3 : Hid (∀ w, Q.Tab w → Calls Tryd.prog 8 #[.agg #[.int .i64 k, .int .i64 n, .int .i64 d, .int .i64 v]] w fun e w' => e = .returned (.tuple #[.string s, .bool true]) ∧ Below w.heap.size w w') := fun w ht => by rw [← hs]; exact textI k n d v hR w ht
    have KS : Hid (∀ w, Calls Tryd.prog 10 #[.agg #[.int .i64 k, .int .i64 n, .int .i64 d, .int .i64 v]] w fun e w' => e = .returned (.bool true) ∧ Below w.heap.size w w') := fun w => ordokS k n d v true ⟨fun _ => hR, fun _ => rfl⟩ w
    have KI : Hid (∀ w, Calls Tryd.prog 11 #[.agg #[.int .i64 k, .int .i64 n, .int .i64 d, .int .i64 v]] w fun e w' => e = .returned (.bool true) ∧ Below w.heap.size w w') := fun w => ordokI k n d v true ⟨fun _ => hR, fun _ => rfl⟩ w
    have HRd : Hid (∀ k' n' d' v' b, RdOr s k' n' d' v' b → k = k' ∧ n = n' ∧ d = d' ∧ v = v' ∧ true = b) := fun _ _ _ _ _ h => rd_own hR hs h
    have HTn : Hid (∀ t k' n' d' v' b, Trn s t → RdOr t k' n' d' v' b → b = false) := fun _ _ _ _ _ _ ht h => rd_trn hR hs ht h
    have hsz := ordT_size hR
    rw [hs] at hsz
    have HS0 : Hid (0 < s.size) := hsz.1
    have hs1 := hsz.2
    clear hR hs hsz
    go_wp2_with fail
    refine (K3.out _ (Q.tab_below HT.out HB2.out)).mono ?_
    rintro e w3 ⟨rfl, hb3⟩
    have HB3 : Hid (Below w1.heap.size w1 w3) := bel_on (Nat.le_refl _) HB2.out hb3
    have HO3 : Hid (w3.heap[w2.heap.size]? = some (.cells #[.int .i64 k, .int .i64 n, .int .i64 d, .int .i64 v] 25)) := row_on HO2.out hb3
    clear hb3 HB2 HO2 o2
    go_wp2_with fail
    refine (readoI s (by omega) _ (Q.tab_below HT.out HB3.out)).mono ?_
    rintro e w4 ⟨k4, n4, d4, v4, b4, rfl, hr4, hb4⟩
    obtain ⟨rfl, rfl, rfl, rfl, rfl⟩ := HRd.out _ _ _ _ _ hr4
    unfold ordV
    have HB4 : Hid (Below w1.heap.size w1 (w4.alloc (.cells #[.int .i64 k, .int .i64 n, .int .i64 d, .int .i64 v] 25))) := bel_on (Nat.le_refl _) (bel_on (Nat.le_refl _) HB3.out hb4) (alQ _ _)
    have HO4 : Hid ((w4.alloc (.cells #[.int .i64 k, .int .i64 n, .int .i64 d, .int .i64 v] 25)).heap[w2.heap.size]? = some (.cells #[.int .i64 k, .int .i64 n, .int .i64 d, .int .i64 v] 25)) := row_on (row_on HO3.out hb4) (alQ _ _)
    have HX4 : Hid ((w4.alloc (.cells #[.int .i64 k, .int .i64 n, .int .i64 d, .int .i64 v] 25)).heap[w4.heap.size]? = some (.cells #[.int .i64 k, .int .i64 n, .int .i64 d, .int .i64 v] 25)) := heap_new w4 _
    have o4 := box4_cells HO4.out
    clear hb4 hr4 HB3 HO3
    go_wp2_with fail
    refine (KS.out _).mono ?_
    rintro e w5 ⟨rfl, hb5⟩
    have HB5 : Hid (Below w1.heap.size w1 w5) := bel_on (Nat.le_refl _) HB4.out hb5
    have HO5 : Hid (w5.heap[w2.heap.size]? = some (.cells #[.int .i64 k, .int .i64 n, .int .i64 d, .int .i64 v] 25)) := row_on HO4.out hb5
    have HX5 : Hid (w5.heap[w4.heap.size]? = some (.cells #[.int .i64 k, .int .i64 n, .int .i64 d, .int .i64 v] 25)) := row_on HX4.out hb5
    have o5 := box4_cells HO5.out
    clear hb5 HB4 HO4 HX4 o4
    go_wp2_with fail
    refine (KI.out _).mono ?_
    rintro e w6 ⟨rfl, hb6⟩
    have HB6 : Hid (Below w1.heap.size w1 w6) := bel_on (Nat.le_refl _) HB5.out hb6
    have HO6 : Hid (w6.heap[w2.heap.size]? = some (.cells #[.int .i64 k, .int .i64 n, .int .i64 d, .int .i64 v] 25)) := row_on HO5.out hb6
    have HX6 : Hid (w6.heap[w4.heap.size]? = some (.cells #[.int .i64 k, .int .i64 n, .int .i64 d, .int .i64 v] 25)) := row_on HX5.out hb6
    have o6 := box4_cells HO6.out
    have x6 := box4_cells HX6.out
    clear hb6 HB5 HO5 HX5 o5
    go_wp2_with fail
    refine (I.drawRdO a len cap _ (code_on HC.out HB6.out)).mono ?_
    rintro e w7 ⟨t, rfl, ht, hb7⟩
    have HB7 : Hid (Below w1.heap.size w1 w7) := bel_on (Nat.le_refl _) HB6.out hb7
    clear hb7 HB6 HO6 HX6 o6 x6
    go_wp2_with fail
    refine (readoI t (by omega) _ (Q.tab_below HT.out HB7.out)).mono ?_
    rintro e w8 ⟨k8, n8, d8, v8, b8, rfl, hr8, hb8⟩
    unfold ordV
    have HR8 : Hid (RdOr t k8 n8 d8 v8 b8) := hr8
    have HB8 : Hid (Below w1.heap.size w1 (w8.alloc (.cells #[.int .i64 k8, .int .i64 n8, .int .i64 d8, .int .i64 v8] 25))) := bel_on (Nat.le_refl _) (bel_on (Nat.le_refl _) HB7.out hb8) (alQ _ _)
    have HY8 : Hid ((w8.alloc (.cells #[.int .i64 k8, .int .i64 n8, .int .i64 d8, .int .i64 v8] 25)).heap[w8.heap.size]? = some (.cells #[.int .i64 k8, .int .i64 n8, .int .i64 d8, .int .i64 v8] 25)) := heap_new w8 _
    clear hb8 hr8 HB7
    go_wp2_with fail
    refine (readoS t (by omega) _).mono ?_
    rintro e w9 ⟨k9, n9, d9, v9, b9, rfl, hr9, hb9⟩
    obtain ⟨rfl, rfl, rfl, rfl, rfl⟩ := HR8.out.uni hr9
    unfold ordV
    have HB9 : Hid (Below w1.heap.size w1 (w9.alloc (.cells #[.int .i64 k8, .int .i64 n8, .int .i64 d8, .int .i64 v8] 25))) := bel_on (Nat.le_refl _) (bel_on (Nat.le_refl _) HB8.out hb9) (alQ _ _)
    have HY9 : Hid ((w9.alloc (.cells #[.int .i64 k8, .int .i64 n8, .int .i64 d8, .int .i64 v8] 25)).heap[w8.heap.size]? = some (.cells #[.int .i64 k8, .int .i64 n8, .int .i64 d8, .int .i64 v8] 25)) := row_on (row_on HY8.out hb9) (alQ _ _)
    have y9 := box4_cells HY9.out
    clear hb9 hr9 HB8 HY8
    obtain ⟨u, c10, HK, HU⟩ := again HR8.out
    go_wp2_with fail
    refine (HK.out _ (Q.tab_below HT.out HB9.out)).mono ?_
    rintro e w10 ⟨rfl, hb10⟩
    have HB10 : Hid (Below w1.heap.size w1 w10) := bel_on (Nat.le_refl _) HB9.out hb10
    clear hb10 HB9 HY9 y9 HK
    go_wp2_with fail
    refine (places7 w1.heap.size a len cap _ (code_below HC.out HB10.out) HB10.out.size).mono ?_
    rintro e w11 ⟨g, cp, p0, p1, p2, p3, rfl, hp0, hp1, _, _, hg, c0, c1, _, _, _, hb11⟩
    have HB11 : Hid (Below w1.heap.size w1 w11) := bel_on (Nat.le_refl _) HB10.out hb11
    clear hb11 HB10
    go_wp2_with fail
    refine (turnedL s (by omega) g cp p0 p1 hp0 hp1 _ c0 c1).mono ?_
    rintro e w12 ⟨t2, rfl, ht2, htr, hb12⟩
    have HB12 : Hid (Below w1.heap.size w1 w12) := bel_on (Nat.le_refl _) HB11.out hb12
    have HTr : Hid (0 < s.size → Trn s t2) := htr
    clear hb12 HB11 c0 c1 hp0 hp1 htr
    go_wp2_with fail
    refine (readoI t2 (by omega) _ (Q.tab_below HT.out HB12.out)).mono ?_
    rintro e w13 ⟨kz, nz, dz, vz, bz, rfl, hrz, hbz⟩
    obtain rfl := HTn.out _ _ _ _ _ _ (HTr.out HS0.out) hrz
    unfold ordV
    have HB13 : Hid (Below w1.heap.size w1 (w13.alloc (.cells #[.int .i64 kz, .int .i64 nz, .int .i64 dz, .int .i64 vz] 25))) := bel_on (Nat.le_refl _) (bel_on (Nat.le_refl _) HB12.out hbz) (alQ _ _)
    clear hbz hrz HB12 HTr
    cases b8
    · go_wp2
      go_ret
      exact ⟨rfl, HB13.out⟩
    · obtain rfl := HU.out rfl
      go_wp2
      go_ret
      exact ⟨by simp, HB13.out⟩
  · obtain ⟨s, hs⟩ : ∃ s : ByteArray, s = ⟨#[]⟩ := ⟨_, rfl⟩
    have K3 : Hid (∀ w, Q.Tab w → Calls Tryd.prog 8 #[.agg #[.int .i64 k, .int .i64 n, .int .i64 d, .int .i64 v]] w fun e w' => e = .returned (.tuple #[.string s, .bool false]) ∧ Below w.heap.size w w') := fun w ht => by rw [hs]; exact textNoI k n d v hR w
    have KS : Hid (∀ w, Calls Tryd.prog 10 #[.agg #[.int .i64 k, .int .i64 n, .int .i64 d, .int .i64 v]] w fun e w' => e = .returned (.bool false) ∧ Below w.heap.size w w') := fun w => ordokS k n d v false ⟨fun h => (by cases h), fun h => absurd h hR⟩ w
    have KI : Hid (∀ w, Calls Tryd.prog 11 #[.agg #[.int .i64 k, .int .i64 n, .int .i64 d, .int .i64 v]] w fun e w' => e = .returned (.bool false) ∧ Below w.heap.size w w') := fun w => ordokI k n d v false ⟨fun h => (by cases h), fun h => absurd h hR⟩ w
    have hs1 : s.size ≤ 100 := by rw [hs]; decide
    clear hR hs
    go_wp2_with fail
    refine (K3.out _ (Q.tab_below HT.out HB2.out)).mono ?_
    rintro e w3 ⟨rfl, hb3⟩
    have HB3 : Hid (Below w1.heap.size w1 w3) := bel_on (Nat.le_refl _) HB2.out hb3
    have HO3 : Hid (w3.heap[w2.heap.size]? = some (.cells #[.int .i64 k, .int .i64 n, .int .i64 d, .int .i64 v] 25)) := row_on HO2.out hb3
    clear hb3 HB2 HO2 o2
    go_wp2_with fail
    refine (readoI s (by omega) _ (Q.tab_below HT.out HB3.out)).mono ?_
    rintro e w4 ⟨k4, n4, d4, v4, b4, rfl, hr4, hb4⟩
    unfold ordV
    have HB4 : Hid (Below w1.heap.size w1 (w4.alloc (.cells #[.int .i64 k4, .int .i64 n4, .int .i64 d4, .int .i64 v4] 25))) := bel_on (Nat.le_refl _) (bel_on (Nat.le_refl _) HB3.out hb4) (alQ _ _)
    have HO4 : Hid ((w4.alloc (.cells #[.int .i64 k4, .int .i64 n4, .int .i64 d4, .int .i64 v4] 25)).heap[w2.heap.size]? = some (.cells #[.int .i64 k, .int .i64 n, .int .i64 d, .int .i64 v] 25)) := row_on (row_on HO3.out hb4) (alQ _ _)
    have HX4 : Hid ((w4.alloc (.cells #[.int .i64 k4, .int .i64 n4, .int .i64 d4, .int .i64 v4] 25)).heap[w4.heap.size]? = some (.cells #[.int .i64 k4, .int .i64 n4, .int .i64 d4, .int .i64 v4] 25)) := heap_new w4 _
    have o4 := box4_cells HO4.out
    clear hb4 hr4 HB3 HO3
    go_wp2_with fail
    refine (KS.out _).mono ?_
    rintro e w5 ⟨rfl, hb5⟩
    have HB5 : Hid (Below w1.heap.size w1 w5) := bel_on (Nat.le_refl _) HB4.out hb5
    have HO5 : Hid (w5.heap[w2.heap.size]? = some (.cells #[.int .i64 k, .int .i64 n, .int .i64 d, .int .i64 v] 25)) := row_on HO4.out hb5
    have HX5 : Hid (w5.heap[w4.heap.size]? = some (.cells #[.int .i64 k4, .int .i64 n4, .int .i64 d4, .int .i64 v4] 25)) := row_on HX4.out hb5
    have o5 := box4_cells HO5.out
    clear hb5 HB4 HO4 HX4 o4
    go_wp2_with fail
    refine (KI.out _).mono ?_
    rintro e w6 ⟨rfl, hb6⟩
    have HB6 : Hid (Below w1.heap.size w1 w6) := bel_on (Nat.le_refl _) HB5.out hb6
    have HO6 : Hid (w6.heap[w2.heap.size]? = some (.cells #[.int .i64 k, .int .i64 n, .int .i64 d, .int .i64 v] 25)) := row_on HO5.out hb6
    have HX6 : Hid (w6.heap[w4.heap.size]? = some (.cells #[.int .i64 k4, .int .i64 n4, .int .i64 d4, .int .i64 v4] 25)) := row_on HX5.out hb6
    have o6 := box4_cells HO6.out
    have x6 := box4_cells HX6.out
    clear hb6 HB5 HO5 HX5 o5
    go_wp2_with fail
    refine (I.drawRdO a len cap _ (code_on HC.out HB6.out)).mono ?_
    rintro e w7 ⟨t, rfl, ht, hb7⟩
    have HB7 : Hid (Below w1.heap.size w1 w7) := bel_on (Nat.le_refl _) HB6.out hb7
    clear hb7 HB6 HO6 HX6 o6 x6
    go_wp2_with fail
    refine (readoI t (by omega) _ (Q.tab_below HT.out HB7.out)).mono ?_
    rintro e w8 ⟨k8, n8, d8, v8, b8, rfl, hr8, hb8⟩
    unfold ordV
    have HR8 : Hid (RdOr t k8 n8 d8 v8 b8) := hr8
    have HB8 : Hid (Below w1.heap.size w1 (w8.alloc (.cells #[.int .i64 k8, .int .i64 n8, .int .i64 d8, .int .i64 v8] 25))) := bel_on (Nat.le_refl _) (bel_on (Nat.le_refl _) HB7.out hb8) (alQ _ _)
    have HY8 : Hid ((w8.alloc (.cells #[.int .i64 k8, .int .i64 n8, .int .i64 d8, .int .i64 v8] 25)).heap[w8.heap.size]? = some (.cells #[.int .i64 k8, .int .i64 n8, .int .i64 d8, .int .i64 v8] 25)) := heap_new w8 _
    clear hb8 hr8 HB7
    go_wp2_with fail
    refine (readoS t (by omega) _).mono ?_
    rintro e w9 ⟨k9, n9, d9, v9, b9, rfl, hr9, hb9⟩
    obtain ⟨rfl, rfl, rfl, rfl, rfl⟩ := HR8.out.uni hr9
    unfold ordV
    have HB9 : Hid (Below w1.heap.size w1 (w9.alloc (.cells #[.int .i64 k8, .int .i64 n8, .int .i64 d8, .int .i64 v8] 25))) := bel_on (Nat.le_refl _) (bel_on (Nat.le_refl _) HB8.out hb9) (alQ _ _)
    have HY9 : Hid ((w9.alloc (.cells #[.int .i64 k8, .int .i64 n8, .int .i64 d8, .int .i64 v8] 25)).heap[w8.heap.size]? = some (.cells #[.int .i64 k8, .int .i64 n8, .int .i64 d8, .int .i64 v8] 25)) := row_on (row_on HY8.out hb9) (alQ _ _)
    have y9 := box4_cells HY9.out
    clear hb9 hr9 HB8 HY8
    obtain ⟨u, c10, HK, HU⟩ := again HR8.out
    go_wp2_with fail
    refine (HK.out _ (Q.tab_below HT.out HB9.out)).mono ?_
    rintro e w10 ⟨rfl, hb10⟩
    have HB10 : Hid (Below w1.heap.size w1 w10) := bel_on (Nat.le_refl _) HB9.out hb10
    clear hb10 HB9 HY9 y9 HK
    go_wp2_with fail
    refine (places7 w1.heap.size a len cap _ (code_below HC.out HB10.out) HB10.out.size).mono ?_
    rintro e w11 ⟨g, cp, p0, p1, p2, p3, rfl, hp0, hp1, _, _, hg, c0, c1, _, _, _, hb11⟩
    have HB11 : Hid (Below w1.heap.size w1 w11) := bel_on (Nat.le_refl _) HB10.out hb11
    clear hb11 HB10
    go_wp2_with fail
    refine (turnedL s (by omega) g cp p0 p1 hp0 hp1 _ c0 c1).mono ?_
    rintro e w12 ⟨t2, rfl, ht2, htr, hb12⟩
    have HB12 : Hid (Below w1.heap.size w1 w12) := bel_on (Nat.le_refl _) HB11.out hb12
    have HTr : Hid (0 < s.size → Trn s t2) := htr
    clear hb12 HB11 c0 c1 hp0 hp1 htr
    go_wp2_with fail
    refine (readoI t2 (by omega) _ (Q.tab_below HT.out HB12.out)).mono ?_
    rintro e w13 ⟨kz, nz, dz, vz, bz, rfl, hrz, hbz⟩
    unfold ordV
    have HB13 : Hid (Below w1.heap.size w1 (w13.alloc (.cells #[.int .i64 kz, .int .i64 nz, .int .i64 dz, .int .i64 vz] 25))) := bel_on (Nat.le_refl _) (bel_on (Nat.le_refl _) HB12.out hbz) (alQ _ _)
    clear hbz hrz HB12 HTr
    cases b8
    · go_wp2
      go_ret
      exact ⟨rfl, HB13.out⟩
    · obtain rfl := HU.out rfl
      go_wp2
      go_ret
      exact ⟨by simp, HB13.out⟩
end Go.Proofs.YticlbaopnbddbaaDoor
