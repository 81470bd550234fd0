/-
  OrderText and ReadOrder of the program.
-/
import Derived.Test.YticlbaopnbddbaaDoorOrdN
namespace Go.Proofs.YticlbaopnbddbaaDoor
open Go.RowKit Go.PlainAid Plain
set_option linter.unusedVariables false
set_option linter.unusedSimpArgs false

theorem rd_no {t : ByteArray} (h : Q.unsealed t = none) : RdOr t 0 0 0 0 false := .inr ⟨(fun k n d v hR e => by rw [uns_ord hR e] at h; exact absurd h (by simp)), rfl, rfl, rfl, rfl, rfl⟩
theorem rd_oi {t s : ByteArray} {k n d v : Int} (h : Q.unsealed t = some s) (ho : OI s k n d v) (hR : OrdR k n d v) : RdOr t k n d v true := .inl ⟨hR, by
  have e := ho.2 hR
  unfold ordT
  rw [e]
  exact (uns_some h).1.symm, rfl⟩
theorem rd_oi_no {t s : ByteArray} {k n d v : Int} (h : Q.unsealed t = some s) (ho : OI s k n d v) (hR : ¬ OrdR k n d v) : RdOr t 0 0 0 0 false := .inr ⟨(fun k' n' d' v' hR' e => by
  have e1 := uns_ord hR' e
  rw [h] at e1
  obtain ⟨rfl, rfl, rfl, rfl⟩ := ho.1 k' n' d' v' hR' (Option.some.inj e1).symm
  exact hR hR'), rfl, rfl, rfl, rfl, rfl⟩
theorem uns_small {t s : ByteArray} (h : Q.unsealed t = some s) : s.size ≤ 1048576 := by have := (uns_some h).2; omega

set_option maxRecDepth 100000 in
set_option maxHeartbeats 2000000 in
theorem readoI (t : ByteArray) (hs : t.size ≤ 1048576) (w : World) (ht : Q.Tab w) : Calls Tryd.prog 9 #[.string t] w fun e w' => ∃ (k n d v : Int) (b : Bool), e = .returned (.tuple #[ordV k n d v, .bool b]) ∧ RdOr t k n d v b ∧ Below w.heap.size w w' := by
  have HR0 : Hid ((w.alloc (.cells #[.int .i64 0, .int .i64 0, .int .i64 0, .int .i64 0] 25)).heap[w.heap.size]? = some (.cells #[.int .i64 0, .int .i64 0, .int .i64 0, .int .i64 0] 25)) := heap_new w _
  have K1 : Hid (Calls Tryd.prog 23 #[.string t] (w.alloc (.cells #[.int .i64 0, .int .i64 0, .int .i64 0, .int .i64 0] 25)) fun e w' => e = .returned (Q.encU (Q.unsealed t)) ∧ Below (w.alloc (.cells #[.int .i64 0, .int .i64 0, .int .i64 0, .int .i64 0] 25)).heap.size (w.alloc (.cells #[.int .i64 0, .int .i64 0, .int .i64 0, .int .i64 0] 25)) w') := Q.un5 t hs _ (Q.tab_below ht (alQ w _))
  clear ht
  rcases hU : Q.unsealed t with _ | s
  · have HRD : Hid (RdOr t 0 0 0 0 false) := rd_no hU
    have HS : Hid ((⟨#[]⟩ : ByteArray).size ≤ 1048576) := by show _ ≤ _; decide
    rw [hU] at K1
    clear hU
    go_enter Tryd.func9, Tryd.ntmps9
    go_wp2_with fail
    refine K1.out.mono ?_
    rintro e w1 ⟨rfl, hb1⟩
    have HB1 : Hid (Below w.heap.size w w1) := bel_on (Nat.le_refl _) (alQ _ _) hb1
    have HR1 : Hid (w1.heap[w.heap.size]? = some (.cells #[.int .i64 0, .int .i64 0, .int .i64 0, .int .i64 0] 25)) := row_on HR0.out hb1
    clear hb1 HR0 K1
    simp only [Q.encU]
    go_wp2_with fail
    refine (orderinI ⟨#[]⟩ HS.out _).mono ?_
    rintro e w2 ⟨k, n, d, v, rfl, ho, hb2⟩
    have HO : Hid (OI ⟨#[]⟩ k n d v) := ho
    have HB2 : Hid (Below w.heap.size w w2) := bel_on (Nat.le_refl _) HB1.out hb2
    have HR2 : Hid (w2.heap[w.heap.size]? = some (.cells #[.int .i64 0, .int .i64 0, .int .i64 0, .int .i64 0] 25)) := row_on HR1.out hb2
    have hlt := row_lt HR2.out
    unfold ordV
    clear hb2 HR1 HB1 ho
    have HBa : Hid (Below w.heap.size w (w2.alloc (.cells #[.int .i64 k, .int .i64 n, .int .i64 d, .int .i64 v] 25))) := bel_on (Nat.le_refl _) HB2.out (alQ _ _)
    have HRa : Hid ((w2.alloc (.cells #[.int .i64 k, .int .i64 n, .int .i64 d, .int .i64 v] 25)).heap[w.heap.size]? = some (.cells #[.int .i64 0, .int .i64 0, .int .i64 0, .int .i64 0] 25)) := row_on HR2.out (alQ _ _)
    have HKa : Hid ((w2.alloc (.cells #[.int .i64 k, .int .i64 n, .int .i64 d, .int .i64 v] 25)).heap[w2.heap.size]? = some (.cells #[.int .i64 k, .int .i64 n, .int .i64 d, .int .i64 v] 25)) := heap_new w2 _
    have ka := box4_cells HKa.out
    have kb := box4_cells HR2.out
    have kr := box4_cells HRa.out
    have HF : Hid (∀ o, Below w.heap.size w (((((w2.setCell ⟨w.heap.size, 0, none⟩ (.int .i64 0)).setCell ⟨w.heap.size, 1, none⟩ (.int .i64 0)).setCell ⟨w.heap.size, 2, none⟩ (.int .i64 0)).setCell ⟨w.heap.size, 3, none⟩ (.int .i64 0)).alloc o)) := fun o => ((((HB2.out.setCell (Nat.le_refl _) _).setCell (Nat.le_refl _) _).setCell (Nat.le_refl _) _).setCell (Nat.le_refl _) _).alloc (by have := HB2.out.size; simp; omega) o
    have hr : ((((w2.setCell ⟨w.heap.size, 0, none⟩ (.int .i64 0)).setCell ⟨w.heap.size, 1, none⟩ (.int .i64 0)).setCell ⟨w.heap.size, 2, none⟩ (.int .i64 0)).setCell ⟨w.heap.size, 3, none⟩ (.int .i64 0)).heap[w.heap.size]? = some (.cells #[.int .i64 0, .int .i64 0, .int .i64 0, .int .i64 0] 25) := set_row5 (set_row5 (set_row5 (set_row5 HR2.out 0 _) 1 _) 2 _) 3 _
    have HRf : Hid ((((((w2.setCell ⟨w.heap.size, 0, none⟩ (.int .i64 0)).setCell ⟨w.heap.size, 1, none⟩ (.int .i64 0)).setCell ⟨w.heap.size, 2, none⟩ (.int .i64 0)).setCell ⟨w.heap.size, 3, none⟩ (.int .i64 0)).alloc (.cells #[.int .i64 k, .int .i64 n, .int .i64 d, .int .i64 v] 25)).heap[w.heap.size]? = some (.cells #[.int .i64 0, .int .i64 0, .int .i64 0, .int .i64 0] 25)) := (Below.heap_alloc _ _ _ (row_lt hr)).trans hr
    clear hr
    go_wp2
    obtain ⟨⟨q0, q1, q2, q3⟩, _⟩ := box4_cells HRf.out
    refine bodyPost_ret (v := .tuple #[ordV 0 0 0 0, .bool false]) (by simp only [results, Tryd.results9]; simp [go_sem, q0, q1, q2, q3, ordV]) rfl ⟨0, 0, 0, 0, false, rfl, HRD.out, HF.out _⟩
  · have HU : Hid (Q.unsealed t = some s) := hU
    have HS : Hid (s.size ≤ 1048576) := uns_small hU
    rw [hU] at K1
    clear hU
    go_enter Tryd.func9, Tryd.ntmps9
    go_wp2_with fail
    refine K1.out.mono ?_
    rintro e w1 ⟨rfl, hb1⟩
    have HB1 : Hid (Below w.heap.size w w1) := bel_on (Nat.le_refl _) (alQ _ _) hb1
    have HR1 : Hid (w1.heap[w.heap.size]? = some (.cells #[.int .i64 0, .int .i64 0, .int .i64 0, .int .i64 0] 25)) := row_on HR0.out hb1
    clear hb1 HR0 K1
    simp only [Q.encU]
    go_wp2_with fail
    refine (orderinI s HS.out _).mono ?_
    rintro e w2 ⟨k, n, d, v, rfl, ho, hb2⟩
    have HO : Hid (OI s k n d v) := ho
    have HB2 : Hid (Below w.heap.size w w2) := bel_on (Nat.le_refl _) HB1.out hb2
    have HR2 : Hid (w2.heap[w.heap.size]? = some (.cells #[.int .i64 0, .int .i64 0, .int .i64 0, .int .i64 0] 25)) := row_on HR1.out hb2
    have hlt := row_lt HR2.out
    unfold ordV
    clear hb2 HR1 HB1 ho
    have HBa : Hid (Below w.heap.size w (w2.alloc (.cells #[.int .i64 k, .int .i64 n, .int .i64 d, .int .i64 v] 25))) := bel_on (Nat.le_refl _) HB2.out (alQ _ _)
    have HRa : Hid ((w2.alloc (.cells #[.int .i64 k, .int .i64 n, .int .i64 d, .int .i64 v] 25)).heap[w.heap.size]? = some (.cells #[.int .i64 0, .int .i64 0, .int .i64 0, .int .i64 0] 25)) := row_on HR2.out (alQ _ _)
    have HKa : Hid ((w2.alloc (.cells #[.int .i64 k, .int .i64 n, .int .i64 d, .int .i64 v] 25)).heap[w2.heap.size]? = some (.cells #[.int .i64 k, .int .i64 n, .int .i64 d, .int .i64 v] 25)) := heap_new w2 _
    have ka := box4_cells HKa.out
    have kb := box4_cells HR2.out
    have kr := box4_cells HRa.out
    by_cases hR : OrdR k n d v
    · have HRD : Hid (RdOr t k n d v true) := rd_oi HU.out HO.out hR
      have HO1 : Hid (∀ w, Calls Tryd.prog 11 #[.agg #[.int .i64 k, .int .i64 n, .int .i64 d, .int .i64 v]] w fun e w' => e = .returned (.bool true) ∧ Below w.heap.size w w') := fun w => ordokI k n d v true ⟨fun _ => hR, fun _ => rfl⟩ w
      clear hR HO HU
      go_wp2_with fail
      refine (HO1.out _).mono ?_
      rintro e w3 ⟨rfl, hb3⟩
      have HB3 : Hid (Below w.heap.size w w3) := bel_on (Nat.le_refl _) HBa.out hb3
      have HR3 : Hid (w3.heap[w.heap.size]? = some (.cells #[.int .i64 0, .int .i64 0, .int .i64 0, .int .i64 0] 25)) := row_on HRa.out hb3
      have HK3 : Hid (w3.heap[w2.heap.size]? = some (.cells #[.int .i64 k, .int .i64 n, .int .i64 d, .int .i64 v] 25)) := row_on HKa.out hb3
      have HF : Hid (Below w.heap.size w ((((w3.setCell ⟨w.heap.size, 0, none⟩ (.int .i64 k)).setCell ⟨w.heap.size, 1, none⟩ (.int .i64 n)).setCell ⟨w.heap.size, 2, none⟩ (.int .i64 d)).setCell ⟨w.heap.size, 3, none⟩ (.int .i64 v))) := ((((HB3.out.setCell (Nat.le_refl _) _).setCell (Nat.le_refl _) _).setCell (Nat.le_refl _) _).setCell (Nat.le_refl _) _)
      have k3 := box4_cells HK3.out
      have kr3 := box4_cells HR3.out
      clear hb3 HBa HRa HKa ka kr kb HB2 HR2
      go_wp2
      refine bodyPost_ret (v := .tuple #[ordV k n d v, .bool true]) (by simp [results, Tryd.results9, go_sem, kr3, ordV]) rfl ⟨k, n, d, v, true, rfl, HRD.out, HF.out⟩
    · have HRD : Hid (RdOr t 0 0 0 0 false) := rd_oi_no HU.out HO.out hR
      have HO1 : Hid (∀ w, Calls Tryd.prog 11 #[.agg #[.int .i64 k, .int .i64 n, .int .i64 d, .int .i64 v]] w fun e w' => e = .returned (.bool false) ∧ Below w.heap.size w w') := fun w => ordokI k n d v false ⟨fun h => (by cases h), fun h => absurd h hR⟩ w
      clear hR HO HU
      go_wp2_with fail
      refine (HO1.out _).mono ?_
      rintro e w3 ⟨rfl, hb3⟩
      have HB3 : Hid (Below w.heap.size w w3) := bel_on (Nat.le_refl _) HBa.out hb3
      have HR3 : Hid (w3.heap[w.heap.size]? = some (.cells #[.int .i64 0, .int .i64 0, .int .i64 0, .int .i64 0] 25)) := row_on HRa.out hb3
      have HF : Hid (Below w.heap.size w ((((w3.setCell ⟨w.heap.size, 0, none⟩ (.int .i64 0)).setCell ⟨w.heap.size, 1, none⟩ (.int .i64 0)).setCell ⟨w.heap.size, 2, none⟩ (.int .i64 0)).setCell ⟨w.heap.size, 3, none⟩ (.int .i64 0))) := ((((HB3.out.setCell (Nat.le_refl _) _).setCell (Nat.le_refl _) _).setCell (Nat.le_refl _) _).setCell (Nat.le_refl _) _)
      have kr3 := box4_cells HR3.out
      clear hb3 HBa HRa HKa ka kr kb HB2 HR2
      go_wp2
      refine bodyPost_ret (v := .tuple #[ordV 0 0 0 0, .bool false]) (by simp [results, Tryd.results9, go_sem, kr3, ordV]) rfl ⟨0, 0, 0, 0, false, rfl, HRD.out, HF.out⟩

theorem own_ltO {w : World} {B e z n : Nat} {v : Value} {xs : List Value} (h : w.ownsRow B e z v n xs) : ∀ g, v.ownBlock = some g → g < w.heap.size := fun k hk => (h.lt k hk).2
theorem own_geO {w : World} {B e z n : Nat} {v : Value} {xs : List Value} (h : w.ownsRow B e z v n xs) : ∀ g, v.ownBlock = some g → B ≤ g := fun k hk => (h.lt k hk).1
theorem own_keepO {w w' : World} {B C e z n : Nat} {v : Value} {xs : List Value} (h : w.ownsRow B e z v n xs) (hb : Below C w w') (hlt : ∀ g, v.ownBlock = some g → g < C) : w'.ownsRow B e z v n xs := by
  refine ⟨h.1, ?_⟩
  rcases h.2 with h2 | ⟨g, cap, cur, rfl, hg, hh, h3⟩
  · exact .inl h2
  · exact .inr ⟨g, cap, cur, rfl, hg, by rw [hb.block g (hlt g rfl)]; exact hh, h3⟩
def txV (t : ByteArray) : List Value := V.bytesV t.data.toList
theorem txV_app (a b : ByteArray) : txV (a ++ b) = txV a ++ Lib.strCells b := by
  unfold txV V.bytesV Lib.strCells
  simp [ByteArray.data_append]
theorem var10' (x : Int) (h0 : 0 ≤ x) (h1 : x ≤ 1000000000) (w : World) : Calls Tryd.prog 21 #[.int .i64 x] w fun e w' => e = .returned (.tuple #[.string (vB x), .bool true]) ∧ Below w.heap.size w w' := by
  obtain ⟨n, rfl⟩ := Int.eq_ofNat_of_zero_le h0
  exact V.var10 n (by omega) w
theorem kind_row (k : Int) (h1 : 1 ≤ k) (h6 : k ≤ 6) : [Value.int .u8 k] = txV (kB k) := by
  obtain ⟨n, rfl⟩ := Int.eq_ofNat_of_zero_le (show 0 ≤ k by omega)
  unfold txV kB V.bytesV
  simp
  omega

set_option maxRecDepth 100000 in
set_option maxHeartbeats 1000000 in
theorem textNoI (k n d v : Int) (hR : ¬ OrdR k n d v) (w : World) : Calls Tryd.prog 8 #[ordV k n d v] w fun e w' => e = .returned (.tuple #[.string ⟨#[]⟩, .bool false]) ∧ Below w.heap.size w w' := by
  have HO1 : Hid (∀ w, Calls Tryd.prog 11 #[.agg #[.int .i64 k, .int .i64 n, .int .i64 d, .int .i64 v]] w fun e w' => e = .returned (.bool false) ∧ Below w.heap.size w w') := fun w => ordokI k n d v false ⟨fun h => (by cases h), fun h => absurd h hR⟩ w
  have HB0 : Hid (Below w.heap.size w (w.alloc (.cells #[.int .i64 k, .int .i64 n, .int .i64 d, .int .i64 v] 25))) := alQ _ _
  have HK0 : Hid ((w.alloc (.cells #[.int .i64 k, .int .i64 n, .int .i64 d, .int .i64 v] 25)).heap[w.heap.size]? = some (.cells #[.int .i64 k, .int .i64 n, .int .i64 d, .int .i64 v] 25)) := heap_new w _
  have k0 := box4_cells HK0.out
  unfold ordV
  clear hR
  go_enter Tryd.func8, Tryd.ntmps8
  go_wp2_with fail
  refine (HO1.out _).mono ?_
  rintro e w1 ⟨rfl, hb1⟩
  have HB1 : Hid (Below w.heap.size w w1) := bel_on (Nat.le_refl _) HB0.out hb1
  clear hb1 HB0 HK0 k0
  go_wp2
  go_ret2
  exact ⟨rfl, HB1.out⟩

set_option maxRecDepth 100000 in
set_option maxHeartbeats 2000000 in
theorem textI (k n d v : Int) (hR : OrdR k n d v) (w : World) (ht : Q.Tab w) : Calls Tryd.prog 8 #[ordV k n d v] w fun e w' => e = .returned (.tuple #[.string (ordT k n d v), .bool true]) ∧ Below w.heap.size w w' := by
  obtain ⟨i0, hi, hz0, hz1, hz2⟩ := info_parts V.info5
  have HO1 : Hid (∀ w, Calls Tryd.prog 11 #[.agg #[.int .i64 k, .int .i64 n, .int .i64 d, .int .i64 v]] w fun e w' => e = .returned (.bool true) ∧ Below w.heap.size w w') := fun w => ordokI k n d v true ⟨fun _ => hR, fun _ => rfl⟩ w
  have HQ : Hid (Q.Tab w) := ht
  have HB0 : Hid (Below w.heap.size w (w.alloc (.cells #[.int .i64 k, .int .i64 n, .int .i64 d, .int .i64 v] 25))) := alQ _ _
  have HK0 : Hid ((w.alloc (.cells #[.int .i64 k, .int .i64 n, .int .i64 d, .int .i64 v] 25)).heap[w.heap.size]? = some (.cells #[.int .i64 k, .int .i64 n, .int .i64 d, .int .i64 v] 25)) := heap_new w _
  have k0 := box4_cells HK0.out
  have hbd := hR.bd
  obtain ⟨⟨hk1, hk6⟩, ⟨hn0, hn1'⟩, ⟨hd0, hd1'⟩, hv0, hv1'⟩ := hbd
  have hn1 : n ≤ 1000000000 := by omega
  have hd1 : d ≤ 1000000000 := by omega
  have hv1 : v ≤ 1000000000 := by omega
  have hkw : IntKind.u8.wrap k = k := by
    have : IntKind.u8.wrap k = k % 256 := rfl
    omega
  unfold ordV
  clear hR ht
  go_enter Tryd.func8, Tryd.ntmps8
  go_wp2_with fail
  refine (HO1.out _).mono ?_
  rintro e w1 ⟨rfl, hb1⟩
  have HB1 : Hid (Below w.heap.size w w1) := bel_on (Nat.le_refl _) HB0.out hb1
  have HK1 : Hid (w1.heap[w.heap.size]? = some (.cells #[.int .i64 k, .int .i64 n, .int .i64 d, .int .i64 v] 25)) := row_on HK0.out hb1
  have k1 := box4_cells HK1.out
  clear hb1 HB0 HK0 k0
  have HKs0 : Hid ((w1.alloc (.cells #[.int .u8 k] 5)).heap[w.heap.size]? = some (.cells #[.int .i64 k, .int .i64 n, .int .i64 d, .int .i64 v] 25)) := row_on HK1.out (alQ _ _)
  have ks0 := box4_cells HKs0.out
  have HBs0 : Hid (Below w.heap.size w (w1.alloc (.cells #[.int .u8 k] 5))) := bel_on (Nat.le_refl _) HB1.out (alQ _ _)
  have HOs0 : Hid ((w1.alloc (.cells #[.int .u8 k] 5)).ownsRow w.heap.size 5 1 (.slice (some ⟨w1.heap.size, 0, none⟩) 1 1) (kB k).size (txV (kB k))) := by
    show World.ownsRow _ _ _ _ _ _ _
    rw [← kind_row k hk1 hk6]
    exact ⟨rfl, Or.inr ⟨_, 1, #[.int .u8 k], rfl, HB1.out.size, heap_new w1 _, Nat.le_refl _, by decide, rfl, rfl⟩⟩
  obtain ⟨T0, hT0⟩ : ∃ T, kB k = T := ⟨_, rfl⟩
  have HT0 : Hid (T0.size ≤ 1) := by show _ ≤ _; rw [← hT0]; exact Nat.le_refl _
  have HE0 : Hid (kB k = T0) := hT0
  rw [hT0] at HOs0
  clear hT0 HK1 HB1 HKs0
  go_wp2
  clear ks0 k1
  have x0 : ∀ w : World, (Instr.index 44 (.agg #[.int .i64 n, .int .i64 d, .int .i64 v]) (.int .i64 0)).run Tryd.prog w = .ok (.int .i64 n) w := fun _ => by kernel_rfl
  have x1 : ∀ w : World, (Instr.index 44 (.agg #[.int .i64 n, .int .i64 d, .int .i64 v]) (.int .i64 1)).run Tryd.prog w = .ok (.int .i64 d) w := fun _ => by kernel_rfl
  have x2 : ∀ w : World, (Instr.index 44 (.agg #[.int .i64 n, .int .i64 d, .int .i64 v]) (.int .i64 2)).run Tryd.prog w = .ok (.int .i64 v) w := fun _ => by kernel_rfl
  refine wp_loop_rounds 4 ?_
  rw [rounds_succ]
  go_wp2_with fail
  refine (var10' n hn0 hn1 _).mono ?_
  rintro e a1 ⟨rfl, hb1⟩
  have HB1 : Hid (Below w.heap.size w a1) := bel_on (Nat.le_refl _) HBs0.out hb1
  have HO1 : Hid (a1.ownsRow w.heap.size 5 1 (.slice (some ⟨w1.heap.size, 0, none⟩) 1 1) T0.size (txV T0)) := own_keepO HOs0.out hb1 (own_ltO HOs0.out)
  have hv1 := vB_size (n := n) hn1
  have ht1 := HT0.out
  have hl1 := HB1.out.size
  clear hb1 HBs0 HOs0
  go_wp2_with (at_builtin; refine Lib.wpList_append_own_string _ rfl _ _ 22 9 rfl w.heap.size 5 i0 Tryd.underlying22 Tryd.underlying9 hi hz0 hz1 hz2 _ _ _ rfl HO1.out _ rfl ?c1 ?c2 ?c3 ?_)
  case c1 => unfold maxLen; omega
  case c2 => omega
  case c3 => omega
  intro u1 b1 ho1 hg1 _
  obtain ⟨T1, hT1⟩ : ∃ T, T0 ++ vB n = T := ⟨_, rfl⟩
  have HOs1 : Hid (b1.ownsRow w.heap.size 5 1 u1 T1.size (txV T1)) := by
    show World.ownsRow _ _ _ _ _ _ _
    rw [← hT1, ByteArray.size_append, txV_app]
    exact ho1
  have HBs1 : Hid (Below w.heap.size w b1) := HB1.out.trans (((Below.refl w.heap.size a1).grown hg1 HB1.out.size (fun j hj => own_geO HO1.out j hj)))
  have HT1 : Hid (T1.size ≤ 6) := by
    show _ ≤ _
    rw [← hT1, ByteArray.size_append]
    omega
  have HE1 : Hid (T0 ++ vB n = T1) := hT1
  clear ho1 hg1 hT1 HO1 HB1 ht1 hv1 HT0
  go_wp2
  rw [rounds_succ]
  go_wp2_with fail
  refine (var10' d hd0 hd1 _).mono ?_
  rintro e a2 ⟨rfl, hb2⟩
  have HB2 : Hid (Below w.heap.size w a2) := bel_on (Nat.le_refl _) HBs1.out hb2
  have HO2 : Hid (a2.ownsRow w.heap.size 5 1 u1 T1.size (txV T1)) := own_keepO HOs1.out hb2 (own_ltO HOs1.out)
  have hv2 := vB_size (n := d) hd1
  have ht2 := HT1.out
  have hl2 := HB2.out.size
  clear hb2 HBs1 HOs1
  go_wp2_with (at_builtin; refine Lib.wpList_append_own_string _ rfl _ _ 22 9 rfl w.heap.size 5 i0 Tryd.underlying22 Tryd.underlying9 hi hz0 hz1 hz2 _ _ _ rfl HO2.out _ rfl ?c1 ?c2 ?c3 ?_)
  case c1 => unfold maxLen; omega
  case c2 => omega
  case c3 => omega
  intro u2 b2 ho2 hg2 _
  obtain ⟨T2, hT2⟩ : ∃ T, T1 ++ vB d = T := ⟨_, rfl⟩
  have HOs2 : Hid (b2.ownsRow w.heap.size 5 1 u2 T2.size (txV T2)) := by
    show World.ownsRow _ _ _ _ _ _ _
    rw [← hT2, ByteArray.size_append, txV_app]
    exact ho2
  have HBs2 : Hid (Below w.heap.size w b2) := HB2.out.trans (((Below.refl w.heap.size a2).grown hg2 HB2.out.size (fun j hj => own_geO HO2.out j hj)))
  have HT2 : Hid (T2.size ≤ 11) := by
    show _ ≤ _
    rw [← hT2, ByteArray.size_append]
    omega
  have HE2 : Hid (T1 ++ vB d = T2) := hT2
  clear ho2 hg2 hT2 HO2 HB2 ht2 hv2 HT1
  go_wp2
  rw [rounds_succ]
  go_wp2_with fail
  refine (var10' v hv0 hv1 _).mono ?_
  rintro e a3 ⟨rfl, hb3⟩
  have HB3 : Hid (Below w.heap.size w a3) := bel_on (Nat.le_refl _) HBs2.out hb3
  have HO3 : Hid (a3.ownsRow w.heap.size 5 1 u2 T2.size (txV T2)) := own_keepO HOs2.out hb3 (own_ltO HOs2.out)
  have hv3 := vB_size (n := v) hv1
  have ht3 := HT2.out
  have hl3 := HB3.out.size
  clear hb3 HBs2 HOs2
  go_wp2_with (at_builtin; refine Lib.wpList_append_own_string _ rfl _ _ 22 9 rfl w.heap.size 5 i0 Tryd.underlying22 Tryd.underlying9 hi hz0 hz1 hz2 _ _ _ rfl HO3.out _ rfl ?c1 ?c2 ?c3 ?_)
  case c1 => unfold maxLen; omega
  case c2 => omega
  case c3 => omega
  intro u3 b3 ho3 hg3 _
  obtain ⟨T3, hT3⟩ : ∃ T, T2 ++ vB v = T := ⟨_, rfl⟩
  have HOs3 : Hid (b3.ownsRow w.heap.size 5 1 u3 T3.size (txV T3)) := by
    show World.ownsRow _ _ _ _ _ _ _
    rw [← hT3, ByteArray.size_append, txV_app]
    exact ho3
  have HBs3 : Hid (Below w.heap.size w b3) := HB3.out.trans (((Below.refl w.heap.size a3).grown hg3 HB3.out.size (fun j hj => own_geO HO3.out j hj)))
  have HT3 : Hid (T3.size ≤ 16) := by
    show _ ≤ _
    rw [← hT3, ByteArray.size_append]
    omega
  have HE3 : Hid (T2 ++ vB v = T3) := hT3
  clear ho3 hg3 hT3 HO3 HB3 ht3 hv3 HT2
  go_wp2
  rw [rounds_succ]
  obtain ⟨g, cap, hu, hcv⟩ := V.own_string (xs := T3.data.toList) (by rw [← V.size_list]; exact HOs3.out) (by
    rw [← V.size_list, ← HE3.out, ← HE2.out, ← HE1.out, ← HE0.out, ByteArray.size_append, ByteArray.size_append, ByteArray.size_append, kB_size]
    omega)
  have HD : Hid (ordT k n d v = T3 ++ Q.sigil T3) := by
    show _ = _
    unfold ordT ordB
    rw [HE0.out, HE1.out, HE2.out, HE3.out]
  have HQ3 : Hid (Q.Tab b3) := Q.tab_below HQ.out HBs3.out
  have hs3 := HT3.out
  have HX : Hid ((convert 22 9 u3).run Tryd.prog b3 = .ok (.string T3) b3) := hcv
  clear hcv HOs3 HE0 HE1 HE2 HE3 HQ HT3
  obtain ⟨L, hL⟩ : ∃ L, T3.data.toList.length = L := ⟨_, rfl⟩
  rw [hL] at hu
  subst hu
  have hx := HX.out
  clear hL
  go_wp2_with fail
  refine (Q.sealI T3 (by omega) _ HQ3.out).mono ?_
  rintro e b4 ⟨rfl, hb4⟩
  have HB4 : Hid (Below w.heap.size w b4) := bel_on (Nat.le_refl _) HBs3.out hb4
  obtain ⟨Z, hZ⟩ : ∃ Z, T3 ++ Q.sigil T3 = Z := ⟨_, rfl⟩
  rw [hZ]
  have HZ : Hid (T3 ++ Q.sigil T3 = Z) := hZ
  clear hb4 hx HX hZ
  go_wp2
  go_ret2
  exact ⟨by rw [HD.out, HZ.out]; rfl, HB4.out⟩
end Go.Proofs.YticlbaopnbddbaaDoor
