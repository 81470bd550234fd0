/-
  Guards, in a namespace of their own.
-/
import Derived.Test.YtfhhnelffldggaaGreatDoorUqAT
import Derived.Test.YtfhhnelffldggaaGreatDoorUqAC
import Derived.Test.YtfhhnelffldggaaGreatDoorUqAE
import Derived.Test.YtfhhnelffldggaaGreatDoorUqAG
set_option maxRecDepth 100000
set_option maxHeartbeats 16000000
namespace Go.Proofs.YtfhhnelffldggaaGreatDoor.G
open Go.RowKit Go.PlainAid
set_option linter.unusedVariables false
theorem letG_bd {l : List Int} {al : Int} (h : GdR l al) (x : Int) : 0 ≤ letG l x ∧ letG l x ≤ 30 - sumN l ∧ letG l x ≤ 30 := by
  have h1 := sumN_bd h.2.2.1
  have h2 := h.2.2.2
  unfold letG
  omega
theorem sumN_cut {l : List Int} (h : ∀ i (h : i < l.length), 0 ≤ l[i] ∧ l[i] ≤ 30) (m : Nat) : sumN (l.take m) ≤ sumN l := by
  have e : l.take m ++ l.drop m = l := List.take_append_drop m l
  have h1 : 0 ≤ sumN (l.drop m) := (sumN_bd (fun i hi => by
    rw [List.getElem_drop]
    exact h _ (by simp at hi; omega))).1
  have h2 : sumN (l.take m ++ l.drop m) = sumN (l.take m) + sumN (l.drop m) := sumN_app _ _
  rw [e] at h2
  omega
theorem gd_cons {l : List Int} {al v : Int} (h : GdR l al) (hv : 0 ≤ v ∧ v ≤ 30) : ∀ i (h : i < (v :: l).length), 0 ≤ (v :: l)[i] ∧ (v :: l)[i] ≤ 30 := by
  intro i hi
  cases i with
  | zero => exact hv
  | succ i => simpa using h.2.2.1 i (by simpa using hi)
theorem pass_ok {l : List Int} {al : Int} (h : GdR l al) (x : Int) : GdR ((letG l x :: l).take 9) al := by
  have hv := letG_bd h x
  have hc := gd_cons h ⟨hv.1, hv.2.2⟩
  refine ⟨by simp; omega, h.2.1, fun i hi => ?_, ?_⟩
  · rw [List.getElem_take]
    exact hc i (by simp at hi ⊢; omega)
  · have h1 := sumN_cut hc 9
    have h2 : sumN (letG l x :: l) = letG l x + sumN l := rfl
    omega
theorem passL_ok {l : List Int} {al : Int} (h : GdR l al) (b : Bool) (x : Int) : GdR (passL b l x) al := by
  unfold passL
  cases b
  · simpa using h
  · simpa using pass_ok h x
theorem feel_ok {l : List Int} {al : Int} (h : GdR l al) (b : Bool) (x : Int) (s : Bool) : GdR l (feelA b al x s) := by
  refine ⟨h.1, ?_, h.2.2.1, h.2.2.2⟩
  have h1 := h.2.1
  have h2 := orI_bd al x
  unfold feelA
  split
  · rename_i hh
    split
    · exact hh.2
    · exact h2
  · exact h1
theorem gd_new : GdR [] 0 := ⟨by simp, by omega, fun i h => by simp at h, by simp [sumN]⟩
def GOwn (W : World) (B : Nat) (q : Option Addr) (n c : Nat) (l : List Int) : Prop := (q = none ∧ n = 0 ∧ c = 0 ∧ l = []) ∨ ∃ g, q = some ⟨g, 0, none⟩ ∧ OwnN W B g n c l
theorem GOwn.rd {W : World} {B : Nat} {q : Option Addr} {n c : Nat} {l : List Int} (h : GOwn W B q n c l) : Rd W q l := by
  rcases h with ⟨_, _, _, rfl⟩ | ⟨g, rfl, h⟩
  · intro h; simp at h
  · exact h.rd
theorem GOwn.nn {W : World} {B : Nat} {q : Option Addr} {n c : Nat} {l : List Int} (h : GOwn W B q n c l) : q = none → n = 0 ∧ c = 0 := by
  rcases h with ⟨_, h1, h2, _⟩ | ⟨g, rfl, h⟩
  · exact fun _ => ⟨h1, h2⟩
  · intro e; cases e
theorem GOwn.len {W : World} {B : Nat} {q : Option Addr} {n c : Nat} {l : List Int} (h : GOwn W B q n c l) : l.length = n := by
  rcases h with ⟨_, rfl, _, rfl⟩ | ⟨g, rfl, h⟩
  · rfl
  · exact h.len
theorem GOwn.on {W W' : World} {B : Nat} {q : Option Addr} {n c : Nat} {l : List Int} (h : GOwn W B q n c l) (hb : Below W.heap.size W W') : GOwn W' B q n c l := by
  rcases h with h | ⟨g, rfl, h⟩
  · exact .inl h
  · exact .inr ⟨g, rfl, h.on hb⟩
theorem GOwn.grown {W W' : World} {B C : Nat} {q : Option Addr} {n c : Nat} {l : List Int} (h : GOwn W B q n c l) (hg : W.grownBy W' (some C)) (hC : C < B) : GOwn W' B q n c l := by
  rcases h with h | ⟨g, rfl, h⟩
  · exact .inl h
  · exact .inr ⟨g, rfl, h.grown hg (by have := h.ge; omega)⟩
theorem GOwn.far {W W' : World} {B : Nat} {q : Option Addr} {n c : Nat} {l : List Int} (h : GOwn W B q n c l) (hk : ∀ k, B ≤ k → W'.heap[k]? = W.heap[k]?) : GOwn W' B q n c l := by
  rcases h with h | ⟨g, rfl, h⟩
  · exact .inl h
  · exact .inr ⟨g, rfl, own_same h (hk g h.ge)⟩
theorem sumN_rev (l : List Int) : sumN l.reverse = sumN l := by
  induction l with
  | nil => rfl
  | cons x l ih =>
    rw [List.reverse_cons, sumN_app, ih]
    simp only [sumN]
    omega
def AllR (l : List Int) : Prop := ∀ x ∈ l, 0 ≤ x ∧ x ≤ 30
theorem AllR.take {l : List Int} (h : AllR l) (m : Nat) : AllR (l.take m) := fun x hx => h x (List.mem_of_mem_take hx)
theorem AllR.drop {l : List Int} (h : AllR l) (m : Nat) : AllR (l.drop m) := fun x hx => h x (List.mem_of_mem_drop hx)
end Go.Proofs.YtfhhnelffldggaaGreatDoor.G
namespace Go.Proofs.YtfhhnelffldggaaGreatDoor
open Go.RowKit Go.PlainAid
set_option linter.unusedVariables false
set_option linter.unusedSimpArgs false
theorem box17_cells {w : World} {k : Nat} {t : TypeId} {u0 u1 u2 u3 u4 u5 u6 u7 u8 u9 u10 u11 u12 u13 u14 u15 u16 : Value} (h : w.heap[k]? = some (.cells #[u0, u1, u2, u3, u4, u5, u6, u7, u8, u9, u10, u11, u12, u13, u14, u15, u16] t)) : w.cell? ⟨k, 0, none⟩ = some u0 ∧ w.cell? ⟨k, 1, none⟩ = some u1 ∧ w.cell? ⟨k, 2, none⟩ = some u2 ∧ w.cell? ⟨k, 3, none⟩ = some u3 ∧ w.cell? ⟨k, 4, none⟩ = some u4 ∧ w.cell? ⟨k, 5, none⟩ = some u5 ∧ w.cell? ⟨k, 6, none⟩ = some u6 ∧ w.cell? ⟨k, 7, none⟩ = some u7 ∧ w.cell? ⟨k, 8, none⟩ = some u8 ∧ w.cell? ⟨k, 9, none⟩ = some u9 ∧ w.cell? ⟨k, 10, none⟩ = some u10 ∧ w.cell? ⟨k, 11, none⟩ = some u11 ∧ w.cell? ⟨k, 12, none⟩ = some u12 ∧ w.cell? ⟨k, 13, none⟩ = some u13 ∧ w.cell? ⟨k, 14, none⟩ = some u14 ∧ w.cell? ⟨k, 15, none⟩ = some u15 ∧ w.cell? ⟨k, 16, none⟩ = some u16 := by
  refine ⟨?_, ?_, ?_, ?_, ?_, ?_, ?_, ?_, ?_, ?_, ?_, ?_, ?_, ?_, ?_, ?_, ?_⟩ <;> simp [World.cell?, h]
def devB (P Q M : Bool) (tn : Nat) (rf : Int) : Bool := P && Q && M && decide ((tn : Int) ≤ 200) && decide (0 ≤ rf ∧ rf ≤ 1000000000)
theorem deviceokS (p : Pm) (a : Option Addr) (n cap : Nat) (l : List Int) (al : Int) (m : Mn) (ta : Option Addr) (tn tc : Nat) (rf : Int) (P Gk Mk : Bool) (hP : P = true ↔ p.ok) (hG : Gk = true ↔ G.GdR l al) (hM : okM m = Mk) (B : Bool) (hB : devB P Gk Mk tn rf = B) (hl : l.length = n) (hn : n ≤ 9223372036854775807) (ht : tn ≤ 9223372036854775807) (w : World) (hr : G.Rd w a l) :
    Calls Tryz.prog 37 #[.agg #[.int .i64 p.s, .int .i64 p.n, .int .i64 p.d, .int .i64 p.r, .int .i64 p.l, .int .i64 p.b, .int .i64 p.g, .int .i64 p.k, .slice a n cap, .int .i64 al, .int .i64 m.a, .bool m.b, .int .i64 m.n, .int .i64 m.d, .string ⟨m.s.toArray⟩, .slice ta tn tc, .int .i64 rf]] w fun e w' => e = .returned (.bool B) ∧ Below w.heap.size w w' := by
  have HG := hq hG
  have HP := hq hP
  have HM := hq hM
  have HB := hq hB
  have HL := hq hl
  have HX0 : Hid ((w.alloc (dO p (.slice a n cap) al m (.slice ta tn tc) rf)).heap[w.heap.size]? = some (dO p (.slice a n cap) al m (.slice ta tn tc) rf)) := heap_new w _
  have HW0 : Hid (Below w.heap.size w (w.alloc (dO p (.slice a n cap) al m (.slice ta tn tc) rf))) := alM _ _
  have HR0 : Hid (G.Rd (w.alloc (dO p (.slice a n cap) al m (.slice ta tn tc) rf)) a l) := hr.keep HW0.out (Nat.le_refl _)
  have c0 := box17_cells HX0.out
  clear hG hP hM hB hl hr
  go_enter Tryz.func37, Tryz.ntmps37
  go_wp2_with fail
  refine (pumpokS p P HP.out _).mono ?_
  rintro e w1 ⟨rfl, hb1⟩
  have HX1 := rq HX0 hb1
  have HW1 := bq HW0 hb1
  have HR1 := hq (HR0.out.keep hb1 (Nat.le_refl _))
  have c1 := box17_cells HX1.out
  clear hb1 HX0 HW0 HR0 c0
  cases P
  · obtain rfl : false = B := HB.out
    go_wp2
    go_ret
    exact ⟨rfl, HW1.out⟩
  go_wp2_with fail
  refine (G.guardokS a al l n cap Gk HL.out hn HG.out _ HR1.out).mono ?_
  rintro e w2 ⟨rfl, hb1⟩
  have HX2 := rq HX1 hb1
  have HW2 := bq HW1 hb1
  have c2 := box17_cells HX2.out
  clear hb1 HX1 HW1 HR1 c1
  cases Gk
  · obtain rfl : false = B := HB.out
    go_wp2
    go_ret
    exact ⟨rfl, HW2.out⟩
  go_wp2_with fail
  refine (menuokS m Mk HM.out _).mono ?_
  rintro e w3 ⟨rfl, hb1⟩
  have HX3 := rq HX2 hb1
  have HW3 := bq HW2 hb1
  have c3 := box17_cells HX3.out
  clear hb1 HX2 HW2 c2
  cases Mk
  · obtain rfl : false = B := HB.out
    go_wp2
    go_ret
    exact ⟨rfl, HW3.out⟩
  by_cases h2 : (tn : Int) ≤ 200
  case neg =>
    obtain rfl : false = B := by rw [← HB.out]; unfold devB; rw [decide_eq_false h2]; rfl
    go_wp2
    go_ret
    exact ⟨rfl, HW3.out⟩
  obtain ⟨R, hR⟩ : ∃ R, decide (0 ≤ rf ∧ rf ≤ 1000000000) = R := ⟨_, rfl⟩
  have HRF := hq hR
  obtain rfl : R = B := by rw [← HB.out]; unfold devB; rw [decide_eq_true h2, hR]; rfl
  clear hR
  go_wp2_with fail
  refine (inS 0 1000000000 rf R HRF.out _).mono ?_
  rintro e w4 ⟨rfl, hw⟩
  obtain rfl : w3 = w4 := hw.symm
  clear hw
  go_wp2
  go_ret
  exact ⟨rfl, HW3.out⟩
theorem takeS_3_0 (n d r l b g k N D V : Int) (hp : Pm.ok ⟨0, n, d, r, l, b, g, k⟩) (ho : OrdR 3 N D V) (w : World) : Calls Tryz.prog 52 #[PV 0 n d r l b g k, .agg #[.int .i64 3, .int .i64 N, .int .i64 D, .int .i64 V]] w fun e w' => e = .returned (.tuple #[(Pm.take ⟨0, n, d, r, l, b, g, k⟩ 3 N D V).1.V, .bool (Pm.take ⟨0, n, d, r, l, b, g, k⟩ 3 N D V).2]) ∧ Below w.heap.size w w' := by
  have HT : Hid (Pm.take ⟨0, n, d, r, l, b, g, k⟩ 3 N D V = (⟨0, n, d, r, l, b, g, k⟩, false)) := by show _ = _; unfold Pm.take; rw [or_yes ho, ok_yes hp]; simp
  have KP := kpS hp
  have KO := koS ho
  clear hp ho
  obtain ⟨HB0, HP0, HO0, HZ0⟩ := t4s w (PB 0 n d r l b g k) (oB 3 N D V) (PB 0 0 0 0 0 0 0 0)
  have p0 := box8_cells HP0.out
  have o0 := box4_cells HO0.out
  go_enter Tryz.func52, Tryz.ntmps52
  go_wp2_with fail
  refine (KP.out _).mono ?_
  rintro e w1 ⟨rfl, hb1⟩
  obtain ⟨HB1, HP1, HO1, HZ1⟩ := t4o HB0 HP0 HO0 HZ0 hb1
  have p1 := box8_cells HP1.out
  have o1 := box4_cells HO1.out
  have z1 := box8_cells HZ1.out
  clear hb1 HB0 HP0 HO0 HZ0 p0 o0
  go_wp2_with fail
  refine (KO.out _).mono ?_
  rintro e w2 ⟨rfl, hb2⟩
  obtain ⟨HB2, HP2, HO2, HZ2⟩ := t4o HB1 HP1 HO1 HZ1 hb2
  have p2 := box8_cells HP2.out
  have o2 := box4_cells HO2.out
  have z2 := box8_cells HZ2.out
  have hl2 := row_lt HZ2.out
  clear hb2 HB1 HP1 HO1 HZ1 p1 o1 z1
  obtain ⟨HN2, HPa, HOa, HZa, HBa⟩ := t4a HB2 HP2 HO2 HZ2 (PB 0 0 0 0 0 0 0 0)
  go_wp2_with (refine listStoreP rfl rfl _ _ _ rfl rfl w2.heap.size (0) (n) (d) (r) (l) (b) (g) (k) rfl rfl HN2.out ?_)
  intro w3 hr3 ho3 hs3 hB3
  have hl3 : w.heap.size ≤ w2.heap.size := by omega
  have HB3 : Hid (Below w.heap.size w w3) := hB3 _ _ hl3 HBa.out
  have HN3 := hq hr3
  obtain ⟨HP3, HO3, HZ3⟩ := t4p HPa HOa HZa hl2 ho3
  have p3 := box8_cells HP3.out
  have o3 := box4_cells HO3.out
  have n3 := box8_cells HN3.out
  clear hr3 ho3 hs3 hB3 HN2 HPa HOa HZa HBa HP2 HO2 HZ2 HB2 p2 o2 z2
  have HB4 := hq HB3.out
  have HZ4 := hq HZ3.out
  go_upto_region 18 with fail
  go_wp2_with (refine listStoreP rfl rfl _ _ _ rfl rfl (w.heap.size + 1 + 1) (0) (n) (d) (r) (l) (b) (g) (k) rfl rfl HZ4.out ?_)
  intro w9 hr9 ho9 hs9 hB9
  have HF := hq (hB9 _ _ (le2 _) HB4.out)
  have HRf := hq hr9
  clear ho9 hs9 hB9 hr9
  obtain ⟨⟨q0, q1, q2, q3, q4, q5, q6, q7⟩, _⟩ := box8_cells HRf.out
  go_wp2
  refine bodyPost_ret (v := .tuple #[PV 0 n d r l b g k, .bool false]) (by simp only [results, Tryz.results52]; simp [go_sem, q0, q1, q2, q3, q4, q5, q6, q7]) rfl ⟨by rw [HT.out]; rfl, HF.out⟩
theorem takeS_3_1 (n d r l b g k N D V : Int) (hp : Pm.ok ⟨1, n, d, r, l, b, g, k⟩) (ho : OrdR 3 N D V) (w : World) : Calls Tryz.prog 52 #[PV 1 n d r l b g k, .agg #[.int .i64 3, .int .i64 N, .int .i64 D, .int .i64 V]] w fun e w' => e = .returned (.tuple #[(Pm.take ⟨1, n, d, r, l, b, g, k⟩ 3 N D V).1.V, .bool (Pm.take ⟨1, n, d, r, l, b, g, k⟩ 3 N D V).2]) ∧ Below w.heap.size w w' := by
  have HT : Hid (Pm.take ⟨1, n, d, r, l, b, g, k⟩ 3 N D V = (⟨3, n, d, r, l, b, g, 1⟩, true)) := by show _ = _; unfold Pm.take; rw [or_yes ho, ok_yes hp]; simp
  have KP := kpS hp
  have KO := koS ho
  clear hp ho
  obtain ⟨HB0, HP0, HO0, HZ0⟩ := t4s w (PB 1 n d r l b g k) (oB 3 N D V) (PB 0 0 0 0 0 0 0 0)
  have p0 := box8_cells HP0.out
  have o0 := box4_cells HO0.out
  go_enter Tryz.func52, Tryz.ntmps52
  go_wp2_with fail
  refine (KP.out _).mono ?_
  rintro e w1 ⟨rfl, hb1⟩
  obtain ⟨HB1, HP1, HO1, HZ1⟩ := t4o HB0 HP0 HO0 HZ0 hb1
  have p1 := box8_cells HP1.out
  have o1 := box4_cells HO1.out
  have z1 := box8_cells HZ1.out
  clear hb1 HB0 HP0 HO0 HZ0 p0 o0
  go_wp2_with fail
  refine (KO.out _).mono ?_
  rintro e w2 ⟨rfl, hb2⟩
  obtain ⟨HB2, HP2, HO2, HZ2⟩ := t4o HB1 HP1 HO1 HZ1 hb2
  have p2 := box8_cells HP2.out
  have o2 := box4_cells HO2.out
  have z2 := box8_cells HZ2.out
  have hl2 := row_lt HZ2.out
  clear hb2 HB1 HP1 HO1 HZ1 p1 o1 z1
  obtain ⟨HN2, HPa, HOa, HZa, HBa⟩ := t4a HB2 HP2 HO2 HZ2 (PB 0 0 0 0 0 0 0 0)
  go_wp2_with (refine listStoreP rfl rfl _ _ _ rfl rfl w2.heap.size (1) (n) (d) (r) (l) (b) (g) (k) rfl rfl HN2.out ?_)
  intro w3 hr3 ho3 hs3 hB3
  have hl3 : w.heap.size ≤ w2.heap.size := by omega
  have HB3 : Hid (Below w.heap.size w w3) := hB3 _ _ hl3 HBa.out
  have HN3 := hq hr3
  obtain ⟨HP3, HO3, HZ3⟩ := t4p HPa HOa HZa hl2 ho3
  have p3 := box8_cells HP3.out
  have o3 := box4_cells HO3.out
  have n3 := box8_cells HN3.out
  clear hr3 ho3 hs3 hB3 HN2 HPa HOa HZa HBa HP2 HO2 HZ2 HB2 p2 o2 z2
  go_upto_region 19 with fail
  go_wp2_with (refine listStoreC rfl rfl _ _ _ rfl rfl w2.heap.size 0 (3) rfl rfl HN3.out (by simp) ?_)
  intro w30 hr ho hs hB
  have HB30 : Hid (Below w.heap.size w w30) := hB _ _ hl3 HB3.out
  have HN30 := hq hr
  have HP30 := hq ((ho _ (by omega)).trans HP3.out)
  have HO30 := hq ((ho _ (by omega)).trans HO3.out)
  have HZ30 := hq ((ho _ (by omega)).trans HZ3.out)
  have p30 := box8_cells HP30.out
  have o30 := box4_cells HO30.out
  have n30 := box8_cells HN30.out
  clear hr ho hs hB HB3 HN3 HP3 HO3 HZ3 p3 o3 n3
  go_upto_region 20 with fail
  go_wp2_with (refine listStoreC rfl rfl _ _ _ rfl rfl w2.heap.size 7 (1) rfl rfl HN30.out (by simp) ?_)
  intro w31 hr ho hs hB
  have HB31 : Hid (Below w.heap.size w w31) := hB _ _ hl3 HB30.out
  have HN31 := hq hr
  have HP31 := hq ((ho _ (by omega)).trans HP30.out)
  have HO31 := hq ((ho _ (by omega)).trans HO30.out)
  have HZ31 := hq ((ho _ (by omega)).trans HZ30.out)
  have p31 := box8_cells HP31.out
  have o31 := box4_cells HO31.out
  have n31 := box8_cells HN31.out
  clear hr ho hs hB HB30 HN30 HP30 HO30 HZ30 p30 o30 n30
  have HB4 := hq HB31.out
  have HZ4 := hq HZ31.out
  go_upto_region 31 with fail
  go_wp2_with (refine listStoreP rfl rfl _ _ _ rfl rfl (w.heap.size + 1 + 1) (3) (n) (d) (r) (l) (b) (g) (1) rfl rfl HZ4.out ?_)
  intro w9 hr9 ho9 hs9 hB9
  have HF := hq (hB9 _ _ (le2 _) HB4.out)
  have HRf := hq hr9
  clear ho9 hs9 hB9 hr9
  obtain ⟨⟨q0, q1, q2, q3, q4, q5, q6, q7⟩, _⟩ := box8_cells HRf.out
  go_wp2
  refine bodyPost_ret (v := .tuple #[PV 3 n d r l b g 1, .bool true]) (by simp only [results, Tryz.results52]; simp [go_sem, q0, q1, q2, q3, q4, q5, q6, q7]) rfl ⟨by rw [HT.out]; rfl, HF.out⟩
theorem takeS_3_2 (n d r l b g k N D V : Int) (hp : Pm.ok ⟨2, n, d, r, l, b, g, k⟩) (ho : OrdR 3 N D V) (w : World) : Calls Tryz.prog 52 #[PV 2 n d r l b g k, .agg #[.int .i64 3, .int .i64 N, .int .i64 D, .int .i64 V]] w fun e w' => e = .returned (.tuple #[(Pm.take ⟨2, n, d, r, l, b, g, k⟩ 3 N D V).1.V, .bool (Pm.take ⟨2, n, d, r, l, b, g, k⟩ 3 N D V).2]) ∧ Below w.heap.size w w' := by
  have HT : Hid (Pm.take ⟨2, n, d, r, l, b, g, k⟩ 3 N D V = (⟨3, n, d, r, l, b, g, 2⟩, true)) := by show _ = _; unfold Pm.take; rw [or_yes ho, ok_yes hp]; simp
  have KP := kpS hp
  have KO := koS ho
  clear hp ho
  obtain ⟨HB0, HP0, HO0, HZ0⟩ := t4s w (PB 2 n d r l b g k) (oB 3 N D V) (PB 0 0 0 0 0 0 0 0)
  have p0 := box8_cells HP0.out
  have o0 := box4_cells HO0.out
  go_enter Tryz.func52, Tryz.ntmps52
  go_wp2_with fail
  refine (KP.out _).mono ?_
  rintro e w1 ⟨rfl, hb1⟩
  obtain ⟨HB1, HP1, HO1, HZ1⟩ := t4o HB0 HP0 HO0 HZ0 hb1
  have p1 := box8_cells HP1.out
  have o1 := box4_cells HO1.out
  have z1 := box8_cells HZ1.out
  clear hb1 HB0 HP0 HO0 HZ0 p0 o0
  go_wp2_with fail
  refine (KO.out _).mono ?_
  rintro e w2 ⟨rfl, hb2⟩
  obtain ⟨HB2, HP2, HO2, HZ2⟩ := t4o HB1 HP1 HO1 HZ1 hb2
  have p2 := box8_cells HP2.out
  have o2 := box4_cells HO2.out
  have z2 := box8_cells HZ2.out
  have hl2 := row_lt HZ2.out
  clear hb2 HB1 HP1 HO1 HZ1 p1 o1 z1
  obtain ⟨HN2, HPa, HOa, HZa, HBa⟩ := t4a HB2 HP2 HO2 HZ2 (PB 0 0 0 0 0 0 0 0)
  go_wp2_with (refine listStoreP rfl rfl _ _ _ rfl rfl w2.heap.size (2) (n) (d) (r) (l) (b) (g) (k) rfl rfl HN2.out ?_)
  intro w3 hr3 ho3 hs3 hB3
  have hl3 : w.heap.size ≤ w2.heap.size := by omega
  have HB3 : Hid (Below w.heap.size w w3) := hB3 _ _ hl3 HBa.out
  have HN3 := hq hr3
  obtain ⟨HP3, HO3, HZ3⟩ := t4p HPa HOa HZa hl2 ho3
  have p3 := box8_cells HP3.out
  have o3 := box4_cells HO3.out
  have n3 := box8_cells HN3.out
  clear hr3 ho3 hs3 hB3 HN2 HPa HOa HZa HBa HP2 HO2 HZ2 HB2 p2 o2 z2
  go_upto_region 19 with fail
  go_wp2_with (refine listStoreC rfl rfl _ _ _ rfl rfl w2.heap.size 0 (3) rfl rfl HN3.out (by simp) ?_)
  intro w30 hr ho hs hB
  have HB30 : Hid (Below w.heap.size w w30) := hB _ _ hl3 HB3.out
  have HN30 := hq hr
  have HP30 := hq ((ho _ (by omega)).trans HP3.out)
  have HO30 := hq ((ho _ (by omega)).trans HO3.out)
  have HZ30 := hq ((ho _ (by omega)).trans HZ3.out)
  have p30 := box8_cells HP30.out
  have o30 := box4_cells HO30.out
  have n30 := box8_cells HN30.out
  clear hr ho hs hB HB3 HN3 HP3 HO3 HZ3 p3 o3 n3
  go_upto_region 20 with fail
  go_wp2_with (refine listStoreC rfl rfl _ _ _ rfl rfl w2.heap.size 7 (2) rfl rfl HN30.out (by simp) ?_)
  intro w31 hr ho hs hB
  have HB31 : Hid (Below w.heap.size w w31) := hB _ _ hl3 HB30.out
  have HN31 := hq hr
  have HP31 := hq ((ho _ (by omega)).trans HP30.out)
  have HO31 := hq ((ho _ (by omega)).trans HO30.out)
  have HZ31 := hq ((ho _ (by omega)).trans HZ30.out)
  have p31 := box8_cells HP31.out
  have o31 := box4_cells HO31.out
  have n31 := box8_cells HN31.out
  clear hr ho hs hB HB30 HN30 HP30 HO30 HZ30 p30 o30 n30
  have HB4 := hq HB31.out
  have HZ4 := hq HZ31.out
  go_upto_region 31 with fail
  go_wp2_with (refine listStoreP rfl rfl _ _ _ rfl rfl (w.heap.size + 1 + 1) (3) (n) (d) (r) (l) (b) (g) (2) rfl rfl HZ4.out ?_)
  intro w9 hr9 ho9 hs9 hB9
  have HF := hq (hB9 _ _ (le2 _) HB4.out)
  have HRf := hq hr9
  clear ho9 hs9 hB9 hr9
  obtain ⟨⟨q0, q1, q2, q3, q4, q5, q6, q7⟩, _⟩ := box8_cells HRf.out
  go_wp2
  refine bodyPost_ret (v := .tuple #[PV 3 n d r l b g 2, .bool true]) (by simp only [results, Tryz.results52]; simp [go_sem, q0, q1, q2, q3, q4, q5, q6, q7]) rfl ⟨by rw [HT.out]; rfl, HF.out⟩
theorem takeS_3_3 (n d r l b g k N D V : Int) (hp : Pm.ok ⟨3, n, d, r, l, b, g, k⟩) (ho : OrdR 3 N D V) (w : World) : Calls Tryz.prog 52 #[PV 3 n d r l b g k, .agg #[.int .i64 3, .int .i64 N, .int .i64 D, .int .i64 V]] w fun e w' => e = .returned (.tuple #[(Pm.take ⟨3, n, d, r, l, b, g, k⟩ 3 N D V).1.V, .bool (Pm.take ⟨3, n, d, r, l, b, g, k⟩ 3 N D V).2]) ∧ Below w.heap.size w w' := by
  have HT : Hid (Pm.take ⟨3, n, d, r, l, b, g, k⟩ 3 N D V = (⟨3, n, d, r, l, b, g, k⟩, false)) := by show _ = _; unfold Pm.take; rw [or_yes ho, ok_yes hp]; simp
  have KP := kpS hp
  have KO := koS ho
  clear hp ho
  obtain ⟨HB0, HP0, HO0, HZ0⟩ := t4s w (PB 3 n d r l b g k) (oB 3 N D V) (PB 0 0 0 0 0 0 0 0)
  have p0 := box8_cells HP0.out
  have o0 := box4_cells HO0.out
  go_enter Tryz.func52, Tryz.ntmps52
  go_wp2_with fail
  refine (KP.out _).mono ?_
  rintro e w1 ⟨rfl, hb1⟩
  obtain ⟨HB1, HP1, HO1, HZ1⟩ := t4o HB0 HP0 HO0 HZ0 hb1
  have p1 := box8_cells HP1.out
  have o1 := box4_cells HO1.out
  have z1 := box8_cells HZ1.out
  clear hb1 HB0 HP0 HO0 HZ0 p0 o0
  go_wp2_with fail
  refine (KO.out _).mono ?_
  rintro e w2 ⟨rfl, hb2⟩
  obtain ⟨HB2, HP2, HO2, HZ2⟩ := t4o HB1 HP1 HO1 HZ1 hb2
  have p2 := box8_cells HP2.out
  have o2 := box4_cells HO2.out
  have z2 := box8_cells HZ2.out
  have hl2 := row_lt HZ2.out
  clear hb2 HB1 HP1 HO1 HZ1 p1 o1 z1
  obtain ⟨HN2, HPa, HOa, HZa, HBa⟩ := t4a HB2 HP2 HO2 HZ2 (PB 0 0 0 0 0 0 0 0)
  go_wp2_with (refine listStoreP rfl rfl _ _ _ rfl rfl w2.heap.size (3) (n) (d) (r) (l) (b) (g) (k) rfl rfl HN2.out ?_)
  intro w3 hr3 ho3 hs3 hB3
  have hl3 : w.heap.size ≤ w2.heap.size := by omega
  have HB3 : Hid (Below w.heap.size w w3) := hB3 _ _ hl3 HBa.out
  have HN3 := hq hr3
  obtain ⟨HP3, HO3, HZ3⟩ := t4p HPa HOa HZa hl2 ho3
  have p3 := box8_cells HP3.out
  have o3 := box4_cells HO3.out
  have n3 := box8_cells HN3.out
  clear hr3 ho3 hs3 hB3 HN2 HPa HOa HZa HBa HP2 HO2 HZ2 HB2 p2 o2 z2
  have HB4 := hq HB3.out
  have HZ4 := hq HZ3.out
  go_upto_region 18 with fail
  go_wp2_with (refine listStoreP rfl rfl _ _ _ rfl rfl (w.heap.size + 1 + 1) (3) (n) (d) (r) (l) (b) (g) (k) rfl rfl HZ4.out ?_)
  intro w9 hr9 ho9 hs9 hB9
  have HF := hq (hB9 _ _ (le2 _) HB4.out)
  have HRf := hq hr9
  clear ho9 hs9 hB9 hr9
  obtain ⟨⟨q0, q1, q2, q3, q4, q5, q6, q7⟩, _⟩ := box8_cells HRf.out
  go_wp2
  refine bodyPost_ret (v := .tuple #[PV 3 n d r l b g k, .bool false]) (by simp only [results, Tryz.results52]; simp [go_sem, q0, q1, q2, q3, q4, q5, q6, q7]) rfl ⟨by rw [HT.out]; rfl, HF.out⟩
theorem takeS_4_0 (n d r l b g k N D V : Int) (hp : Pm.ok ⟨0, n, d, r, l, b, g, k⟩) (ho : OrdR 4 N D V) (w : World) : Calls Tryz.prog 52 #[PV 0 n d r l b g k, .agg #[.int .i64 4, .int .i64 N, .int .i64 D, .int .i64 V]] w fun e w' => e = .returned (.tuple #[(Pm.take ⟨0, n, d, r, l, b, g, k⟩ 4 N D V).1.V, .bool (Pm.take ⟨0, n, d, r, l, b, g, k⟩ 4 N D V).2]) ∧ Below w.heap.size w w' := by
  have HT : Hid (Pm.take ⟨0, n, d, r, l, b, g, k⟩ 4 N D V = (⟨0, n, d, r, l, b, g, k⟩, false)) := by show _ = _; unfold Pm.take; rw [or_yes ho, ok_yes hp]; simp
  have KP := kpS hp
  have KO := koS ho
  clear hp ho
  obtain ⟨HB0, HP0, HO0, HZ0⟩ := t4s w (PB 0 n d r l b g k) (oB 4 N D V) (PB 0 0 0 0 0 0 0 0)
  have p0 := box8_cells HP0.out
  have o0 := box4_cells HO0.out
  go_enter Tryz.func52, Tryz.ntmps52
  go_wp2_with fail
  refine (KP.out _).mono ?_
  rintro e w1 ⟨rfl, hb1⟩
  obtain ⟨HB1, HP1, HO1, HZ1⟩ := t4o HB0 HP0 HO0 HZ0 hb1
  have p1 := box8_cells HP1.out
  have o1 := box4_cells HO1.out
  have z1 := box8_cells HZ1.out
  clear hb1 HB0 HP0 HO0 HZ0 p0 o0
  go_wp2_with fail
  refine (KO.out _).mono ?_
  rintro e w2 ⟨rfl, hb2⟩
  obtain ⟨HB2, HP2, HO2, HZ2⟩ := t4o HB1 HP1 HO1 HZ1 hb2
  have p2 := box8_cells HP2.out
  have o2 := box4_cells HO2.out
  have z2 := box8_cells HZ2.out
  have hl2 := row_lt HZ2.out
  clear hb2 HB1 HP1 HO1 HZ1 p1 o1 z1
  obtain ⟨HN2, HPa, HOa, HZa, HBa⟩ := t4a HB2 HP2 HO2 HZ2 (PB 0 0 0 0 0 0 0 0)
  go_wp2_with (refine listStoreP rfl rfl _ _ _ rfl rfl w2.heap.size (0) (n) (d) (r) (l) (b) (g) (k) rfl rfl HN2.out ?_)
  intro w3 hr3 ho3 hs3 hB3
  have hl3 : w.heap.size ≤ w2.heap.size := by omega
  have HB3 : Hid (Below w.heap.size w w3) := hB3 _ _ hl3 HBa.out
  have HN3 := hq hr3
  obtain ⟨HP3, HO3, HZ3⟩ := t4p HPa HOa HZa hl2 ho3
  have p3 := box8_cells HP3.out
  have o3 := box4_cells HO3.out
  have n3 := box8_cells HN3.out
  clear hr3 ho3 hs3 hB3 HN2 HPa HOa HZa HBa HP2 HO2 HZ2 HB2 p2 o2 z2
  have HB4 := hq HB3.out
  have HZ4 := hq HZ3.out
  go_upto_region 23 with fail
  go_wp2_with (refine listStoreP rfl rfl _ _ _ rfl rfl (w.heap.size + 1 + 1) (0) (n) (d) (r) (l) (b) (g) (k) rfl rfl HZ4.out ?_)
  intro w9 hr9 ho9 hs9 hB9
  have HF := hq (hB9 _ _ (le2 _) HB4.out)
  have HRf := hq hr9
  clear ho9 hs9 hB9 hr9
  obtain ⟨⟨q0, q1, q2, q3, q4, q5, q6, q7⟩, _⟩ := box8_cells HRf.out
  go_wp2
  refine bodyPost_ret (v := .tuple #[PV 0 n d r l b g k, .bool false]) (by simp only [results, Tryz.results52]; simp [go_sem, q0, q1, q2, q3, q4, q5, q6, q7]) rfl ⟨by rw [HT.out]; rfl, HF.out⟩
theorem takeS_4_1 (n d r l b g k N D V : Int) (hp : Pm.ok ⟨1, n, d, r, l, b, g, k⟩) (ho : OrdR 4 N D V) (w : World) : Calls Tryz.prog 52 #[PV 1 n d r l b g k, .agg #[.int .i64 4, .int .i64 N, .int .i64 D, .int .i64 V]] w fun e w' => e = .returned (.tuple #[(Pm.take ⟨1, n, d, r, l, b, g, k⟩ 4 N D V).1.V, .bool (Pm.take ⟨1, n, d, r, l, b, g, k⟩ 4 N D V).2]) ∧ Below w.heap.size w w' := by
  have HT : Hid (Pm.take ⟨1, n, d, r, l, b, g, k⟩ 4 N D V = (⟨1, n, d, r, l, b, g, k⟩, false)) := by show _ = _; unfold Pm.take; rw [or_yes ho, ok_yes hp]; simp
  have KP := kpS hp
  have KO := koS ho
  clear hp ho
  obtain ⟨HB0, HP0, HO0, HZ0⟩ := t4s w (PB 1 n d r l b g k) (oB 4 N D V) (PB 0 0 0 0 0 0 0 0)
  have p0 := box8_cells HP0.out
  have o0 := box4_cells HO0.out
  go_enter Tryz.func52, Tryz.ntmps52
  go_wp2_with fail
  refine (KP.out _).mono ?_
  rintro e w1 ⟨rfl, hb1⟩
  obtain ⟨HB1, HP1, HO1, HZ1⟩ := t4o HB0 HP0 HO0 HZ0 hb1
  have p1 := box8_cells HP1.out
  have o1 := box4_cells HO1.out
  have z1 := box8_cells HZ1.out
  clear hb1 HB0 HP0 HO0 HZ0 p0 o0
  go_wp2_with fail
  refine (KO.out _).mono ?_
  rintro e w2 ⟨rfl, hb2⟩
  obtain ⟨HB2, HP2, HO2, HZ2⟩ := t4o HB1 HP1 HO1 HZ1 hb2
  have p2 := box8_cells HP2.out
  have o2 := box4_cells HO2.out
  have z2 := box8_cells HZ2.out
  have hl2 := row_lt HZ2.out
  clear hb2 HB1 HP1 HO1 HZ1 p1 o1 z1
  obtain ⟨HN2, HPa, HOa, HZa, HBa⟩ := t4a HB2 HP2 HO2 HZ2 (PB 0 0 0 0 0 0 0 0)
  go_wp2_with (refine listStoreP rfl rfl _ _ _ rfl rfl w2.heap.size (1) (n) (d) (r) (l) (b) (g) (k) rfl rfl HN2.out ?_)
  intro w3 hr3 ho3 hs3 hB3
  have hl3 : w.heap.size ≤ w2.heap.size := by omega
  have HB3 : Hid (Below w.heap.size w w3) := hB3 _ _ hl3 HBa.out
  have HN3 := hq hr3
  obtain ⟨HP3, HO3, HZ3⟩ := t4p HPa HOa HZa hl2 ho3
  have p3 := box8_cells HP3.out
  have o3 := box4_cells HO3.out
  have n3 := box8_cells HN3.out
  clear hr3 ho3 hs3 hB3 HN2 HPa HOa HZa HBa HP2 HO2 HZ2 HB2 p2 o2 z2
  have HB4 := hq HB3.out
  have HZ4 := hq HZ3.out
  go_upto_region 23 with fail
  go_wp2_with (refine listStoreP rfl rfl _ _ _ rfl rfl (w.heap.size + 1 + 1) (1) (n) (d) (r) (l) (b) (g) (k) rfl rfl HZ4.out ?_)
  intro w9 hr9 ho9 hs9 hB9
  have HF := hq (hB9 _ _ (le2 _) HB4.out)
  have HRf := hq hr9
  clear ho9 hs9 hB9 hr9
  obtain ⟨⟨q0, q1, q2, q3, q4, q5, q6, q7⟩, _⟩ := box8_cells HRf.out
  go_wp2
  refine bodyPost_ret (v := .tuple #[PV 1 n d r l b g k, .bool false]) (by simp only [results, Tryz.results52]; simp [go_sem, q0, q1, q2, q3, q4, q5, q6, q7]) rfl ⟨by rw [HT.out]; rfl, HF.out⟩
theorem takeS_4_2 (n d r l b g k N D V : Int) (hp : Pm.ok ⟨2, n, d, r, l, b, g, k⟩) (ho : OrdR 4 N D V) (w : World) : Calls Tryz.prog 52 #[PV 2 n d r l b g k, .agg #[.int .i64 4, .int .i64 N, .int .i64 D, .int .i64 V]] w fun e w' => e = .returned (.tuple #[(Pm.take ⟨2, n, d, r, l, b, g, k⟩ 4 N D V).1.V, .bool (Pm.take ⟨2, n, d, r, l, b, g, k⟩ 4 N D V).2]) ∧ Below w.heap.size w w' := by
  have HT : Hid (Pm.take ⟨2, n, d, r, l, b, g, k⟩ 4 N D V = (⟨2, n, d, r, l, b, g, k⟩, false)) := by show _ = _; unfold Pm.take; rw [or_yes ho, ok_yes hp]; simp
  have KP := kpS hp
  have KO := koS ho
  clear hp ho
  obtain ⟨HB0, HP0, HO0, HZ0⟩ := t4s w (PB 2 n d r l b g k) (oB 4 N D V) (PB 0 0 0 0 0 0 0 0)
  have p0 := box8_cells HP0.out
  have o0 := box4_cells HO0.out
  go_enter Tryz.func52, Tryz.ntmps52
  go_wp2_with fail
  refine (KP.out _).mono ?_
  rintro e w1 ⟨rfl, hb1⟩
  obtain ⟨HB1, HP1, HO1, HZ1⟩ := t4o HB0 HP0 HO0 HZ0 hb1
  have p1 := box8_cells HP1.out
  have o1 := box4_cells HO1.out
  have z1 := box8_cells HZ1.out
  clear hb1 HB0 HP0 HO0 HZ0 p0 o0
  go_wp2_with fail
  refine (KO.out _).mono ?_
  rintro e w2 ⟨rfl, hb2⟩
  obtain ⟨HB2, HP2, HO2, HZ2⟩ := t4o HB1 HP1 HO1 HZ1 hb2
  have p2 := box8_cells HP2.out
  have o2 := box4_cells HO2.out
  have z2 := box8_cells HZ2.out
  have hl2 := row_lt HZ2.out
  clear hb2 HB1 HP1 HO1 HZ1 p1 o1 z1
  obtain ⟨HN2, HPa, HOa, HZa, HBa⟩ := t4a HB2 HP2 HO2 HZ2 (PB 0 0 0 0 0 0 0 0)
  go_wp2_with (refine listStoreP rfl rfl _ _ _ rfl rfl w2.heap.size (2) (n) (d) (r) (l) (b) (g) (k) rfl rfl HN2.out ?_)
  intro w3 hr3 ho3 hs3 hB3
  have hl3 : w.heap.size ≤ w2.heap.size := by omega
  have HB3 : Hid (Below w.heap.size w w3) := hB3 _ _ hl3 HBa.out
  have HN3 := hq hr3
  obtain ⟨HP3, HO3, HZ3⟩ := t4p HPa HOa HZa hl2 ho3
  have p3 := box8_cells HP3.out
  have o3 := box4_cells HO3.out
  have n3 := box8_cells HN3.out
  clear hr3 ho3 hs3 hB3 HN2 HPa HOa HZa HBa HP2 HO2 HZ2 HB2 p2 o2 z2
  have HB4 := hq HB3.out
  have HZ4 := hq HZ3.out
  go_upto_region 23 with fail
  go_wp2_with (refine listStoreP rfl rfl _ _ _ rfl rfl (w.heap.size + 1 + 1) (2) (n) (d) (r) (l) (b) (g) (k) rfl rfl HZ4.out ?_)
  intro w9 hr9 ho9 hs9 hB9
  have HF := hq (hB9 _ _ (le2 _) HB4.out)
  have HRf := hq hr9
  clear ho9 hs9 hB9 hr9
  obtain ⟨⟨q0, q1, q2, q3, q4, q5, q6, q7⟩, _⟩ := box8_cells HRf.out
  go_wp2
  refine bodyPost_ret (v := .tuple #[PV 2 n d r l b g k, .bool false]) (by simp only [results, Tryz.results52]; simp [go_sem, q0, q1, q2, q3, q4, q5, q6, q7]) rfl ⟨by rw [HT.out]; rfl, HF.out⟩
theorem takeS_4_3 (n d r l b g k N D V : Int) (hp : Pm.ok ⟨3, n, d, r, l, b, g, k⟩) (ho : OrdR 4 N D V) (w : World) : Calls Tryz.prog 52 #[PV 3 n d r l b g k, .agg #[.int .i64 4, .int .i64 N, .int .i64 D, .int .i64 V]] w fun e w' => e = .returned (.tuple #[(Pm.take ⟨3, n, d, r, l, b, g, k⟩ 4 N D V).1.V, .bool (Pm.take ⟨3, n, d, r, l, b, g, k⟩ 4 N D V).2]) ∧ Below w.heap.size w w' := by
  have HT : Hid (Pm.take ⟨3, n, d, r, l, b, g, k⟩ 4 N D V = (⟨k, n, d, r, l, b, g, 0⟩, true)) := by show _ = _; unfold Pm.take; rw [or_yes ho, ok_yes hp]; simp
  have KP := kpS hp
  have KO := koS ho
  clear hp ho
  obtain ⟨HB0, HP0, HO0, HZ0⟩ := t4s w (PB 3 n d r l b g k) (oB 4 N D V) (PB 0 0 0 0 0 0 0 0)
  have p0 := box8_cells HP0.out
  have o0 := box4_cells HO0.out
  go_enter Tryz.func52, Tryz.ntmps52
  go_wp2_with fail
  refine (KP.out _).mono ?_
  rintro e w1 ⟨rfl, hb1⟩
  obtain ⟨HB1, HP1, HO1, HZ1⟩ := t4o HB0 HP0 HO0 HZ0 hb1
  have p1 := box8_cells HP1.out
  have o1 := box4_cells HO1.out
  have z1 := box8_cells HZ1.out
  clear hb1 HB0 HP0 HO0 HZ0 p0 o0
  go_wp2_with fail
  refine (KO.out _).mono ?_
  rintro e w2 ⟨rfl, hb2⟩
  obtain ⟨HB2, HP2, HO2, HZ2⟩ := t4o HB1 HP1 HO1 HZ1 hb2
  have p2 := box8_cells HP2.out
  have o2 := box4_cells HO2.out
  have z2 := box8_cells HZ2.out
  have hl2 := row_lt HZ2.out
  clear hb2 HB1 HP1 HO1 HZ1 p1 o1 z1
  obtain ⟨HN2, HPa, HOa, HZa, HBa⟩ := t4a HB2 HP2 HO2 HZ2 (PB 0 0 0 0 0 0 0 0)
  go_wp2_with (refine listStoreP rfl rfl _ _ _ rfl rfl w2.heap.size (3) (n) (d) (r) (l) (b) (g) (k) rfl rfl HN2.out ?_)
  intro w3 hr3 ho3 hs3 hB3
  have hl3 : w.heap.size ≤ w2.heap.size := by omega
  have HB3 : Hid (Below w.heap.size w w3) := hB3 _ _ hl3 HBa.out
  have HN3 := hq hr3
  obtain ⟨HP3, HO3, HZ3⟩ := t4p HPa HOa HZa hl2 ho3
  have p3 := box8_cells HP3.out
  have o3 := box4_cells HO3.out
  have n3 := box8_cells HN3.out
  clear hr3 ho3 hs3 hB3 HN2 HPa HOa HZa HBa HP2 HO2 HZ2 HB2 p2 o2 z2
  go_upto_region 24 with fail
  go_wp2_with (refine listStoreC rfl rfl _ _ _ rfl rfl w2.heap.size 0 (k) rfl rfl HN3.out (by simp) ?_)
  intro w30 hr ho hs hB
  have HB30 : Hid (Below w.heap.size w w30) := hB _ _ hl3 HB3.out
  have HN30 := hq hr
  have HP30 := hq ((ho _ (by omega)).trans HP3.out)
  have HO30 := hq ((ho _ (by omega)).trans HO3.out)
  have HZ30 := hq ((ho _ (by omega)).trans HZ3.out)
  have p30 := box8_cells HP30.out
  have o30 := box4_cells HO30.out
  have n30 := box8_cells HN30.out
  clear hr ho hs hB HB3 HN3 HP3 HO3 HZ3 p3 o3 n3
  go_upto_region 25 with fail
  go_wp2_with (refine listStoreC rfl rfl _ _ _ rfl rfl w2.heap.size 7 (0) rfl rfl HN30.out (by simp) ?_)
  intro w31 hr ho hs hB
  have HB31 : Hid (Below w.heap.size w w31) := hB _ _ hl3 HB30.out
  have HN31 := hq hr
  have HP31 := hq ((ho _ (by omega)).trans HP30.out)
  have HO31 := hq ((ho _ (by omega)).trans HO30.out)
  have HZ31 := hq ((ho _ (by omega)).trans HZ30.out)
  have p31 := box8_cells HP31.out
  have o31 := box4_cells HO31.out
  have n31 := box8_cells HN31.out
  clear hr ho hs hB HB30 HN30 HP30 HO30 HZ30 p30 o30 n30
  have HB4 := hq HB31.out
  have HZ4 := hq HZ31.out
  go_upto_region 31 with fail
  go_wp2_with (refine listStoreP rfl rfl _ _ _ rfl rfl (w.heap.size + 1 + 1) (k) (n) (d) (r) (l) (b) (g) (0) rfl rfl HZ4.out ?_)
  intro w9 hr9 ho9 hs9 hB9
  have HF := hq (hB9 _ _ (le2 _) HB4.out)
  have HRf := hq hr9
  clear ho9 hs9 hB9 hr9
  obtain ⟨⟨q0, q1, q2, q3, q4, q5, q6, q7⟩, _⟩ := box8_cells HRf.out
  go_wp2
  refine bodyPost_ret (v := .tuple #[PV k n d r l b g 0, .bool true]) (by simp only [results, Tryz.results52]; simp [go_sem, q0, q1, q2, q3, q4, q5, q6, q7]) rfl ⟨by rw [HT.out]; rfl, HF.out⟩
end Go.Proofs.YtfhhnelffldggaaGreatDoor
