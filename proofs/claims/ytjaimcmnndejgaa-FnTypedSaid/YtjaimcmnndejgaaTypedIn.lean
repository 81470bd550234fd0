/-
  FnTyped over bytes that are few enough.
-/
import Derived.Test.YtjaimcmnndejgaaDrawMn
import Derived.Test.YtjaimcmnndejgaaRow
import Derived.Test.YtjaimcmnndejgaaMnI
import Derived.Test.YtjaimcmnndejgaaMnW
import Derived.Test.YtjaimcmnndejgaaDecP
import Derived.Test.YtjaimcmnndejgaaTypM
import Derived.Deep.DeepCutAuto
namespace Go.Proofs.Ytjaimcmnndejgaa
open Go.RowKit Go.PlainAid
open Go.Lib (decDigits)
set_option linter.unusedVariables false
set_option linter.unusedSimpArgs false

theorem decS' (n : Nat) (D : ByteArray) (hD : (⟨(decDigits n).toArray⟩ : ByteArray) = D) (hn : n ≤ 1000000) (w : World) : Calls Try.prog 19 #[.int .i64 n] w fun e w' => e = .returned (.string D) ∧ Below w.heap.size w w' := by
  subst hD
  exact Dc.decS n hn w
theorem cell_bel {w W : World} {g i : Nat} {v : Value} (h : w.cell? ⟨g, i, none⟩ = some v) (hb : Below w.heap.size w W) : W.cell? ⟨g, i, none⟩ = some v := (hb.cell (p := ⟨g, i, none⟩) (World.block_lt_of_cell? w ⟨g, i, none⟩ h)).trans h
theorem cat7 {a b c : List UInt8} {A B C : ByteArray} (ha : (⟨a.toArray⟩ : ByteArray) = A) (hb : (⟨b.toArray⟩ : ByteArray) = B) (hc : (⟨c.toArray⟩ : ByteArray) = C) : (⟨([98] ++ a ++ [10] ++ b ++ [10] ++ c ++ [10]).toArray⟩ : ByteArray) = (⟨#[98]⟩ : ByteArray) ++ A ++ ⟨#[10]⟩ ++ B ++ ⟨#[10]⟩ ++ C ++ ⟨#[10]⟩ := by
  subst ha hb hc
  apply ByteArray.ext
  simp [ByteArray.data_append]
theorem cat3 {a : List UInt8} {A : ByteArray} (ha : (⟨a.toArray⟩ : ByteArray) = A) : (⟨([111] ++ a ++ [10]).toArray⟩ : ByteArray) = (⟨#[111]⟩ : ByteArray) ++ A ++ ⟨#[10]⟩ := by
  subst ha
  apply ByteArray.ext
  simp [ByteArray.data_append]
theorem addT {A B C : ByteArray} (h : A ++ B = C) (hs : A.size + B.size ≤ 100) : Hid (∀ w : World, (Op.stringOp .add A B).run Try.prog w = .ok (.string C) w) := fun w => by rw [← h]; exact run_string_add_sum w A B (by omega)
/-- two texts put together: the text is told -/
theorem listAdd {ops : Array Oper} {rest : List Oper} {o : Oper} {a : Act} {Q : Exit → Act → World → Prop} {w : World} (hgd : o.guard = none) (d : Option Tmp) (hd : o.dst = d) (x y : Operand) (t t' : TypeId) (ho : o.op = .binOp .add t x y t')
    (A B C : ByteArray) (hx : a.eval x = .string A) (hy : a.eval y = .string B) (hC : Hid (∀ w : World, (Op.stringOp .add A B).run Try.prog w = .ok (.string C) w)) (h : wpList Try.prog ops Q rest (a.put d (.string C)) w) : wpList Try.prog ops Q (o :: rest) a w := by
  refine wpList_plain hgd fun _ hK => ?_
  unfold Oper.wp
  have e1 : (execOp a.eval o).run Try.prog w = .ok (.value (.string C)) w := by
    have hc := hC.out w
    simp [execOp, ho, hx, hy, eqGuard, binOp_string_add, hc, Result.andThen]
  rw [e1]
  exact hK _ _ (by subst hd; exact h)
theorem bas_cases (n d v : Nat) : (OrdR 1 n d v ∧ basL n d v = [(1, (n : Int), (d : Int), (v : Int))]) ∨ (¬ OrdR 1 n d v ∧ basL n d v = []) := by
  unfold basL OrdR
  by_cases h : (1 ≤ (d : Int) ∧ (d : Int) ≤ 1000) ∧ (1 ≤ (n : Int) ∧ (n : Int) ≤ 1000) ∧ (n : Int) ≤ 3 * d ∧ (1 ≤ (v : Int) ∧ (v : Int) ≤ 5000)
  · exact Or.inl ⟨Or.inl ⟨rfl, h⟩, by rw [if_pos h]⟩
  · exact Or.inr ⟨by omega, by rw [if_neg h]⟩
theorem bol_cases (v : Nat) : ((1 ≤ (v : Int) ∧ (v : Int) ≤ 100) ∧ bolL v = [(2, 0, 0, (v : Int))]) ∨ (¬ (1 ≤ (v : Int) ∧ (v : Int) ≤ 100) ∧ bolL v = []) := by
  unfold bolL
  by_cases h : 1 ≤ (v : Int) ∧ (v : Int) ≤ 100
  · exact Or.inl ⟨h, by rw [if_pos h]⟩
  · exact Or.inr ⟨h, by rw [if_neg h]⟩
theorem mod_nat {p : Int} (h : 0 ≤ p) (k : Int) (hk : 0 < k) : ∃ n : Nat, p.tmod k = (n : Int) ∧ (n : Int) < k := by
  have h1 := Int.emod_lt_of_pos p hk
  have h2 := Int.emod_nonneg p (show k ≠ 0 by omega)
  refine ⟨(p % k).toNat, ?_, ?_⟩
  · rw [Int.tmod_eq_emod_of_nonneg h, Int.toNat_of_nonneg h2]
  · omega
set_option maxRecDepth 100000 in
set_option maxHeartbeats 16000000 in
theorem typed_in (a : Option Addr) (len cap : Nat) (hb : len ≤ 1048576) (w : World) (hcode : CodeOk w w.heap.size a len) :
    Calls Try.prog 4 #[.slice a len cap] w fun e w' => e = .returned (.bool true) ∧ Below w.heap.size w w' := by
  have HC : Hid (CodeOk w w.heap.size a len) := hcode
  clear hcode
  have FW_1 : Hid (Below w.heap.size w (w)) := Below.refl _ _
  go_enter Try.func4, Try.ntmps4
  go_wp2_with fail
  refine (big5 a len cap (by omega) _).mono ?_
  rintro e w0 ⟨rfl, hw0⟩
  obtain rfl : w = w0 := hw0.symm
  clear hw0
  rw [decide_eq_false (by omega)]
  go_wp2_with fail
  refine (places7 w.heap.size a len cap _ HC.out (Nat.le_refl _)).mono ?_
  rintro e w1 ⟨gp, cp, p0, p1, p2, p3, rfl, hp0, hp1, hp2, hp3, hgp, cp0, cp1, cp2, cp3, _, hb1⟩
  have N_2 : Hid ((w).heap.size ≤ (w1).heap.size) := (hb1).size
  have FW_3 : Hid (Below w.heap.size w (w1)) := bel_on (Nat.le_refl _) FW_1.out (hb1)
  clear FW_1
  clear hb1 HC
  have FQ_4 : Hid (Below w1.heap.size w1 (w1)) := Below.refl _ _
  have HP3 : Hid (w1.cell? ⟨gp, 3, none⟩ = some (.int .i64 p3)) := cp3
  obtain ⟨n, qn, hn⟩ := mod_nat hp0.1 1200 (by decide)
  obtain ⟨d, qd, hd⟩ := mod_nat hp1.1 1200 (by decide)
  obtain ⟨u, qu, hu⟩ := mod_nat hp2.1 6000 (by decide)
  obtain ⟨v, qv, hv⟩ := mod_nat hp3.1 200 (by decide)
  have HV : Hid (p3.tmod 200 = (v : Int)) := qv
  obtain ⟨D1, hD1⟩ : ∃ D : ByteArray, (⟨(decDigits n).toArray⟩ : ByteArray) = D := ⟨_, rfl⟩
  obtain ⟨D2, hD2⟩ : ∃ D : ByteArray, (⟨(decDigits d).toArray⟩ : ByteArray) = D := ⟨_, rfl⟩
  obtain ⟨D3, hD3⟩ : ∃ D : ByteArray, (⟨(decDigits u).toArray⟩ : ByteArray) = D := ⟨_, rfl⟩
  obtain ⟨D4, hD4⟩ : ∃ D : ByteArray, (⟨(decDigits v).toArray⟩ : ByteArray) = D := ⟨_, rfl⟩
  have s1 : D1.size ≤ 4 := by rw [txt_size hD1]; exact dec_four (by omega)
  have s2 : D2.size ≤ 4 := by rw [txt_size hD2]; exact dec_four (by omega)
  have s3 : D3.size ≤ 4 := by rw [txt_size hD3]; exact dec_four (by omega)
  have s4 : D4.size ≤ 4 := by rw [txt_size hD4]; exact dec_four (by omega)
  have HD1 : Hid ((⟨(decDigits n).toArray⟩ : ByteArray) = D1) := hD1
  have HD2 : Hid ((⟨(decDigits d).toArray⟩ : ByteArray) = D2) := hD2
  have HD3 : Hid ((⟨(decDigits u).toArray⟩ : ByteArray) = D3) := hD3
  have HD4 : Hid ((⟨(decDigits v).toArray⟩ : ByteArray) = D4) := hD4
  have HK7 := cat7 hD1 hD2 hD3
  obtain ⟨ks, hks⟩ : ∃ ks, [98] ++ decDigits n ++ [10] ++ decDigits d ++ [10] ++ decDigits u ++ [10] = ks := ⟨_, rfl⟩
  have hkl : ks.length ≤ 1048576 := by have e1 := dec_four (show n < 10000 by omega); have e2 := dec_four (show d < 10000 by omega); have e3 := dec_four (show u < 10000 by omega); rw [← hks]; simp; omega
  have hty : allM newM ks = (newM, basL n d u) := by rw [← hks]; exact typed_basal (by omega) (by omega) (by omega)
  rw [hks] at HK7
  obtain ⟨E1, hE1⟩ : ∃ E : ByteArray, (⟨#[98]⟩ : ByteArray) ++ D1 = E := ⟨_, rfl⟩
  obtain ⟨E2, hE2⟩ : ∃ E : ByteArray, E1 ++ (⟨#[10]⟩ : ByteArray) = E := ⟨_, rfl⟩
  obtain ⟨E3, hE3⟩ : ∃ E : ByteArray, E2 ++ D2 = E := ⟨_, rfl⟩
  obtain ⟨E4, hE4⟩ : ∃ E : ByteArray, E3 ++ (⟨#[10]⟩ : ByteArray) = E := ⟨_, rfl⟩
  obtain ⟨E5, hE5⟩ : ∃ E : ByteArray, E4 ++ D3 = E := ⟨_, rfl⟩
  obtain ⟨E6, hE6⟩ : ∃ E : ByteArray, E5 ++ (⟨#[10]⟩ : ByteArray) = E := ⟨_, rfl⟩
  rw [hE1, hE2, hE3, hE4, hE5, hE6] at HK7
  have HK : Hid ((⟨ks.toArray⟩ : ByteArray) = E6) := HK7
  have z1 : E1.size ≤ 5 := by rw [← hE1, ByteArray.size_append]; show 1 + D1.size ≤ 5; omega
  have z2 : E2.size ≤ 6 := by rw [← hE2, ByteArray.size_append]; show E1.size + 1 ≤ 6; omega
  have z3 : E3.size ≤ 10 := by rw [← hE3, ByteArray.size_append]; omega
  have z4 : E4.size ≤ 11 := by rw [← hE4, ByteArray.size_append]; show E3.size + 1 ≤ 11; omega
  have z5 : E5.size ≤ 15 := by rw [← hE5, ByteArray.size_append]; omega
  have HA1 := addT hE1 (show 1 + D1.size ≤ 100 by omega)
  have HA2 := addT hE2 (show E1.size + 1 ≤ 100 by omega)
  have HA3 := addT hE3 (by omega)
  have HA4 := addT hE4 (show E3.size + 1 ≤ 100 by omega)
  have HA5 := addT hE5 (by omega)
  have HA6 := addT hE6 (show E5.size + 1 ≤ 100 by omega)
  obtain ⟨l, hl⟩ : ∃ l, basL n d u = l := ⟨_, rfl⟩
  rw [hl] at hty
  have HTY : Hid (allM newM ks = (newM, l)) := hty
  have HBL : Hid (basL n d u = l) := hl
  obtain ⟨q, hq⟩ : ∃ q, l.length = q := ⟨_, rfl⟩
  have HQ : Hid (l.length = q) := hq
  have HK8 := cat3 hD4
  obtain ⟨kt, hkt⟩ : ∃ kt, [111] ++ decDigits v ++ [10] = kt := ⟨_, rfl⟩
  have hktl : kt.length ≤ 1048576 := by have e1 := dec_four (show v < 10000 by omega); rw [← hkt]; simp; omega
  have htb : allM newM kt = (newM, bolL v) := by rw [← hkt]; exact typed_bolus (by omega)
  rw [hkt] at HK8
  obtain ⟨G1, hG1⟩ : ∃ E : ByteArray, (⟨#[111]⟩ : ByteArray) ++ D4 = E := ⟨_, rfl⟩
  obtain ⟨G2, hG2⟩ : ∃ E : ByteArray, G1 ++ (⟨#[10]⟩ : ByteArray) = E := ⟨_, rfl⟩
  rw [hG1, hG2] at HK8
  have HKT : Hid ((⟨kt.toArray⟩ : ByteArray) = G2) := HK8
  have y1 : G1.size ≤ 5 := by rw [← hG1, ByteArray.size_append]; show 1 + D4.size ≤ 5; omega
  have HB1 := addT hG1 (show 1 + D4.size ≤ 100 by omega)
  have HB2 := addT hG2 (show G1.size + 1 ≤ 100 by omega)
  have HG1 : Hid ((⟨#[111]⟩ : ByteArray) ++ D4 = G1) := hG1
  have HG2 : Hid (G1 ++ (⟨#[10]⟩ : ByteArray) = G2) := hG2
  clear hG1 hG2
  obtain ⟨l2, hl2⟩ : ∃ l, bolL v = l := ⟨_, rfl⟩
  rw [hl2] at htb
  have HTB : Hid (allM newM kt = (newM, l2)) := htb
  have HBB : Hid (bolL v = l2) := hl2
  obtain ⟨q2, hq2⟩ : ∃ q, l2.length = q := ⟨_, rfl⟩
  have HQ2 : Hid (l2.length = q2) := hq2
  clear hD1 hD2 hD3 hD4 HK7 hks hty hl hq HK8 hkt htb hl2 hq2 cp3 qv hp3
  go_wp2_with fail
  clear cp0 cp1 cp2 qn qd qu hp0 hp1 hp2
  refine (decS' n D1 HD1.out (by omega) _).mono ?_
  rintro e w2 ⟨rfl, hb2⟩
  have N_5 : Hid ((w1).heap.size ≤ (w2).heap.size) := (hb2).size
  have FW_6 : Hid (Below w.heap.size w (w2)) := bel_on (Nat.le_refl _) FW_3.out (hb2)
  have FQ_7 : Hid (Below w1.heap.size w1 (w2)) := bel_on (Nat.le_refl _) FQ_4.out (hb2)
  clear FW_3 FQ_4
  clear hb2
  go_wp2_with fail
  refine (decS' d D2 HD2.out (by omega) _).mono ?_
  rintro e w3 ⟨rfl, hb3⟩
  have N_8 : Hid ((w2).heap.size ≤ (w3).heap.size) := (hb3).size
  have FW_9 : Hid (Below w.heap.size w (w3)) := bel_on (Nat.le_refl _) FW_6.out (hb3)
  have FQ_10 : Hid (Below w1.heap.size w1 (w3)) := bel_on (Nat.le_refl _) FQ_7.out (hb3)
  clear FW_6 FQ_7
  clear hb3
  go_wp2_with fail
  refine (decS' u D3 HD3.out (by omega) _).mono ?_
  rintro e w4 ⟨rfl, hb4⟩
  have N_11 : Hid ((w3).heap.size ≤ (w4).heap.size) := (hb4).size
  have FW_12 : Hid (Below w.heap.size w (w4)) := bel_on (Nat.le_refl _) FW_9.out (hb4)
  have FQ_13 : Hid (Below w1.heap.size w1 (w4)) := bel_on (Nat.le_refl _) FQ_10.out (hb4)
  clear FW_9 FQ_10
  clear hb4
  go_wp2_with fail
  refine (menunewI _).mono ?_
  rintro e w5 ⟨rfl, hb5⟩
  have N_14 : Hid ((w4).heap.size ≤ (w5).heap.size) := (hb5).size
  have FW_15 : Hid (Below w.heap.size w (w5)) := bel_on (Nat.le_refl _) FW_12.out (hb5)
  have FQ_16 : Hid (Below w1.heap.size w1 (w5)) := bel_on (Nat.le_refl _) FQ_13.out (hb5)
  clear FW_12 FQ_13
  clear hb5
  go_wp2_with fail
  refine (pressAllI' newM GdM.new ks _ HK.out newM l q HTY.out HQ.out hkl _).mono ?_
  rintro e w6 ⟨g6, c6, rfl, hown6, hb6⟩
  have N_17 : Hid ((w5).heap.size ≤ (w6).heap.size) := (hb6).size
  have FW_18 : Hid (Below w.heap.size w (w6)) := bel_on (Nat.le_refl _) FW_15.out (hb6)
  have FQ_19 : Hid (Below w1.heap.size w1 (w6)) := bel_on (Nat.le_refl _) FQ_16.out (hb6)
  clear FW_15 FQ_16
  have FO9_20 : Hid (OwnA (w6) ((w5).heap.size) g6 q c6 l) := hown6
  clear hown6 hb6
  have N_21 : Hid ((w6).heap.size ≤ (((w6.alloc (.cells #[.int .i64 1, .bool false, .int .i64 0, .int .i64 0, .string ⟨#[]⟩] 26)).alloc (.cells #[.int .i64 1, .int .i64 n, .int .i64 d, .int .i64 u] 34))).heap.size) := (al2_b w6 (.cells #[.int .i64 1, .bool false, .int .i64 0, .int .i64 0, .string ⟨#[]⟩] 26) (.cells #[.int .i64 1, .int .i64 n, .int .i64 d, .int .i64 u] 34)).size
  have FW_22 : Hid (Below w.heap.size w (((w6.alloc (.cells #[.int .i64 1, .bool false, .int .i64 0, .int .i64 0, .string ⟨#[]⟩] 26)).alloc (.cells #[.int .i64 1, .int .i64 n, .int .i64 d, .int .i64 u] 34)))) := bel_on (Nat.le_refl _) FW_18.out (al2_b w6 (.cells #[.int .i64 1, .bool false, .int .i64 0, .int .i64 0, .string ⟨#[]⟩] 26) (.cells #[.int .i64 1, .int .i64 n, .int .i64 d, .int .i64 u] 34))
  have FQ_23 : Hid (Below w1.heap.size w1 (((w6.alloc (.cells #[.int .i64 1, .bool false, .int .i64 0, .int .i64 0, .string ⟨#[]⟩] 26)).alloc (.cells #[.int .i64 1, .int .i64 n, .int .i64 d, .int .i64 u] 34)))) := bel_on (Nat.le_refl _) FQ_19.out (al2_b w6 (.cells #[.int .i64 1, .bool false, .int .i64 0, .int .i64 0, .string ⟨#[]⟩] 26) (.cells #[.int .i64 1, .int .i64 n, .int .i64 d, .int .i64 u] 34))
  clear FW_18 FQ_19
  have FO9_24 : Hid (OwnA (((w6.alloc (.cells #[.int .i64 1, .bool false, .int .i64 0, .int .i64 0, .string ⟨#[]⟩] 26)).alloc (.cells #[.int .i64 1, .int .i64 n, .int .i64 d, .int .i64 u] 34))) ((w5).heap.size) g6 q c6 l) := FO9_20.out.on (al2_b w6 (.cells #[.int .i64 1, .bool false, .int .i64 0, .int .i64 0, .string ⟨#[]⟩] 26) (.cells #[.int .i64 1, .int .i64 n, .int .i64 d, .int .i64 u] 34))
  clear FO9_20
  have N_25 : Hid (((w6.alloc (.cells #[.int .i64 1, .bool false, .int .i64 0, .int .i64 0, .string ⟨#[]⟩] 26)).alloc (.cells #[.int .i64 1, .int .i64 n, .int .i64 d, .int .i64 u] 34)).heap.size = w6.heap.size + 2) := al2_s w6 (.cells #[.int .i64 1, .bool false, .int .i64 0, .int .i64 0, .string ⟨#[]⟩] 26) (.cells #[.int .i64 1, .int .i64 n, .int .i64 d, .int .i64 u] 34)
  have Fb8_26 : Hid ((((w6.alloc (.cells #[.int .i64 1, .bool false, .int .i64 0, .int .i64 0, .string ⟨#[]⟩] 26)).alloc (.cells #[.int .i64 1, .int .i64 n, .int .i64 d, .int .i64 u] 34))).heap[w6.heap.size]? = some (.cells #[.int .i64 1, .bool false, .int .i64 0, .int .i64 0, .string ⟨#[]⟩] 26)) := al2_1 w6 (.cells #[.int .i64 1, .bool false, .int .i64 0, .int .i64 0, .string ⟨#[]⟩] 26) (.cells #[.int .i64 1, .int .i64 n, .int .i64 d, .int .i64 u] 34)
  have Fb10_27 : Hid ((((w6.alloc (.cells #[.int .i64 1, .bool false, .int .i64 0, .int .i64 0, .string ⟨#[]⟩] 26)).alloc (.cells #[.int .i64 1, .int .i64 n, .int .i64 d, .int .i64 u] 34))).heap[w6.heap.size + 1]? = some (.cells #[.int .i64 1, .int .i64 n, .int .i64 d, .int .i64 u] 34)) := al2_2 w6 (.cells #[.int .i64 1, .bool false, .int .i64 0, .int .i64 0, .string ⟨#[]⟩] 26) (.cells #[.int .i64 1, .int .i64 n, .int .i64 d, .int .i64 u] 34)
  unfold mnV newM
  dsimp only
  clear hE1 hE2 hE3 hE4 hE5 hE6 z1 z2 z3 z4 z5 HA1 HA2 HA3 HA4 HA5 HA6 s1 s2 s3 HK HTY HD1 HD2 HD3 hkl
  go_upto_region 10 with fail
  generalize ((w6.alloc (.cells #[.int .i64 1, .bool false, .int .i64 0, .int .i64 0, .string ⟨#[]⟩] 26)).alloc (.cells #[.int .i64 1, .int .i64 n, .int .i64 d, .int .i64 u] 34)) = w7 at *
  have HW0 : Hid (Below (w7).heap.size (w7) (w7).drew) := (Below.refl _ _).drew
  go_cut [11, 12] (fun o1 o2 wc => ∃ (X : Nat) (g : Option Addr) (c : Nat), o1 = .pointer (some ⟨X, 0, none⟩) ∧ o2 = .slice g q2 c ∧ Hid (wc.heap[X]? = some (.cells #[.int .i64 1, .bool false, .int .i64 0, .int .i64 0, .string ⟨#[]⟩] 26)) ∧ Hid (OwnA wc (w7).heap.size g q2 c l2) ∧ Hid (Below (w7).heap.size (w7) wc) ∧ (w7).heap.size ≤ X)
  case first =>
    have qv := HV.out
    refine wp_region_held_drew (S := fun w' => Below (w7).heap.size (w7) w') (by kernel_rfl) HW0.out (fun hHeld0 => ?_)
    obtain ⟨v0, hv0⟩ : ∃ v0, (w7).drew = v0 := ⟨_, rfl⟩
    rw [hv0] at HW0 hHeld0 ⊢
    clear hv0
    refine wpAnyH_take (i := 0) (v := ?_) rfl (by kernel_rfl) (by kernel_rfl) (by kernel_rfl) (fun _ _ _ h => h) (Or.inl ⟨by rfl, ?_⟩) (by assumption) ?_
    rotate_left
    · intro w_ hSw; (try dsimp only at hSw); have k0_ := box5_cells (row_on Fb8_26.out hSw); go_simp <;> with_reducible rfl
    try simp only [Act.put, List.setIfInBounds_toArray, List.set_cons_zero, List.set_cons_succ, List.getElem_toArray, List.getElem_cons_zero, List.getElem_cons_succ]
    refine wpAnyH_take (i := 1) (v := ?_) rfl (by kernel_rfl) (by kernel_rfl) (by kernel_rfl) (fun _ _ _ h => h) (Or.inl ⟨by rfl, ?_⟩) (by assumption) ?_
    rotate_left
    · intro w_ hSw; (try dsimp only at hSw); go_simp <;> with_reducible rfl
    try simp only [Act.put, List.setIfInBounds_toArray, List.set_cons_zero, List.set_cons_succ, List.getElem_toArray, List.getElem_cons_zero, List.getElem_cons_succ]
    refine wpAnyH_take (i := 2) (v := ?_) rfl (by kernel_rfl) (by kernel_rfl) (by kernel_rfl) (fun _ _ _ h => h) (Or.inl ⟨by rfl, ?_⟩) (by assumption) ?_
    rotate_left
    · intro w_ hSw; (try dsimp only at hSw); go_simp <;> with_reducible rfl
    try simp only [Act.put, List.setIfInBounds_toArray, List.set_cons_zero, List.set_cons_succ, List.getElem_toArray, List.getElem_cons_zero, List.getElem_cons_succ]
    refine wpAnyH_take (i := 3) (v := ?_) rfl (by kernel_rfl) (by kernel_rfl) (by kernel_rfl) (fun _ _ _ h => h) (Or.inl ⟨by rfl, ?_⟩) (by assumption) ?_
    rotate_left
    · intro w_ hSw; (try dsimp only at hSw); have k0_ := cell_bel (cell_bel HP3.out FQ_23.out) hSw; go_simp <;> with_reducible rfl
    try simp only [Act.put, List.setIfInBounds_toArray, List.set_cons_zero, List.set_cons_succ, List.getElem_toArray, List.getElem_cons_zero, List.getElem_cons_succ]
    refine wpAnyH_take (i := 4) (v := ?_) rfl (by kernel_rfl) (by kernel_rfl) (by kernel_rfl) (fun _ _ _ h => h) (Or.inl ⟨by rfl, ?_⟩) (by assumption) ?_
    rotate_left
    · intro w_ hSw; (try dsimp only at hSw); go_simp <;> with_reducible rfl
    try simp only [Act.put, List.setIfInBounds_toArray, List.set_cons_zero, List.set_cons_succ, List.getElem_toArray, List.getElem_cons_zero, List.getElem_cons_succ]
    refine wpAnyH_ready (rs := [5, 12]) (by kernel_rfl) (by simp) ?_
    refine AllReadyH.cons rfl (fun J hJ => ?_) (AllReadyH.cons rfl (fun J hJ => ?_) AllReadyH.nil)
    · go_simp
      go_at_call 19
      refine (decS' v D4 HD4.out (by omega) _).mono ?_
      rintro e v1 ⟨rfl, hbc⟩
      have HW1 : Hid (Below (w7).heap.size (w7) v1) := bel_on (Nat.le_refl _) HW0.out hbc
      clear hbc HW0
      go_wp2_with fail
      refine hJ.out _ _ HW1.out (fun hHeld1 => ?_)
      clear hJ J hHeld0
      try simp only [Act.put, List.setIfInBounds_toArray, List.set_cons_zero, List.set_cons_succ, List.getElem_toArray, List.getElem_cons_zero, List.getElem_cons_succ]
      refine wpAnyH_take (i := 6) (v := ?_) rfl (by kernel_rfl) (by kernel_rfl) (by kernel_rfl) (fun _ _ _ h => h) (Or.inl ⟨by rfl, ?_⟩) (by assumption) ?_
      rotate_left
      · intro w_ hSw; (try dsimp only at hSw); have k0_ := HB1.out w_; go_simp <;> with_reducible rfl
      try simp only [Act.put, List.setIfInBounds_toArray, List.set_cons_zero, List.set_cons_succ, List.getElem_toArray, List.getElem_cons_zero, List.getElem_cons_succ]
      refine wpAnyH_take (i := 7) (v := ?_) rfl (by kernel_rfl) (by kernel_rfl) (by kernel_rfl) (fun _ _ _ h => h) (Or.inl ⟨by rfl, ?_⟩) (by assumption) ?_
      rotate_left
      · intro w_ hSw; (try dsimp only at hSw); have k0_ := HB2.out w_; go_simp <;> with_reducible rfl
      try simp only [Act.put, List.setIfInBounds_toArray, List.set_cons_zero, List.set_cons_succ, List.getElem_toArray, List.getElem_cons_zero, List.getElem_cons_succ]
      refine wpAnyH_ready (rs := [8, 12]) (by kernel_rfl) (by simp) ?_
      refine AllReadyH.cons rfl (fun J hJ => ?_) (AllReadyH.cons rfl (fun J hJ => ?_) AllReadyH.nil)
      · go_simp
        go_at_call 12
        refine (pressAllI' newM GdM.new kt _ HKT.out newM l2 q2 HTB.out HQ2.out hktl _).mono ?_
        rintro e v2 ⟨gq, cq, rfl, hoq, hbc⟩
        have hsz2 := HW1.out.size
        have HW2 : Hid (Below (w7).heap.size (w7) v2) := bel_on (Nat.le_refl _) HW1.out hbc
        have HO2 : Hid (OwnA v2 (w7).heap.size gq q2 cq l2) := hoq.mono hsz2
        unfold mnV newM
        dsimp only
        clear hoq hbc HW1
        go_wp2_with fail
        refine hJ.out _ _ HW2.out (fun hHeld2 => ?_)
        clear hJ J hHeld1
        try simp only [Act.put, List.setIfInBounds_toArray, List.set_cons_zero, List.set_cons_succ, List.getElem_toArray, List.getElem_cons_zero, List.getElem_cons_succ]
        refine wpAnyH_take (i := 9) (v := ?_) rfl (by kernel_rfl) (by kernel_rfl) (by kernel_rfl) (fun _ _ _ h => h) (Or.inl ⟨by rfl, ?_⟩) (by assumption) ?_
        rotate_left
        · intro w_ hSw; (try dsimp only at hSw); go_simp <;> with_reducible rfl
        try simp only [Act.put, List.setIfInBounds_toArray, List.set_cons_zero, List.set_cons_succ, List.getElem_toArray, List.getElem_cons_zero, List.getElem_cons_succ]
        refine wpAnyH_take (i := 10) (v := ?_) rfl (by kernel_rfl) (by kernel_rfl) (by kernel_rfl) (fun _ _ _ h => h) (Or.inl ⟨by rfl, ?_⟩) (by assumption) ?_
        rotate_left
        · intro w_ hSw; (try dsimp only at hSw); go_simp <;> with_reducible rfl
        try simp only [Act.put, List.setIfInBounds_toArray, List.set_cons_zero, List.set_cons_succ, List.getElem_toArray, List.getElem_cons_zero, List.getElem_cons_succ]
        refine wpAnyH_take (i := 11) (v := ?_) rfl (by kernel_rfl) (by kernel_rfl) (by kernel_rfl) (fun _ _ _ h => h) (Or.inl ⟨by rfl, ?_⟩) (by assumption) ?_
        rotate_left
        · intro w_ hSw; (try dsimp only at hSw); go_simp <;> with_reducible rfl
        try simp only [Act.put, List.setIfInBounds_toArray, List.set_cons_zero, List.set_cons_succ, List.getElem_toArray, List.getElem_cons_zero, List.getElem_cons_succ]
        refine wpAnyH_ready (rs := [12]) (by kernel_rfl) (by simp) ?_
        refine AllReadyH.cons rfl (fun J hJ => ?_) AllReadyH.nil
        go_simp
        have hsz3 := HW2.out.size
        have HW3 : Hid (Below (w7).heap.size (w7) (v2.alloc (.cells #[.int .i64 0, .bool false, .int .i64 0, .int .i64 0, .string ⟨#[]⟩] 26))) := bel_on (Nat.le_refl _) HW2.out (alM _ _)
        have HO3 : Hid (OwnA (v2.alloc (.cells #[.int .i64 0, .bool false, .int .i64 0, .int .i64 0, .string ⟨#[]⟩] 26)) (w7).heap.size gq q2 cq l2) := HO2.out.on (alM _ _)
        have HX3 : Hid ((v2.alloc (.cells #[.int .i64 0, .bool false, .int .i64 0, .int .i64 0, .string ⟨#[]⟩] 26)).heap[v2.heap.size]? = some (.cells #[.int .i64 0, .bool false, .int .i64 0, .int .i64 0, .string ⟨#[]⟩] 26)) := heap_new v2 _
        refine hJ.out _ _ HW3.out (fun hHeld3 => ?_)
        clear hJ J hHeld2 HW2 HO2
        try simp only [Act.put, List.setIfInBounds_toArray, List.set_cons_zero, List.set_cons_succ, List.getElem_toArray, List.getElem_cons_zero, List.getElem_cons_succ]
        generalize v2.alloc (.cells #[.int .i64 0, .bool false, .int .i64 0, .int .i64 0, .string ⟨#[]⟩] 26) = v3 at *
        generalize v2.heap.size = X at *
        refine wpAnyH_ready (rs := [13]) (by kernel_rfl) (by simp) ?_
        refine AllReadyH.cons rfl (fun J hJ => ?_) AllReadyH.nil
        refine storeM_any rfl rfl _ _ _ rfl rfl X 1 false 0 0 ⟨#[]⟩ rfl rfl HX3.out ?_
        intro v9 hput
        have HW9 : Hid (Below (w7).heap.size (w7) v9) := hput.2.2.2 _ _ (by omega) HW3.out
        have HX9 : Hid (v9.heap[X]? = some (.cells #[.int .i64 1, .bool false, .int .i64 0, .int .i64 0, .string ⟨#[]⟩] 26)) := hput.1
        have HO9 : Hid (OwnA v9 (w7).heap.size gq q2 cq l2) := HO3.out.put hput HX3.out
        clear hput HW3 HX3 HO3
        refine hJ.out _ _ HW9.out (fun hHeld9 => ?_)
        clear hJ J hHeld3
        try simp only [Act.put, List.setIfInBounds_toArray, List.set_cons_zero, List.set_cons_succ, List.getElem_toArray, List.getElem_cons_zero, List.getElem_cons_succ]
        refine wpAnyH_take (i := 14) (v := ?_) rfl (by kernel_rfl) (by kernel_rfl) (by kernel_rfl) (fun _ _ _ h => h) (Or.inl ⟨by rfl, ?_⟩) (by assumption) ?_
        rotate_left
        · intro w_ hSw; (try dsimp only at hSw); go_simp <;> with_reducible rfl
        try simp only [Act.put, List.setIfInBounds_toArray, List.set_cons_zero, List.set_cons_succ, List.getElem_toArray, List.getElem_cons_zero, List.getElem_cons_succ]
        clear hHeld9
        refine wpAnyH_done (by kernel_rfl) ?_ _
        (try go_wp2_with fail)
        go_meet
        exact ⟨X, gq, cq, rfl, rfl, HX9, HO9, HW9, by omega⟩
      · go_simp
        have hsz2 := HW1.out.size
        have HW2 : Hid (Below (w7).heap.size (w7) (v1.alloc (.cells #[.int .i64 0, .bool false, .int .i64 0, .int .i64 0, .string ⟨#[]⟩] 26))) := bel_on (Nat.le_refl _) HW1.out (alM _ _)
        have HX2 : Hid ((v1.alloc (.cells #[.int .i64 0, .bool false, .int .i64 0, .int .i64 0, .string ⟨#[]⟩] 26)).heap[v1.heap.size]? = some (.cells #[.int .i64 0, .bool false, .int .i64 0, .int .i64 0, .string ⟨#[]⟩] 26)) := heap_new v1 _
        refine hJ.out _ _ HW2.out (fun hHeld2 => ?_)
        clear hJ J hHeld1 HW1
        try simp only [Act.put, List.setIfInBounds_toArray, List.set_cons_zero, List.set_cons_succ, List.getElem_toArray, List.getElem_cons_zero, List.getElem_cons_succ]
        generalize v1.alloc (.cells #[.int .i64 0, .bool false, .int .i64 0, .int .i64 0, .string ⟨#[]⟩] 26) = v2 at *
        generalize v1.heap.size = X at *
        refine wpAnyH_ready (rs := [8]) (by kernel_rfl) (by simp) ?_
        refine AllReadyH.cons rfl (fun J hJ => ?_) AllReadyH.nil
        go_simp
        go_at_call 12
        refine (pressAllI' newM GdM.new kt _ HKT.out newM l2 q2 HTB.out HQ2.out hktl _).mono ?_
        rintro e v3 ⟨gq, cq, rfl, hoq, hbc⟩
        have hsz3 := HW2.out.size
        have HW3 : Hid (Below (w7).heap.size (w7) v3) := bel_on (Nat.le_refl _) HW2.out hbc
        have HX3 : Hid (v3.heap[X]? = some (.cells #[.int .i64 0, .bool false, .int .i64 0, .int .i64 0, .string ⟨#[]⟩] 26)) := row_on HX2.out hbc
        have HO3 : Hid (OwnA v3 (w7).heap.size gq q2 cq l2) := hoq.mono hsz3
        unfold mnV newM
        dsimp only
        clear hoq hbc HW2 HX2
        go_wp2_with fail
        refine hJ.out _ _ HW3.out (fun hHeld3 => ?_)
        clear hJ J hHeld2
        try simp only [Act.put, List.setIfInBounds_toArray, List.set_cons_zero, List.set_cons_succ, List.getElem_toArray, List.getElem_cons_zero, List.getElem_cons_succ]
        refine wpAnyH_take (i := 9) (v := ?_) rfl (by kernel_rfl) (by kernel_rfl) (by kernel_rfl) (fun _ _ _ h => h) (Or.inl ⟨by rfl, ?_⟩) (by assumption) ?_
        rotate_left
        · intro w_ hSw; (try dsimp only at hSw); go_simp <;> with_reducible rfl
        try simp only [Act.put, List.setIfInBounds_toArray, List.set_cons_zero, List.set_cons_succ, List.getElem_toArray, List.getElem_cons_zero, List.getElem_cons_succ]
        refine wpAnyH_take (i := 10) (v := ?_) rfl (by kernel_rfl) (by kernel_rfl) (by kernel_rfl) (fun _ _ _ h => h) (Or.inl ⟨by rfl, ?_⟩) (by assumption) ?_
        rotate_left
        · intro w_ hSw; (try dsimp only at hSw); go_simp <;> with_reducible rfl
        try simp only [Act.put, List.setIfInBounds_toArray, List.set_cons_zero, List.set_cons_succ, List.getElem_toArray, List.getElem_cons_zero, List.getElem_cons_succ]
        refine wpAnyH_take (i := 11) (v := ?_) rfl (by kernel_rfl) (by kernel_rfl) (by kernel_rfl) (fun _ _ _ h => h) (Or.inl ⟨by rfl, ?_⟩) (by assumption) ?_
        rotate_left
        · intro w_ hSw; (try dsimp only at hSw); go_simp <;> with_reducible rfl
        try simp only [Act.put, List.setIfInBounds_toArray, List.set_cons_zero, List.set_cons_succ, List.getElem_toArray, List.getElem_cons_zero, List.getElem_cons_succ]
        refine wpAnyH_ready (rs := [13]) (by kernel_rfl) (by simp) ?_
        refine AllReadyH.cons rfl (fun J hJ => ?_) AllReadyH.nil
        refine storeM_any rfl rfl _ _ _ rfl rfl X 1 false 0 0 ⟨#[]⟩ rfl rfl HX3.out ?_
        intro v9 hput
        have HW9 : Hid (Below (w7).heap.size (w7) v9) := hput.2.2.2 _ _ (by omega) HW3.out
        have HX9 : Hid (v9.heap[X]? = some (.cells #[.int .i64 1, .bool false, .int .i64 0, .int .i64 0, .string ⟨#[]⟩] 26)) := hput.1
        have HO9 : Hid (OwnA v9 (w7).heap.size gq q2 cq l2) := HO3.out.put hput HX3.out
        clear hput HW3 HX3 HO3
        refine hJ.out _ _ HW9.out (fun hHeld9 => ?_)
        clear hJ J hHeld3
        try simp only [Act.put, List.setIfInBounds_toArray, List.set_cons_zero, List.set_cons_succ, List.getElem_toArray, List.getElem_cons_zero, List.getElem_cons_succ]
        refine wpAnyH_take (i := 14) (v := ?_) rfl (by kernel_rfl) (by kernel_rfl) (by kernel_rfl) (fun _ _ _ h => h) (Or.inl ⟨by rfl, ?_⟩) (by assumption) ?_
        rotate_left
        · intro w_ hSw; (try dsimp only at hSw); go_simp <;> with_reducible rfl
        try simp only [Act.put, List.setIfInBounds_toArray, List.set_cons_zero, List.set_cons_succ, List.getElem_toArray, List.getElem_cons_zero, List.getElem_cons_succ]
        clear hHeld9
        refine wpAnyH_done (by kernel_rfl) ?_ _
        (try go_wp2_with fail)
        go_meet
        exact ⟨X, gq, cq, rfl, rfl, HX9, HO9, HW9, by omega⟩
    · go_simp
      have hsz1 := HW0.out.size
      have HW1 : Hid (Below (w7).heap.size (w7) (v0.alloc (.cells #[.int .i64 0, .bool false, .int .i64 0, .int .i64 0, .string ⟨#[]⟩] 26))) := bel_on (Nat.le_refl _) HW0.out (alM _ _)
      have HX1 : Hid ((v0.alloc (.cells #[.int .i64 0, .bool false, .int .i64 0, .int .i64 0, .string ⟨#[]⟩] 26)).heap[v0.heap.size]? = some (.cells #[.int .i64 0, .bool false, .int .i64 0, .int .i64 0, .string ⟨#[]⟩] 26)) := heap_new v0 _
      refine hJ.out _ _ HW1.out (fun hHeld1 => ?_)
      clear hJ J hHeld0 HW0
      try simp only [Act.put, List.setIfInBounds_toArray, List.set_cons_zero, List.set_cons_succ, List.getElem_toArray, List.getElem_cons_zero, List.getElem_cons_succ]
      generalize v0.alloc (.cells #[.int .i64 0, .bool false, .int .i64 0, .int .i64 0, .string ⟨#[]⟩] 26) = v1 at *
      generalize v0.heap.size = X at *
      refine wpAnyH_ready (rs := [5]) (by kernel_rfl) (by simp) ?_
      refine AllReadyH.cons rfl (fun J hJ => ?_) AllReadyH.nil
      go_simp
      go_at_call 19
      refine (decS' v D4 HD4.out (by omega) _).mono ?_
      rintro e v2 ⟨rfl, hbc⟩
      have HW2 : Hid (Below (w7).heap.size (w7) v2) := bel_on (Nat.le_refl _) HW1.out hbc
      have HX2 : Hid (v2.heap[X]? = some (.cells #[.int .i64 0, .bool false, .int .i64 0, .int .i64 0, .string ⟨#[]⟩] 26)) := row_on HX1.out hbc
      clear hbc HW1 HX1
      go_wp2_with fail
      refine hJ.out _ _ HW2.out (fun hHeld2 => ?_)
      clear hJ J hHeld1
      try simp only [Act.put, List.setIfInBounds_toArray, List.set_cons_zero, List.set_cons_succ, List.getElem_toArray, List.getElem_cons_zero, List.getElem_cons_succ]
      refine wpAnyH_take (i := 6) (v := ?_) rfl (by kernel_rfl) (by kernel_rfl) (by kernel_rfl) (fun _ _ _ h => h) (Or.inl ⟨by rfl, ?_⟩) (by assumption) ?_
      rotate_left
      · intro w_ hSw; (try dsimp only at hSw); have k0_ := HB1.out w_; go_simp <;> with_reducible rfl
      try simp only [Act.put, List.setIfInBounds_toArray, List.set_cons_zero, List.set_cons_succ, List.getElem_toArray, List.getElem_cons_zero, List.getElem_cons_succ]
      refine wpAnyH_take (i := 7) (v := ?_) rfl (by kernel_rfl) (by kernel_rfl) (by kernel_rfl) (fun _ _ _ h => h) (Or.inl ⟨by rfl, ?_⟩) (by assumption) ?_
      rotate_left
      · intro w_ hSw; (try dsimp only at hSw); have k0_ := HB2.out w_; go_simp <;> with_reducible rfl
      try simp only [Act.put, List.setIfInBounds_toArray, List.set_cons_zero, List.set_cons_succ, List.getElem_toArray, List.getElem_cons_zero, List.getElem_cons_succ]
      refine wpAnyH_ready (rs := [8]) (by kernel_rfl) (by simp) ?_
      refine AllReadyH.cons rfl (fun J hJ => ?_) AllReadyH.nil
      go_simp
      go_at_call 12
      refine (pressAllI' newM GdM.new kt _ HKT.out newM l2 q2 HTB.out HQ2.out hktl _).mono ?_
      rintro e v3 ⟨gq, cq, rfl, hoq, hbc⟩
      have hsz3 := HW2.out.size
      have HW3 : Hid (Below (w7).heap.size (w7) v3) := bel_on (Nat.le_refl _) HW2.out hbc
      have HX3 : Hid (v3.heap[X]? = some (.cells #[.int .i64 0, .bool false, .int .i64 0, .int .i64 0, .string ⟨#[]⟩] 26)) := row_on HX2.out hbc
      have HO3 : Hid (OwnA v3 (w7).heap.size gq q2 cq l2) := hoq.mono hsz3
      unfold mnV newM
      dsimp only
      clear hoq hbc HW2 HX2
      go_wp2_with fail
      refine hJ.out _ _ HW3.out (fun hHeld3 => ?_)
      clear hJ J hHeld2
      try simp only [Act.put, List.setIfInBounds_toArray, List.set_cons_zero, List.set_cons_succ, List.getElem_toArray, List.getElem_cons_zero, List.getElem_cons_succ]
      refine wpAnyH_take (i := 9) (v := ?_) rfl (by kernel_rfl) (by kernel_rfl) (by kernel_rfl) (fun _ _ _ h => h) (Or.inl ⟨by rfl, ?_⟩) (by assumption) ?_
      rotate_left
      · intro w_ hSw; (try dsimp only at hSw); go_simp <;> with_reducible rfl
      try simp only [Act.put, List.setIfInBounds_toArray, List.set_cons_zero, List.set_cons_succ, List.getElem_toArray, List.getElem_cons_zero, List.getElem_cons_succ]
      refine wpAnyH_take (i := 10) (v := ?_) rfl (by kernel_rfl) (by kernel_rfl) (by kernel_rfl) (fun _ _ _ h => h) (Or.inl ⟨by rfl, ?_⟩) (by assumption) ?_
      rotate_left
      · intro w_ hSw; (try dsimp only at hSw); go_simp <;> with_reducible rfl
      try simp only [Act.put, List.setIfInBounds_toArray, List.set_cons_zero, List.set_cons_succ, List.getElem_toArray, List.getElem_cons_zero, List.getElem_cons_succ]
      refine wpAnyH_take (i := 11) (v := ?_) rfl (by kernel_rfl) (by kernel_rfl) (by kernel_rfl) (fun _ _ _ h => h) (Or.inl ⟨by rfl, ?_⟩) (by assumption) ?_
      rotate_left
      · intro w_ hSw; (try dsimp only at hSw); go_simp <;> with_reducible rfl
      try simp only [Act.put, List.setIfInBounds_toArray, List.set_cons_zero, List.set_cons_succ, List.getElem_toArray, List.getElem_cons_zero, List.getElem_cons_succ]
      refine wpAnyH_ready (rs := [13]) (by kernel_rfl) (by simp) ?_
      refine AllReadyH.cons rfl (fun J hJ => ?_) AllReadyH.nil
      refine storeM_any rfl rfl _ _ _ rfl rfl X 1 false 0 0 ⟨#[]⟩ rfl rfl HX3.out ?_
      intro v9 hput
      have HW9 : Hid (Below (w7).heap.size (w7) v9) := hput.2.2.2 _ _ (by omega) HW3.out
      have HX9 : Hid (v9.heap[X]? = some (.cells #[.int .i64 1, .bool false, .int .i64 0, .int .i64 0, .string ⟨#[]⟩] 26)) := hput.1
      have HO9 : Hid (OwnA v9 (w7).heap.size gq q2 cq l2) := HO3.out.put hput HX3.out
      clear hput HW3 HX3 HO3
      refine hJ.out _ _ HW9.out (fun hHeld9 => ?_)
      clear hJ J hHeld3
      try simp only [Act.put, List.setIfInBounds_toArray, List.set_cons_zero, List.set_cons_succ, List.getElem_toArray, List.getElem_cons_zero, List.getElem_cons_succ]
      refine wpAnyH_take (i := 14) (v := ?_) rfl (by kernel_rfl) (by kernel_rfl) (by kernel_rfl) (fun _ _ _ h => h) (Or.inl ⟨by rfl, ?_⟩) (by assumption) ?_
      rotate_left
      · intro w_ hSw; (try dsimp only at hSw); go_simp <;> with_reducible rfl
      try simp only [Act.put, List.setIfInBounds_toArray, List.set_cons_zero, List.set_cons_succ, List.getElem_toArray, List.getElem_cons_zero, List.getElem_cons_succ]
      clear hHeld9
      refine wpAnyH_done (by kernel_rfl) ?_ _
      (try go_wp2_with fail)
      go_meet
      exact ⟨X, gq, cq, rfl, rfl, HX9, HO9, HW9, by omega⟩
  case rest =>
    clear HW0
    obtain ⟨X11, g12, c12, rfl, rfl, HX11, HO12, HB11, hX11⟩ := hcut
    generalize hwc : wc = w9 at *
    clear hwc
    have N_28 : Hid ((w7).heap.size ≤ (w9).heap.size) := (HB11.out).size
    have FW_29 : Hid (Below w.heap.size w (w9)) := bel_on (Nat.le_refl _) FW_22.out (HB11.out)
    have FQ_30 : Hid (Below w1.heap.size w1 (w9)) := bel_on (Nat.le_refl _) FQ_23.out (HB11.out)
    have Fb8_31 : Hid ((w9).heap[w6.heap.size]? = some (.cells #[.int .i64 1, .bool false, .int .i64 0, .int .i64 0, .string ⟨#[]⟩] 26)) := row_on Fb8_26.out (HB11.out)
    have Fb10_32 : Hid ((w9).heap[w6.heap.size + 1]? = some (.cells #[.int .i64 1, .int .i64 n, .int .i64 d, .int .i64 u] 34)) := row_on Fb10_27.out (HB11.out)
    clear FW_22 FQ_23 Fb8_26 Fb10_27
    have FO9_33 : Hid (OwnA (w9) ((w5).heap.size) g6 q c6 l) := FO9_24.out.on (HB11.out)
    clear FO9_24
    have Fb11_34 : Hid ((w9).heap[X11]? = some (.cells #[.int .i64 1, .bool false, .int .i64 0, .int .i64 0, .string ⟨#[]⟩] 26)) := HX11.out
    have FO12_35 : Hid (OwnA (w9) ((w7).heap.size) g12 q2 c12 l2) := HO12.out
    clear HX11 HO12 HB11
    go_wp2_with fail
    refine (menunewI _).mono ?_
    rintro e w10 ⟨rfl, hb10⟩
    have N_36 : Hid ((w9).heap.size ≤ (w10).heap.size) := (hb10).size
    have FW_37 : Hid (Below w.heap.size w (w10)) := bel_on (Nat.le_refl _) FW_29.out (hb10)
    have FQ_38 : Hid (Below w1.heap.size w1 (w10)) := bel_on (Nat.le_refl _) FQ_30.out (hb10)
    have Fb8_39 : Hid ((w10).heap[w6.heap.size]? = some (.cells #[.int .i64 1, .bool false, .int .i64 0, .int .i64 0, .string ⟨#[]⟩] 26)) := row_on Fb8_31.out (hb10)
    have Fb10_40 : Hid ((w10).heap[w6.heap.size + 1]? = some (.cells #[.int .i64 1, .int .i64 n, .int .i64 d, .int .i64 u] 34)) := row_on Fb10_32.out (hb10)
    have Fb11_41 : Hid ((w10).heap[X11]? = some (.cells #[.int .i64 1, .bool false, .int .i64 0, .int .i64 0, .string ⟨#[]⟩] 26)) := row_on Fb11_34.out (hb10)
    clear FW_29 FQ_30 Fb8_31 Fb10_32 Fb11_34
    have FO9_42 : Hid (OwnA (w10) ((w5).heap.size) g6 q c6 l) := FO9_33.out.on (hb10)
    clear FO9_33
    have FO12_43 : Hid (OwnA (w10) ((w7).heap.size) g12 q2 c12 l2) := FO12_35.out.on (hb10)
    clear FO12_35
    clear hb10
    go_wp2_with fail
    refine (pressAllI newM GdM.new [98, 49, 50, 99] _ 0 typed_c rfl (by decide) _).mono ?_
    rintro e w11 ⟨g11, c11, rfl, _, hb11⟩
    have N_44 : Hid ((w10).heap.size ≤ (w11).heap.size) := (hb11).size
    have FW_45 : Hid (Below w.heap.size w (w11)) := bel_on (Nat.le_refl _) FW_37.out (hb11)
    have FQ_46 : Hid (Below w1.heap.size w1 (w11)) := bel_on (Nat.le_refl _) FQ_38.out (hb11)
    have Fb8_47 : Hid ((w11).heap[w6.heap.size]? = some (.cells #[.int .i64 1, .bool false, .int .i64 0, .int .i64 0, .string ⟨#[]⟩] 26)) := row_on Fb8_39.out (hb11)
    have Fb10_48 : Hid ((w11).heap[w6.heap.size + 1]? = some (.cells #[.int .i64 1, .int .i64 n, .int .i64 d, .int .i64 u] 34)) := row_on Fb10_40.out (hb11)
    have Fb11_49 : Hid ((w11).heap[X11]? = some (.cells #[.int .i64 1, .bool false, .int .i64 0, .int .i64 0, .string ⟨#[]⟩] 26)) := row_on Fb11_41.out (hb11)
    clear FW_37 FQ_38 Fb8_39 Fb10_40 Fb11_41
    have FO9_50 : Hid (OwnA (w11) ((w5).heap.size) g6 q c6 l) := FO9_42.out.on (hb11)
    clear FO9_42
    have FO12_51 : Hid (OwnA (w11) ((w7).heap.size) g12 q2 c12 l2) := FO12_43.out.on (hb11)
    clear FO12_43
    clear hb11
    have N_52 : Hid ((w11).heap.size ≤ (w11.alloc (.cells #[.int .i64 1, .bool false, .int .i64 0, .int .i64 0, .string ⟨#[]⟩] 26)).heap.size) := ((Below.refl (w11).heap.size (w11)).alloc (Nat.le_refl _) (.cells #[.int .i64 1, .bool false, .int .i64 0, .int .i64 0, .string ⟨#[]⟩] 26)).size
    have FW_53 : Hid (Below w.heap.size w (w11.alloc (.cells #[.int .i64 1, .bool false, .int .i64 0, .int .i64 0, .string ⟨#[]⟩] 26))) := bel_on (Nat.le_refl _) FW_45.out ((Below.refl (w11).heap.size (w11)).alloc (Nat.le_refl _) (.cells #[.int .i64 1, .bool false, .int .i64 0, .int .i64 0, .string ⟨#[]⟩] 26))
    have FQ_54 : Hid (Below w1.heap.size w1 (w11.alloc (.cells #[.int .i64 1, .bool false, .int .i64 0, .int .i64 0, .string ⟨#[]⟩] 26))) := bel_on (Nat.le_refl _) FQ_46.out ((Below.refl (w11).heap.size (w11)).alloc (Nat.le_refl _) (.cells #[.int .i64 1, .bool false, .int .i64 0, .int .i64 0, .string ⟨#[]⟩] 26))
    have Fb8_55 : Hid ((w11.alloc (.cells #[.int .i64 1, .bool false, .int .i64 0, .int .i64 0, .string ⟨#[]⟩] 26)).heap[w6.heap.size]? = some (.cells #[.int .i64 1, .bool false, .int .i64 0, .int .i64 0, .string ⟨#[]⟩] 26)) := row_on Fb8_47.out ((Below.refl (w11).heap.size (w11)).alloc (Nat.le_refl _) (.cells #[.int .i64 1, .bool false, .int .i64 0, .int .i64 0, .string ⟨#[]⟩] 26))
    have Fb10_56 : Hid ((w11.alloc (.cells #[.int .i64 1, .bool false, .int .i64 0, .int .i64 0, .string ⟨#[]⟩] 26)).heap[w6.heap.size + 1]? = some (.cells #[.int .i64 1, .int .i64 n, .int .i64 d, .int .i64 u] 34)) := row_on Fb10_48.out ((Below.refl (w11).heap.size (w11)).alloc (Nat.le_refl _) (.cells #[.int .i64 1, .bool false, .int .i64 0, .int .i64 0, .string ⟨#[]⟩] 26))
    have Fb11_57 : Hid ((w11.alloc (.cells #[.int .i64 1, .bool false, .int .i64 0, .int .i64 0, .string ⟨#[]⟩] 26)).heap[X11]? = some (.cells #[.int .i64 1, .bool false, .int .i64 0, .int .i64 0, .string ⟨#[]⟩] 26)) := row_on Fb11_49.out ((Below.refl (w11).heap.size (w11)).alloc (Nat.le_refl _) (.cells #[.int .i64 1, .bool false, .int .i64 0, .int .i64 0, .string ⟨#[]⟩] 26))
    clear FW_45 FQ_46 Fb8_47 Fb10_48 Fb11_49
    have FO9_58 : Hid (OwnA (w11.alloc (.cells #[.int .i64 1, .bool false, .int .i64 0, .int .i64 0, .string ⟨#[]⟩] 26)) ((w5).heap.size) g6 q c6 l) := FO9_50.out.on ((Below.refl (w11).heap.size (w11)).alloc (Nat.le_refl _) (.cells #[.int .i64 1, .bool false, .int .i64 0, .int .i64 0, .string ⟨#[]⟩] 26))
    clear FO9_50
    have FO12_59 : Hid (OwnA (w11.alloc (.cells #[.int .i64 1, .bool false, .int .i64 0, .int .i64 0, .string ⟨#[]⟩] 26)) ((w7).heap.size) g12 q2 c12 l2) := FO12_51.out.on ((Below.refl (w11).heap.size (w11)).alloc (Nat.le_refl _) (.cells #[.int .i64 1, .bool false, .int .i64 0, .int .i64 0, .string ⟨#[]⟩] 26))
    clear FO12_51
    have N_60 : Hid (w11.heap.size < (w11.alloc (.cells #[.int .i64 1, .bool false, .int .i64 0, .int .i64 0, .string ⟨#[]⟩] 26)).heap.size) := by simp [Hid]
    have Fb13_61 : Hid ((w11.alloc (.cells #[.int .i64 1, .bool false, .int .i64 0, .int .i64 0, .string ⟨#[]⟩] 26)).heap[w11.heap.size]? = some (.cells #[.int .i64 1, .bool false, .int .i64 0, .int .i64 0, .string ⟨#[]⟩] 26)) := heap_new w11 _
    unfold mnV newM
    dsimp only
    go_upto_region 12 with fail
    have HS0 : Hid ((w11.alloc (.cells #[.int .i64 1, .bool false, .int .i64 0, .int .i64 0, .string ⟨#[]⟩] 26)).heap[w6.heap.size]? = some (.cells #[.int .i64 1, .bool false, .int .i64 0, .int .i64 0, .string ⟨#[]⟩] 26) ∧ (w11.alloc (.cells #[.int .i64 1, .bool false, .int .i64 0, .int .i64 0, .string ⟨#[]⟩] 26)).heap[w6.heap.size + 1]? = some (.cells #[.int .i64 1, .int .i64 n, .int .i64 d, .int .i64 u] 34) ∧ (w11.alloc (.cells #[.int .i64 1, .bool false, .int .i64 0, .int .i64 0, .string ⟨#[]⟩] 26)).heap[X11]? = some (.cells #[.int .i64 1, .bool false, .int .i64 0, .int .i64 0, .string ⟨#[]⟩] 26) ∧ (w11.alloc (.cells #[.int .i64 1, .bool false, .int .i64 0, .int .i64 0, .string ⟨#[]⟩] 26)).heap[w11.heap.size]? = some (.cells #[.int .i64 1, .bool false, .int .i64 0, .int .i64 0, .string ⟨#[]⟩] 26) ∧ OwnA (w11.alloc (.cells #[.int .i64 1, .bool false, .int .i64 0, .int .i64 0, .string ⟨#[]⟩] 26)) ((w5).heap.size) g6 q c6 l ∧ OwnA (w11.alloc (.cells #[.int .i64 1, .bool false, .int .i64 0, .int .i64 0, .string ⟨#[]⟩] 26)) ((w7).heap.size) g12 q2 c12 l2 ∧ Below w1.heap.size w1 (w11.alloc (.cells #[.int .i64 1, .bool false, .int .i64 0, .int .i64 0, .string ⟨#[]⟩] 26)) ∧ Below w.heap.size w (w11.alloc (.cells #[.int .i64 1, .bool false, .int .i64 0, .int .i64 0, .string ⟨#[]⟩] 26))) := ⟨Fb8_55.out, Fb10_56.out, Fb11_57.out, Fb13_61.out, FO9_58.out, FO12_59.out, FQ_54.out, FW_53.out⟩
    clear FW_53 FQ_54 Fb8_55 Fb10_56 Fb11_57 FO9_58 FO12_59 Fb13_61
    obtain ⟨X13, hX13⟩ : ∃ x, w11.heap.size = x := ⟨_, rfl⟩
    obtain ⟨B12, hB12⟩ : ∃ x, ((w7).heap.size) = x := ⟨_, rfl⟩
    obtain ⟨X10, hX10⟩ : ∃ x, w6.heap.size + 1 = x := ⟨_, rfl⟩
    obtain ⟨B9, hB9⟩ : ∃ x, ((w5).heap.size) = x := ⟨_, rfl⟩
    obtain ⟨X8, hX8⟩ : ∃ x, w6.heap.size = x := ⟨_, rfl⟩
    rw [hX13, hB12, hX10, hB9, hX8] at HS0
    (try rw [hX13])
    (try rw [hX10])
    (try rw [hX8])
    clear hX13 hB12 hX10 hB9 hX8
    obtain ⟨w12, hw12⟩ : ∃ w12, w11.alloc (.cells #[.int .i64 1, .bool false, .int .i64 0, .int .i64 0, .string ⟨#[]⟩] 26) = w12 := ⟨_, rfl⟩
    rw [hw12] at HS0
    rw [hw12]
    clear hw12
    have HS1 : Hid (w12.drew.heap[X8]? = some (.cells #[.int .i64 1, .bool false, .int .i64 0, .int .i64 0, .string ⟨#[]⟩] 26) ∧ w12.drew.heap[X10]? = some (.cells #[.int .i64 1, .int .i64 n, .int .i64 d, .int .i64 u] 34) ∧ w12.drew.heap[X11]? = some (.cells #[.int .i64 1, .bool false, .int .i64 0, .int .i64 0, .string ⟨#[]⟩] 26) ∧ w12.drew.heap[X13]? = some (.cells #[.int .i64 1, .bool false, .int .i64 0, .int .i64 0, .string ⟨#[]⟩] 26) ∧ OwnA w12.drew B9 g6 q c6 l ∧ OwnA w12.drew B12 g12 q2 c12 l2 ∧ Below w1.heap.size w1 w12.drew ∧ Below w.heap.size w w12.drew) := ⟨HS0.out.1, HS0.out.2.1, HS0.out.2.2.1, HS0.out.2.2.2.1, HS0.out.2.2.2.2.1.drew, HS0.out.2.2.2.2.2.1.drew, HS0.out.2.2.2.2.2.2.1.drew, HS0.out.2.2.2.2.2.2.2.drew⟩
    refine wp_region_held_drew (S := fun w' => w'.heap[X8]? = some (.cells #[.int .i64 1, .bool false, .int .i64 0, .int .i64 0, .string ⟨#[]⟩] 26) ∧ w'.heap[X10]? = some (.cells #[.int .i64 1, .int .i64 n, .int .i64 d, .int .i64 u] 34) ∧ w'.heap[X11]? = some (.cells #[.int .i64 1, .bool false, .int .i64 0, .int .i64 0, .string ⟨#[]⟩] 26) ∧ w'.heap[X13]? = some (.cells #[.int .i64 1, .bool false, .int .i64 0, .int .i64 0, .string ⟨#[]⟩] 26) ∧ OwnA w' B9 g6 q c6 l ∧ OwnA w' B12 g12 q2 c12 l2 ∧ Below w1.heap.size w1 w' ∧ Below w.heap.size w w') (by kernel_rfl) HS1.out (fun hHeld => ?_)
    clear HS0
    refine wpAnyH_take (i := 0) (v := ?_) rfl (by kernel_rfl) (by kernel_rfl) (by kernel_rfl) (fun _ _ _ h => h) (Or.inl ⟨by rfl, ?_⟩) (by assumption) ?_
    rotate_left
    · intro w_ hSw; (try dsimp only at hSw); have k0_ := box5_cells hSw.1; go_simp <;> with_reducible rfl
    try simp only [Act.put, List.setIfInBounds_toArray, List.set_cons_zero, List.set_cons_succ, List.getElem_toArray, List.getElem_cons_zero, List.getElem_cons_succ]
    refine wpAnyH_ready (rs := [1]) (by kernel_rfl) (by simp) ?_
    refine AllReadyH.cons rfl (fun J hJ => ?_) AllReadyH.nil
    go_simp
    go_at_call 13
    refine (menunewI _).mono ?_
    rintro e v2 ⟨rfl, hbc⟩
    have HS2 : Hid (v2.heap[X8]? = some (.cells #[.int .i64 1, .bool false, .int .i64 0, .int .i64 0, .string ⟨#[]⟩] 26) ∧ v2.heap[X10]? = some (.cells #[.int .i64 1, .int .i64 n, .int .i64 d, .int .i64 u] 34) ∧ v2.heap[X11]? = some (.cells #[.int .i64 1, .bool false, .int .i64 0, .int .i64 0, .string ⟨#[]⟩] 26) ∧ v2.heap[X13]? = some (.cells #[.int .i64 1, .bool false, .int .i64 0, .int .i64 0, .string ⟨#[]⟩] 26) ∧ OwnA v2 B9 g6 q c6 l ∧ OwnA v2 B12 g12 q2 c12 l2 ∧ Below w1.heap.size w1 v2 ∧ Below w.heap.size w v2) := ⟨row_on HS1.out.1 hbc, row_on HS1.out.2.1 hbc, row_on HS1.out.2.2.1 hbc, row_on HS1.out.2.2.2.1 hbc, HS1.out.2.2.2.2.1.on hbc, HS1.out.2.2.2.2.2.1.on hbc, bel_on (Nat.le_refl _) HS1.out.2.2.2.2.2.2.1 hbc, bel_on (Nat.le_refl _) HS1.out.2.2.2.2.2.2.2 hbc⟩
    clear hbc HS1
    (try unfold mnV newM)
    (try dsimp only)
    go_wp2_with fail
    refine hJ.out _ _ HS2.out (fun hHeld2 => ?_)
    clear hJ J
    try simp only [Act.put, List.setIfInBounds_toArray, List.set_cons_zero, List.set_cons_succ, List.getElem_toArray, List.getElem_cons_zero, List.getElem_cons_succ]
    refine wpAnyH_take (i := 2) (v := ?_) rfl (by kernel_rfl) (by kernel_rfl) (by kernel_rfl) (fun _ _ _ h => h) (Or.inl ⟨by rfl, ?_⟩) (by assumption) ?_
    rotate_left
    · intro w_ hSw; (try dsimp only at hSw); go_simp <;> with_reducible rfl
    try simp only [Act.put, List.setIfInBounds_toArray, List.set_cons_zero, List.set_cons_succ, List.getElem_toArray, List.getElem_cons_zero, List.getElem_cons_succ]
    refine wpAnyH_take (i := 3) (v := ?_) rfl (by kernel_rfl) (by kernel_rfl) (by kernel_rfl) (fun _ _ _ h => h) (Or.inl ⟨by rfl, ?_⟩) (by assumption) ?_
    rotate_left
    · intro w_ hSw; (try dsimp only at hSw); go_simp <;> with_reducible rfl
    try simp only [Act.put, List.setIfInBounds_toArray, List.set_cons_zero, List.set_cons_succ, List.getElem_toArray, List.getElem_cons_zero, List.getElem_cons_succ]
    refine wpAnyH_take (i := 4) (v := ?_) rfl (by kernel_rfl) (by kernel_rfl) (by kernel_rfl) (fun _ _ _ h => h) (Or.inl ⟨by rfl, ?_⟩) (by assumption) ?_
    rotate_left
    · intro w_ hSw; (try dsimp only at hSw); have k0_ := box5_cells hSw.2.2.1; go_simp <;> with_reducible rfl
    try simp only [Act.put, List.setIfInBounds_toArray, List.set_cons_zero, List.set_cons_succ, List.getElem_toArray, List.getElem_cons_zero, List.getElem_cons_succ]
    refine wpAnyH_take (i := 5) (v := ?_) rfl (by kernel_rfl) (by kernel_rfl) (by kernel_rfl) (fun _ _ _ h => h) (Or.inl ⟨by rfl, ?_⟩) (by assumption) ?_
    rotate_left
    · intro w_ hSw; (try dsimp only at hSw); have k0_ := box5_cells hSw.1; go_simp <;> with_reducible rfl
    try simp only [Act.put, List.setIfInBounds_toArray, List.set_cons_zero, List.set_cons_succ, List.getElem_toArray, List.getElem_cons_zero, List.getElem_cons_succ]
    refine wpAnyH_take (i := 6) (v := ?_) rfl (by kernel_rfl) (by kernel_rfl) (by kernel_rfl) (fun _ _ _ h => h) (Or.inl ⟨by rfl, ?_⟩) (by assumption) ?_
    rotate_left
    · intro w_ hSw; (try dsimp only at hSw); go_simp <;> with_reducible rfl
    try simp only [Act.put, List.setIfInBounds_toArray, List.set_cons_zero, List.set_cons_succ, List.getElem_toArray, List.getElem_cons_zero, List.getElem_cons_succ]
    refine wpAnyH_take (i := 7) (v := ?_) rfl (by kernel_rfl) (by kernel_rfl) (by kernel_rfl) (fun _ _ _ h => h) (Or.inl ⟨by rfl, ?_⟩) (by assumption) ?_
    rotate_left
    · intro w_ hSw; (try dsimp only at hSw); go_simp <;> with_reducible rfl
    try simp only [Act.put, List.setIfInBounds_toArray, List.set_cons_zero, List.set_cons_succ, List.getElem_toArray, List.getElem_cons_zero, List.getElem_cons_succ]
    refine wpAnyH_take (i := 8) (v := ?_) rfl (by kernel_rfl) (by kernel_rfl) (by kernel_rfl) (fun _ _ _ h => h) (Or.inl ⟨by rfl, ?_⟩) (by assumption) ?_
    rotate_left
    · intro w_ hSw; (try dsimp only at hSw); go_simp <;> with_reducible rfl
    try simp only [Act.put, List.setIfInBounds_toArray, List.set_cons_zero, List.set_cons_succ, List.getElem_toArray, List.getElem_cons_zero, List.getElem_cons_succ]
    refine wpAnyH_take (i := 9) (v := ?_) rfl (by kernel_rfl) (by kernel_rfl) (by kernel_rfl) (fun _ _ _ h => h) (Or.inl ⟨by rfl, ?_⟩) (by assumption) ?_
    rotate_left
    · intro w_ hSw; (try dsimp only at hSw); have k0_ := box5_cells hSw.2.2.2.1; go_simp <;> with_reducible rfl
    try simp only [Act.put, List.setIfInBounds_toArray, List.set_cons_zero, List.set_cons_succ, List.getElem_toArray, List.getElem_cons_zero, List.getElem_cons_succ]
    refine wpAnyH_take (i := 10) (v := ?_) rfl (by kernel_rfl) (by kernel_rfl) (by kernel_rfl) (fun _ _ _ h => h) (Or.inl ⟨by rfl, ?_⟩) (by assumption) ?_
    rotate_left
    · intro w_ hSw; (try dsimp only at hSw); have k0_ := box5_cells hSw.1; go_simp <;> with_reducible rfl
    try simp only [Act.put, List.setIfInBounds_toArray, List.set_cons_zero, List.set_cons_succ, List.getElem_toArray, List.getElem_cons_zero, List.getElem_cons_succ]
    refine wpAnyH_take (i := 11) (v := ?_) rfl (by kernel_rfl) (by kernel_rfl) (by kernel_rfl) (fun _ _ _ h => h) (Or.inl ⟨by rfl, ?_⟩) (by assumption) ?_
    rotate_left
    · intro w_ hSw; (try dsimp only at hSw); go_simp <;> with_reducible rfl
    try simp only [Act.put, List.setIfInBounds_toArray, List.set_cons_zero, List.set_cons_succ, List.getElem_toArray, List.getElem_cons_zero, List.getElem_cons_succ]
    refine wpAnyH_take (i := 12) (v := ?_) rfl (by kernel_rfl) (by kernel_rfl) (by kernel_rfl) (fun _ _ _ h => h) (Or.inl ⟨by rfl, ?_⟩) (by assumption) ?_
    rotate_left
    · intro w_ hSw; (try dsimp only at hSw); go_simp <;> with_reducible rfl
    try simp only [Act.put, List.setIfInBounds_toArray, List.set_cons_zero, List.set_cons_succ, List.getElem_toArray, List.getElem_cons_zero, List.getElem_cons_succ]
    refine wpAnyH_take (i := 13) (v := ?_) rfl (by kernel_rfl) (by kernel_rfl) (by kernel_rfl) (fun _ _ _ h => h) (Or.inl ⟨by rfl, ?_⟩) (by assumption) ?_
    rotate_left
    · intro w_ hSw; (try dsimp only at hSw); go_simp <;> with_reducible rfl
    try simp only [Act.put, List.setIfInBounds_toArray, List.set_cons_zero, List.set_cons_succ, List.getElem_toArray, List.getElem_cons_zero, List.getElem_cons_succ]
    refine wpAnyH_take (i := 14) (v := ?_) rfl (by kernel_rfl) (by kernel_rfl) (by kernel_rfl) (fun _ _ _ h => h) (Or.inl ⟨by rfl, ?_⟩) (by assumption) ?_
    rotate_left
    · intro w_ hSw; (try dsimp only at hSw); go_simp <;> with_reducible rfl
    try simp only [Act.put, List.setIfInBounds_toArray, List.set_cons_zero, List.set_cons_succ, List.getElem_toArray, List.getElem_cons_zero, List.getElem_cons_succ]
    refine wpAnyH_take (i := 15) (v := ?_) rfl (by kernel_rfl) (by kernel_rfl) (by kernel_rfl) (fun _ _ _ h => h) (Or.inl ⟨by rfl, ?_⟩) (by assumption) ?_
    rotate_left
    · intro w_ hSw; (try dsimp only at hSw); go_simp <;> with_reducible rfl
    try simp only [Act.put, List.setIfInBounds_toArray, List.set_cons_zero, List.set_cons_succ, List.getElem_toArray, List.getElem_cons_zero, List.getElem_cons_succ]
    refine wpAnyH_take (i := 16) (v := ?_) rfl (by kernel_rfl) (by kernel_rfl) (by kernel_rfl) (fun _ _ _ h => h) (Or.inl ⟨by rfl, ?_⟩) (by assumption) ?_
    rotate_left
    · intro w_ hSw; (try dsimp only at hSw); go_simp <;> with_reducible rfl
    try simp only [Act.put, List.setIfInBounds_toArray, List.set_cons_zero, List.set_cons_succ, List.getElem_toArray, List.getElem_cons_zero, List.getElem_cons_succ]
    refine wpAnyH_take (i := 17) (v := ?_) rfl (by kernel_rfl) (by kernel_rfl) (by kernel_rfl) (fun _ _ _ h => h) (Or.inl ⟨by rfl, ?_⟩) (by assumption) ?_
    rotate_left
    · intro w_ hSw; (try dsimp only at hSw); go_simp <;> with_reducible rfl
    try simp only [Act.put, List.setIfInBounds_toArray, List.set_cons_zero, List.set_cons_succ, List.getElem_toArray, List.getElem_cons_zero, List.getElem_cons_succ]
    refine wpAnyH_done (by kernel_rfl) ?_ _
    clear hHeld hHeld2
    go_upto_region 14 with fail
    rcases bas_cases n d u with ⟨hor, hbl⟩ | ⟨hor, hbl⟩
    · have HF1 : Hid (l = [(1, (n : Int), (d : Int), (u : Int))]) := by show _ = _; rw [← HBL.out, hbl]
      obtain rfl : q = 1 := by rw [← HQ.out, HF1.out]; rfl
      obtain ⟨g6, rfl, _⟩ := HS2.out.2.2.2.2.1.at (by omega)
      have HFST : Hid (∀ {W : World}, OwnA W B9 (some ⟨g6, 0, none⟩) 1 c6 l → W.cell? ⟨g6, 0, none⟩ = some (.int .i64 1) ∧ W.cell? ⟨g6, 1, none⟩ = some (.int .i64 (n : Int)) ∧ W.cell? ⟨g6, 2, none⟩ = some (.int .i64 (d : Int)) ∧ W.cell? ⟨g6, 3, none⟩ = some (.int .i64 (u : Int))) := fun h => h.first HF1.out
      have HBO : Hid (true = true ↔ OrdR 1 (n : Int) (d : Int) (u : Int)) := ⟨fun _ => hor, fun _ => rfl⟩
      clear hor hbl
      have HS3 : Hid (v2.drew.heap[X8]? = some (.cells #[.int .i64 1, .bool false, .int .i64 0, .int .i64 0, .string ⟨#[]⟩] 26) ∧ v2.drew.heap[X10]? = some (.cells #[.int .i64 1, .int .i64 n, .int .i64 d, .int .i64 u] 34) ∧ v2.drew.heap[X11]? = some (.cells #[.int .i64 1, .bool false, .int .i64 0, .int .i64 0, .string ⟨#[]⟩] 26) ∧ v2.drew.heap[X13]? = some (.cells #[.int .i64 1, .bool false, .int .i64 0, .int .i64 0, .string ⟨#[]⟩] 26) ∧ OwnA v2.drew B9 (some ⟨g6, 0, none⟩) 1 c6 l ∧ OwnA v2.drew B12 g12 q2 c12 l2 ∧ Below w1.heap.size w1 v2.drew ∧ Below w.heap.size w v2.drew) := ⟨HS2.out.1, HS2.out.2.1, HS2.out.2.2.1, HS2.out.2.2.2.1, HS2.out.2.2.2.2.1.drew, HS2.out.2.2.2.2.2.1.drew, HS2.out.2.2.2.2.2.2.1.drew, HS2.out.2.2.2.2.2.2.2.drew⟩
      refine wp_region_held_drew (S := fun w' => w'.heap[X8]? = some (.cells #[.int .i64 1, .bool false, .int .i64 0, .int .i64 0, .string ⟨#[]⟩] 26) ∧ w'.heap[X10]? = some (.cells #[.int .i64 1, .int .i64 n, .int .i64 d, .int .i64 u] 34) ∧ w'.heap[X11]? = some (.cells #[.int .i64 1, .bool false, .int .i64 0, .int .i64 0, .string ⟨#[]⟩] 26) ∧ w'.heap[X13]? = some (.cells #[.int .i64 1, .bool false, .int .i64 0, .int .i64 0, .string ⟨#[]⟩] 26) ∧ OwnA w' B9 (some ⟨g6, 0, none⟩) 1 c6 l ∧ OwnA w' B12 g12 q2 c12 l2 ∧ Below w1.heap.size w1 w' ∧ Below w.heap.size w w') (by kernel_rfl) HS3.out (fun hHeld => ?_)
      clear HS2
      refine wpAnyH_take (i := 0) (v := ?_) rfl (by kernel_rfl) (by kernel_rfl) (by kernel_rfl) (fun _ _ _ h => h) (Or.inl ⟨by rfl, ?_⟩) (by assumption) ?_
      rotate_left
      · intro w_ hSw; (try dsimp only at hSw); have k0_ := box4_cells hSw.2.1; go_simp <;> with_reducible rfl
      try simp only [Act.put, List.setIfInBounds_toArray, List.set_cons_zero, List.set_cons_succ, List.getElem_toArray, List.getElem_cons_zero, List.getElem_cons_succ]
      refine wpAnyH_take (i := 2) (v := ?_) rfl (by kernel_rfl) (by kernel_rfl) (by kernel_rfl) (fun _ _ _ h => h) (Or.inl ⟨by rfl, ?_⟩) (by assumption) ?_
      rotate_left
      · intro w_ hSw; (try dsimp only at hSw); go_simp <;> with_reducible rfl
      try simp only [Act.put, List.setIfInBounds_toArray, List.set_cons_zero, List.set_cons_succ, List.getElem_toArray, List.getElem_cons_zero, List.getElem_cons_succ]
      refine wpAnyH_take (i := 3) (v := ?_) rfl (by kernel_rfl) (by kernel_rfl) (by kernel_rfl) (fun _ _ _ h => h) (Or.inl ⟨by rfl, ?_⟩) (by assumption) ?_
      rotate_left
      · intro w_ hSw; (try dsimp only at hSw); go_simp <;> with_reducible rfl
      try simp only [Act.put, List.setIfInBounds_toArray, List.set_cons_zero, List.set_cons_succ, List.getElem_toArray, List.getElem_cons_zero, List.getElem_cons_succ]
      refine wpAnyH_take (i := 4) (v := ?_) rfl (by kernel_rfl) (by kernel_rfl) (by kernel_rfl) (fun _ _ _ h => h) (Or.inl ⟨by rfl, ?_⟩) (by assumption) ?_
      rotate_left
      · intro w_ hSw; (try dsimp only at hSw); go_simp <;> with_reducible rfl
      try simp only [Act.put, List.setIfInBounds_toArray, List.set_cons_zero, List.set_cons_succ, List.getElem_toArray, List.getElem_cons_zero, List.getElem_cons_succ]
      refine wpAnyH_ready (rs := [1]) (by kernel_rfl) (by simp) ?_
      refine AllReadyH.cons rfl (fun J hJ => ?_) AllReadyH.nil
      go_simp
      go_at_call 20
      refine (ordokS 1 (n : Int) (d : Int) (u : Int) true HBO.out _).mono ?_
      rintro e v4 ⟨rfl, hbc⟩
      have HS4 : Hid (v4.heap[X8]? = some (.cells #[.int .i64 1, .bool false, .int .i64 0, .int .i64 0, .string ⟨#[]⟩] 26) ∧ v4.heap[X10]? = some (.cells #[.int .i64 1, .int .i64 n, .int .i64 d, .int .i64 u] 34) ∧ v4.heap[X11]? = some (.cells #[.int .i64 1, .bool false, .int .i64 0, .int .i64 0, .string ⟨#[]⟩] 26) ∧ v4.heap[X13]? = some (.cells #[.int .i64 1, .bool false, .int .i64 0, .int .i64 0, .string ⟨#[]⟩] 26) ∧ OwnA v4 B9 (some ⟨g6, 0, none⟩) 1 c6 l ∧ OwnA v4 B12 g12 q2 c12 l2 ∧ Below w1.heap.size w1 v4 ∧ Below w.heap.size w v4) := ⟨row_on HS3.out.1 hbc, row_on HS3.out.2.1 hbc, row_on HS3.out.2.2.1 hbc, row_on HS3.out.2.2.2.1 hbc, HS3.out.2.2.2.2.1.on hbc, HS3.out.2.2.2.2.2.1.on hbc, bel_on (Nat.le_refl _) HS3.out.2.2.2.2.2.2.1 hbc, bel_on (Nat.le_refl _) HS3.out.2.2.2.2.2.2.2 hbc⟩
      clear hbc HS3
      (try unfold mnV newM)
      (try dsimp only)
      go_wp2_with fail
      refine hJ.out _ _ HS4.out (fun hHeld4 => ?_)
      clear hJ J
      try simp only [Act.put, List.setIfInBounds_toArray, List.set_cons_zero, List.set_cons_succ, List.getElem_toArray, List.getElem_cons_zero, List.getElem_cons_succ]
      refine wpAnyH_take (i := 5) (v := ?_) rfl (by kernel_rfl) (by kernel_rfl) (by kernel_rfl) (fun _ _ _ h => h) (Or.inl ⟨by rfl, ?_⟩) (by assumption) ?_
      rotate_left
      · intro w_ hSw; (try dsimp only at hSw); go_simp <;> with_reducible rfl
      try simp only [Act.put, List.setIfInBounds_toArray, List.set_cons_zero, List.set_cons_succ, List.getElem_toArray, List.getElem_cons_zero, List.getElem_cons_succ]
      refine wpAnyH_take (i := 6) (v := ?_) rfl (by kernel_rfl) (by kernel_rfl) (by kernel_rfl) (fun _ _ _ h => h) (Or.inl ⟨by rfl, ?_⟩) (by assumption) ?_
      rotate_left
      · intro w_ hSw; (try dsimp only at hSw); go_simp <;> with_reducible rfl
      try simp only [Act.put, List.setIfInBounds_toArray, List.set_cons_zero, List.set_cons_succ, List.getElem_toArray, List.getElem_cons_zero, List.getElem_cons_succ]
      refine wpAnyH_take (i := 7) (v := ?_) rfl (by kernel_rfl) (by kernel_rfl) (by kernel_rfl) (fun _ _ _ h => h) (Or.inl ⟨by rfl, ?_⟩) (by assumption) ?_
      rotate_left
      · intro w_ hSw; (try dsimp only at hSw); go_simp <;> with_reducible rfl
      try simp only [Act.put, List.setIfInBounds_toArray, List.set_cons_zero, List.set_cons_succ, List.getElem_toArray, List.getElem_cons_zero, List.getElem_cons_succ]
      refine wpAnyH_take (i := 8) (v := ?_) rfl (by kernel_rfl) (by kernel_rfl) (by kernel_rfl) (fun _ _ _ h => h) (Or.inl ⟨by rfl, ?_⟩) (by assumption) ?_
      rotate_left
      · intro w_ hSw; (try dsimp only at hSw); go_simp <;> with_reducible rfl
      try simp only [Act.put, List.setIfInBounds_toArray, List.set_cons_zero, List.set_cons_succ, List.getElem_toArray, List.getElem_cons_zero, List.getElem_cons_succ]
      refine wpAnyH_take (i := 9) (v := ?_) rfl (by kernel_rfl) (by kernel_rfl) (by kernel_rfl) (fun _ _ _ h => h) (Or.inl ⟨by rfl, ?_⟩) (by assumption) ?_
      rotate_left
      · intro w_ hSw; (try dsimp only at hSw); go_simp <;> with_reducible rfl
      try simp only [Act.put, List.setIfInBounds_toArray, List.set_cons_zero, List.set_cons_succ, List.getElem_toArray, List.getElem_cons_zero, List.getElem_cons_succ]
      refine wpAnyH_take (i := 10) (v := ?_) rfl (by kernel_rfl) (by kernel_rfl) (by kernel_rfl) (fun _ _ _ h => h) (Or.inl ⟨by rfl, ?_⟩) (by assumption) ?_
      rotate_left
      · intro w_ hSw; (try dsimp only at hSw); go_simp <;> with_reducible rfl
      try simp only [Act.put, List.setIfInBounds_toArray, List.set_cons_zero, List.set_cons_succ, List.getElem_toArray, List.getElem_cons_zero, List.getElem_cons_succ]
      refine wpAnyH_take (i := 11) (v := ?_) rfl (by kernel_rfl) (by kernel_rfl) (by kernel_rfl) (fun _ _ _ h => h) (Or.inl ⟨by rfl, ?_⟩) (by assumption) ?_
      rotate_left
      · intro w_ hSw; (try dsimp only at hSw); go_simp <;> with_reducible rfl
      try simp only [Act.put, List.setIfInBounds_toArray, List.set_cons_zero, List.set_cons_succ, List.getElem_toArray, List.getElem_cons_zero, List.getElem_cons_succ]
      refine wpAnyH_take (i := 12) (v := ?_) rfl (by kernel_rfl) (by kernel_rfl) (by kernel_rfl) (fun _ _ _ h => h) (Or.inl ⟨by rfl, ?_⟩) (by assumption) ?_
      rotate_left
      · intro w_ hSw; (try dsimp only at hSw); go_simp <;> with_reducible rfl
      try simp only [Act.put, List.setIfInBounds_toArray, List.set_cons_zero, List.set_cons_succ, List.getElem_toArray, List.getElem_cons_zero, List.getElem_cons_succ]
      refine wpAnyH_take (i := 13) (v := ?_) rfl (by kernel_rfl) (by kernel_rfl) (by kernel_rfl) (fun _ _ _ h => h) (Or.inl ⟨by rfl, ?_⟩) (by assumption) ?_
      rotate_left
      · intro w_ hSw; (try dsimp only at hSw); have k0_ := HFST.out hSw.2.2.2.2.1; go_simp <;> with_reducible rfl
      try simp only [Act.put, List.setIfInBounds_toArray, List.set_cons_zero, List.set_cons_succ, List.getElem_toArray, List.getElem_cons_zero, List.getElem_cons_succ]
      refine wpAnyH_take (i := 14) (v := ?_) rfl (by kernel_rfl) (by kernel_rfl) (by kernel_rfl) (fun _ _ _ h => h) (Or.inl ⟨by rfl, ?_⟩) (by assumption) ?_
      rotate_left
      · intro w_ hSw; (try dsimp only at hSw); have k0_ := box4_cells hSw.2.1; go_simp <;> with_reducible rfl
      try simp only [Act.put, List.setIfInBounds_toArray, List.set_cons_zero, List.set_cons_succ, List.getElem_toArray, List.getElem_cons_zero, List.getElem_cons_succ]
      refine wpAnyH_take (i := 15) (v := ?_) rfl (by kernel_rfl) (by kernel_rfl) (by kernel_rfl) (fun _ _ _ h => h) (Or.inl ⟨by rfl, ?_⟩) (by assumption) ?_
      rotate_left
      · intro w_ hSw; (try dsimp only at hSw); go_simp <;> with_reducible rfl
      try simp only [Act.put, List.setIfInBounds_toArray, List.set_cons_zero, List.set_cons_succ, List.getElem_toArray, List.getElem_cons_zero, List.getElem_cons_succ]
      refine wpAnyH_take (i := 16) (v := ?_) rfl (by kernel_rfl) (by kernel_rfl) (by kernel_rfl) (fun _ _ _ h => h) (Or.inl ⟨by rfl, ?_⟩) (by assumption) ?_
      rotate_left
      · intro w_ hSw; (try dsimp only at hSw); go_simp <;> with_reducible rfl
      try simp only [Act.put, List.setIfInBounds_toArray, List.set_cons_zero, List.set_cons_succ, List.getElem_toArray, List.getElem_cons_zero, List.getElem_cons_succ]
      refine wpAnyH_take (i := 17) (v := ?_) rfl (by kernel_rfl) (by kernel_rfl) (by kernel_rfl) (fun _ _ _ h => h) (Or.inl ⟨by rfl, ?_⟩) (by assumption) ?_
      rotate_left
      · intro w_ hSw; (try dsimp only at hSw); go_simp <;> with_reducible rfl
      try simp only [Act.put, List.setIfInBounds_toArray, List.set_cons_zero, List.set_cons_succ, List.getElem_toArray, List.getElem_cons_zero, List.getElem_cons_succ]
      refine wpAnyH_done (by kernel_rfl) ?_ _
      clear hHeld hHeld4
      have qv := HV.out
      have cp3 := cell_bel HP3.out HS4.out.2.2.2.2.2.2.1
      rcases bol_cases v with ⟨hv1, hbl⟩ | ⟨hv1, hbl⟩
      · have HF2 : Hid (l2 = [(2, 0, 0, (v : Int))]) := by show _ = _; rw [← HBB.out, hbl]
        obtain rfl : q2 = 1 := by rw [← HQ2.out, HF2.out]; rfl
        obtain ⟨g12, rfl, _⟩ := HS4.out.2.2.2.2.2.1.at (by omega)
        have f2 := HS4.out.2.2.2.2.2.1.first HF2.out
        have v1 : (1 : Int) ≤ v := hv1.1
        have v2' : (v : Int) ≤ 100 := hv1.2
        have HBW : Hid (Below w.heap.size w v4) := HS4.out.2.2.2.2.2.2.2
        clear hbl hv1 HS4
        go_wp2
        go_ret
        exact ⟨rfl, HBW.out⟩
      · have HF2 : Hid (l2 = []) := by show _ = _; rw [← HBB.out, hbl]
        obtain rfl : q2 = 0 := by rw [← HQ2.out, HF2.out]; rfl
        have HBW : Hid (Below w.heap.size w v4) := HS4.out.2.2.2.2.2.2.2
        clear hbl HS4
        by_cases v1 : (1 : Int) ≤ v
        · have v2' : ¬ (v : Int) ≤ 100 := by omega
          clear hv1
          go_wp2
          go_ret
          exact ⟨rfl, HBW.out⟩
        · clear hv1
          go_wp2
          go_ret
          exact ⟨rfl, HBW.out⟩
    · have HF1 : Hid (l = []) := by show _ = _; rw [← HBL.out, hbl]
      obtain rfl : q = 0 := by rw [← HQ.out, HF1.out]; rfl
      have HBO : Hid (false = true ↔ OrdR 1 (n : Int) (d : Int) (u : Int)) := ⟨fun e => (by cases e), fun e => absurd e hor⟩
      clear hor hbl
      have HS3 : Hid (v2.drew.heap[X8]? = some (.cells #[.int .i64 1, .bool false, .int .i64 0, .int .i64 0, .string ⟨#[]⟩] 26) ∧ v2.drew.heap[X10]? = some (.cells #[.int .i64 1, .int .i64 n, .int .i64 d, .int .i64 u] 34) ∧ v2.drew.heap[X11]? = some (.cells #[.int .i64 1, .bool false, .int .i64 0, .int .i64 0, .string ⟨#[]⟩] 26) ∧ v2.drew.heap[X13]? = some (.cells #[.int .i64 1, .bool false, .int .i64 0, .int .i64 0, .string ⟨#[]⟩] 26) ∧ OwnA v2.drew B9 g6 0 c6 l ∧ OwnA v2.drew B12 g12 q2 c12 l2 ∧ Below w1.heap.size w1 v2.drew ∧ Below w.heap.size w v2.drew) := ⟨HS2.out.1, HS2.out.2.1, HS2.out.2.2.1, HS2.out.2.2.2.1, HS2.out.2.2.2.2.1.drew, HS2.out.2.2.2.2.2.1.drew, HS2.out.2.2.2.2.2.2.1.drew, HS2.out.2.2.2.2.2.2.2.drew⟩
      refine wp_region_held_drew (S := fun w' => w'.heap[X8]? = some (.cells #[.int .i64 1, .bool false, .int .i64 0, .int .i64 0, .string ⟨#[]⟩] 26) ∧ w'.heap[X10]? = some (.cells #[.int .i64 1, .int .i64 n, .int .i64 d, .int .i64 u] 34) ∧ w'.heap[X11]? = some (.cells #[.int .i64 1, .bool false, .int .i64 0, .int .i64 0, .string ⟨#[]⟩] 26) ∧ w'.heap[X13]? = some (.cells #[.int .i64 1, .bool false, .int .i64 0, .int .i64 0, .string ⟨#[]⟩] 26) ∧ OwnA w' B9 g6 0 c6 l ∧ OwnA w' B12 g12 q2 c12 l2 ∧ Below w1.heap.size w1 w' ∧ Below w.heap.size w w') (by kernel_rfl) HS3.out (fun hHeld => ?_)
      clear HS2
      refine wpAnyH_take (i := 0) (v := ?_) rfl (by kernel_rfl) (by kernel_rfl) (by kernel_rfl) (fun _ _ _ h => h) (Or.inl ⟨by rfl, ?_⟩) (by assumption) ?_
      rotate_left
      · intro w_ hSw; (try dsimp only at hSw); have k0_ := box4_cells hSw.2.1; go_simp <;> with_reducible rfl
      try simp only [Act.put, List.setIfInBounds_toArray, List.set_cons_zero, List.set_cons_succ, List.getElem_toArray, List.getElem_cons_zero, List.getElem_cons_succ]
      refine wpAnyH_take (i := 2) (v := ?_) rfl (by kernel_rfl) (by kernel_rfl) (by kernel_rfl) (fun _ _ _ h => h) (Or.inl ⟨by rfl, ?_⟩) (by assumption) ?_
      rotate_left
      · intro w_ hSw; (try dsimp only at hSw); go_simp <;> with_reducible rfl
      try simp only [Act.put, List.setIfInBounds_toArray, List.set_cons_zero, List.set_cons_succ, List.getElem_toArray, List.getElem_cons_zero, List.getElem_cons_succ]
      refine wpAnyH_take (i := 3) (v := ?_) rfl (by kernel_rfl) (by kernel_rfl) (by kernel_rfl) (fun _ _ _ h => h) (Or.inl ⟨by rfl, ?_⟩) (by assumption) ?_
      rotate_left
      · intro w_ hSw; (try dsimp only at hSw); go_simp <;> with_reducible rfl
      try simp only [Act.put, List.setIfInBounds_toArray, List.set_cons_zero, List.set_cons_succ, List.getElem_toArray, List.getElem_cons_zero, List.getElem_cons_succ]
      refine wpAnyH_take (i := 4) (v := ?_) rfl (by kernel_rfl) (by kernel_rfl) (by kernel_rfl) (fun _ _ _ h => h) (Or.inl ⟨by rfl, ?_⟩) (by assumption) ?_
      rotate_left
      · intro w_ hSw; (try dsimp only at hSw); go_simp <;> with_reducible rfl
      try simp only [Act.put, List.setIfInBounds_toArray, List.set_cons_zero, List.set_cons_succ, List.getElem_toArray, List.getElem_cons_zero, List.getElem_cons_succ]
      refine wpAnyH_ready (rs := [1]) (by kernel_rfl) (by simp) ?_
      refine AllReadyH.cons rfl (fun J hJ => ?_) AllReadyH.nil
      go_simp
      go_at_call 20
      refine (ordokS 1 (n : Int) (d : Int) (u : Int) false HBO.out _).mono ?_
      rintro e v4 ⟨rfl, hbc⟩
      have HS4 : Hid (v4.heap[X8]? = some (.cells #[.int .i64 1, .bool false, .int .i64 0, .int .i64 0, .string ⟨#[]⟩] 26) ∧ v4.heap[X10]? = some (.cells #[.int .i64 1, .int .i64 n, .int .i64 d, .int .i64 u] 34) ∧ v4.heap[X11]? = some (.cells #[.int .i64 1, .bool false, .int .i64 0, .int .i64 0, .string ⟨#[]⟩] 26) ∧ v4.heap[X13]? = some (.cells #[.int .i64 1, .bool false, .int .i64 0, .int .i64 0, .string ⟨#[]⟩] 26) ∧ OwnA v4 B9 g6 0 c6 l ∧ OwnA v4 B12 g12 q2 c12 l2 ∧ Below w1.heap.size w1 v4 ∧ Below w.heap.size w v4) := ⟨row_on HS3.out.1 hbc, row_on HS3.out.2.1 hbc, row_on HS3.out.2.2.1 hbc, row_on HS3.out.2.2.2.1 hbc, HS3.out.2.2.2.2.1.on hbc, HS3.out.2.2.2.2.2.1.on hbc, bel_on (Nat.le_refl _) HS3.out.2.2.2.2.2.2.1 hbc, bel_on (Nat.le_refl _) HS3.out.2.2.2.2.2.2.2 hbc⟩
      clear hbc HS3
      (try unfold mnV newM)
      (try dsimp only)
      go_wp2_with fail
      refine hJ.out _ _ HS4.out (fun hHeld4 => ?_)
      clear hJ J
      try simp only [Act.put, List.setIfInBounds_toArray, List.set_cons_zero, List.set_cons_succ, List.getElem_toArray, List.getElem_cons_zero, List.getElem_cons_succ]
      refine wpAnyH_take (i := 5) (v := ?_) rfl (by kernel_rfl) (by kernel_rfl) (by kernel_rfl) (fun _ _ _ h => h) (Or.inl ⟨by rfl, ?_⟩) (by assumption) ?_
      rotate_left
      · intro w_ hSw; (try dsimp only at hSw); go_simp <;> with_reducible rfl
      try simp only [Act.put, List.setIfInBounds_toArray, List.set_cons_zero, List.set_cons_succ, List.getElem_toArray, List.getElem_cons_zero, List.getElem_cons_succ]
      refine wpAnyH_take (i := 6) (v := ?_) rfl (by kernel_rfl) (by kernel_rfl) (by kernel_rfl) (fun _ _ _ h => h) (Or.inl ⟨by rfl, ?_⟩) (by assumption) ?_
      rotate_left
      · intro w_ hSw; (try dsimp only at hSw); go_simp <;> with_reducible rfl
      try simp only [Act.put, List.setIfInBounds_toArray, List.set_cons_zero, List.set_cons_succ, List.getElem_toArray, List.getElem_cons_zero, List.getElem_cons_succ]
      refine wpAnyH_take (i := 7) (v := ?_) rfl (by kernel_rfl) (by kernel_rfl) (by kernel_rfl) (fun _ _ _ h => h) (Or.inl ⟨by rfl, ?_⟩) (by assumption) ?_
      rotate_left
      · intro w_ hSw; (try dsimp only at hSw); go_simp <;> with_reducible rfl
      try simp only [Act.put, List.setIfInBounds_toArray, List.set_cons_zero, List.set_cons_succ, List.getElem_toArray, List.getElem_cons_zero, List.getElem_cons_succ]
      refine wpAnyH_take (i := 8) (v := ?_) rfl (by kernel_rfl) (by kernel_rfl) (by kernel_rfl) (fun _ _ _ h => h) (Or.inl ⟨by rfl, ?_⟩) (by assumption) ?_
      rotate_left
      · intro w_ hSw; (try dsimp only at hSw); go_simp <;> with_reducible rfl
      try simp only [Act.put, List.setIfInBounds_toArray, List.set_cons_zero, List.set_cons_succ, List.getElem_toArray, List.getElem_cons_zero, List.getElem_cons_succ]
      refine wpAnyH_take (i := 9) (v := ?_) rfl (by kernel_rfl) (by kernel_rfl) (by kernel_rfl) (fun _ _ _ h => h) (Or.inl ⟨by rfl, ?_⟩) (by assumption) ?_
      rotate_left
      · intro w_ hSw; (try dsimp only at hSw); go_simp <;> with_reducible rfl
      try simp only [Act.put, List.setIfInBounds_toArray, List.set_cons_zero, List.set_cons_succ, List.getElem_toArray, List.getElem_cons_zero, List.getElem_cons_succ]
      refine wpAnyH_take (i := 10) (v := ?_) rfl (by kernel_rfl) (by kernel_rfl) (by kernel_rfl) (fun _ _ _ h => h) (Or.inl ⟨by rfl, ?_⟩) (by assumption) ?_
      rotate_left
      · intro w_ hSw; (try dsimp only at hSw); go_simp <;> with_reducible rfl
      try simp only [Act.put, List.setIfInBounds_toArray, List.set_cons_zero, List.set_cons_succ, List.getElem_toArray, List.getElem_cons_zero, List.getElem_cons_succ]
      refine wpAnyH_take (i := 11) (v := undef) rfl (by kernel_rfl) (by kernel_rfl) (by kernel_rfl) (fun _ _ _ h => h) (Or.inr ⟨by rfl, rfl⟩) (by assumption) ?_
      try simp only [Act.put, List.setIfInBounds_toArray, List.set_cons_zero, List.set_cons_succ, List.getElem_toArray, List.getElem_cons_zero, List.getElem_cons_succ]
      refine wpAnyH_take (i := 12) (v := undef) rfl (by kernel_rfl) (by kernel_rfl) (by kernel_rfl) (fun _ _ _ h => h) (Or.inr ⟨by rfl, rfl⟩) (by assumption) ?_
      try simp only [Act.put, List.setIfInBounds_toArray, List.set_cons_zero, List.set_cons_succ, List.getElem_toArray, List.getElem_cons_zero, List.getElem_cons_succ]
      refine wpAnyH_take (i := 13) (v := undef) rfl (by kernel_rfl) (by kernel_rfl) (by kernel_rfl) (fun _ _ _ h => h) (Or.inr ⟨by rfl, rfl⟩) (by assumption) ?_
      try simp only [Act.put, List.setIfInBounds_toArray, List.set_cons_zero, List.set_cons_succ, List.getElem_toArray, List.getElem_cons_zero, List.getElem_cons_succ]
      refine wpAnyH_take (i := 14) (v := undef) rfl (by kernel_rfl) (by kernel_rfl) (by kernel_rfl) (fun _ _ _ h => h) (Or.inr ⟨by rfl, rfl⟩) (by assumption) ?_
      try simp only [Act.put, List.setIfInBounds_toArray, List.set_cons_zero, List.set_cons_succ, List.getElem_toArray, List.getElem_cons_zero, List.getElem_cons_succ]
      refine wpAnyH_take (i := 15) (v := undef) rfl (by kernel_rfl) (by kernel_rfl) (by kernel_rfl) (fun _ _ _ h => h) (Or.inr ⟨by rfl, rfl⟩) (by assumption) ?_
      try simp only [Act.put, List.setIfInBounds_toArray, List.set_cons_zero, List.set_cons_succ, List.getElem_toArray, List.getElem_cons_zero, List.getElem_cons_succ]
      refine wpAnyH_take (i := 16) (v := ?_) rfl (by kernel_rfl) (by kernel_rfl) (by kernel_rfl) (fun _ _ _ h => h) (Or.inl ⟨by rfl, ?_⟩) (by assumption) ?_
      rotate_left
      · intro w_ hSw; (try dsimp only at hSw); go_simp <;> with_reducible rfl
      try simp only [Act.put, List.setIfInBounds_toArray, List.set_cons_zero, List.set_cons_succ, List.getElem_toArray, List.getElem_cons_zero, List.getElem_cons_succ]
      refine wpAnyH_take (i := 17) (v := ?_) rfl (by kernel_rfl) (by kernel_rfl) (by kernel_rfl) (fun _ _ _ h => h) (Or.inl ⟨by rfl, ?_⟩) (by assumption) ?_
      rotate_left
      · intro w_ hSw; (try dsimp only at hSw); go_simp <;> with_reducible rfl
      try simp only [Act.put, List.setIfInBounds_toArray, List.set_cons_zero, List.set_cons_succ, List.getElem_toArray, List.getElem_cons_zero, List.getElem_cons_succ]
      refine wpAnyH_done (by kernel_rfl) ?_ _
      clear hHeld hHeld4
      have qv := HV.out
      have cp3 := cell_bel HP3.out HS4.out.2.2.2.2.2.2.1
      rcases bol_cases v with ⟨hv1, hbl⟩ | ⟨hv1, hbl⟩
      · have HF2 : Hid (l2 = [(2, 0, 0, (v : Int))]) := by show _ = _; rw [← HBB.out, hbl]
        obtain rfl : q2 = 1 := by rw [← HQ2.out, HF2.out]; rfl
        obtain ⟨g12, rfl, _⟩ := HS4.out.2.2.2.2.2.1.at (by omega)
        have f2 := HS4.out.2.2.2.2.2.1.first HF2.out
        have v1 : (1 : Int) ≤ v := hv1.1
        have v2' : (v : Int) ≤ 100 := hv1.2
        have HBW : Hid (Below w.heap.size w v4) := HS4.out.2.2.2.2.2.2.2
        clear hbl hv1 HS4
        go_wp2
        go_ret
        exact ⟨rfl, HBW.out⟩
      · have HF2 : Hid (l2 = []) := by show _ = _; rw [← HBB.out, hbl]
        obtain rfl : q2 = 0 := by rw [← HQ2.out, HF2.out]; rfl
        have HBW : Hid (Below w.heap.size w v4) := HS4.out.2.2.2.2.2.2.2
        clear hbl HS4
        by_cases v1 : (1 : Int) ≤ v
        · have v2' : ¬ (v : Int) ≤ 100 := by omega
          clear hv1
          go_wp2
          go_ret
          exact ⟨rfl, HBW.out⟩
        · clear hv1
          go_wp2
          go_ret
          exact ⟨rfl, HBW.out⟩
end Go.Proofs.Ytjaimcmnndejgaa
