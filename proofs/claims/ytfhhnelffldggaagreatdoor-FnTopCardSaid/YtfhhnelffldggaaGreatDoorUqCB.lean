/-
  slices.Index and slices.Contains over orders.
-/
import Derived.Test.YtfhhnelffldggaaGreatDoorUqAZ
import Derived.Laws.StructEq
set_option maxRecDepth 100000
set_option maxHeartbeats 16000000
namespace Go.Proofs.YtfhhnelffldggaaGreatDoor
open Go.ChangeShapes Go.WideShapes Go.ChangeAt Go.RowKit Go.PlainAid
set_option linter.unusedVariables false
set_option linter.unusedSimpArgs false
theorem aqCtnI {p : Prop} (h : p) : Hid p := h
theorem ordU : Tryz.prog.underlying 82 = some (.struct (Tryz.prog.fieldsOf 82)) := by kernel_rfl
theorem ordH : Tryz.prog.stoodInHeld 82 = false := by kernel_rfl
theorem ordG : Tryz.prog.eqGuardType Tryz.prog.depth 82 = false := by kernel_rfl
theorem ord_eql (k n d v k' n' d' v' : Int) (w : World) : (binOp .eql 82 (.agg #[.int .i64 k, .int .i64 n, .int .i64 d, .int .i64 v]) (.agg #[.int .i64 k', .int .i64 n', .int .i64 d', .int .i64 v'])).run Tryz.prog w = .ok (.bool (k == k' && (n == n' && (d == d' && v == v')))) w := by
 rw [run_eql_struct, run_equalIn_agg _ _ _ _ _ ordU ordH]
 have hf : (Tryz.prog.fieldsOf 82).toList.map (fun f => (f.name == "_", f.type, f.offset)) = [(false, 3, 0), (false, 3, 1), (false, 3, 2), (false, 3, 3)] := by kernel_rfl
 have hu := Tryz.underlying3
 generalize (Tryz.prog.fieldsOf 82).toList = fs at hf ⊢
 have hlen : fs.length = 4 := by simpa using congrArg List.length hf
 match fs, hlen, hf with
 | [f0, f1, f2, f3], _, hf =>
  simp at hf
  obtain ⟨⟨a0, a1, a2⟩, ⟨b0, b1, b2⟩, ⟨c0, c1, c2⟩, ⟨d0, d1, d2⟩⟩ := hf
  by_cases h0 : k = k'
  ·
   subst h0
   by_cases h1 : n = n'
   ·
    subst h1
    by_cases h2 : d = d'
    ·
     subst h2
     by_cases h3 : v = v'
     ·
      subst h3
      simp [Op.eqFields, go_sem, a0, a1, a2, b0, b1, b2, c0, c1, c2, d0, d1, d2, hu, run_equalIn_int _ _ _ _ _ _ _ hu]
     ·
      have q3 : (v == v') = false := by simpa using h3
      simp [Op.eqFields, go_sem, a0, a1, a2, b0, b1, b2, c0, c1, c2, d0, d1, d2, hu, q3, run_equalIn_int _ _ _ _ _ _ _ hu]
    ·
     have q2 : (d == d') = false := by simpa using h2
     simp [Op.eqFields, go_sem, a0, a1, a2, b0, b1, b2, c0, c1, c2, d0, d1, d2, hu, q2, run_equalIn_int _ _ _ _ _ _ _ hu]
   ·
    have q1 : (n == n') = false := by simpa using h1
    simp [Op.eqFields, go_sem, a0, a1, a2, b0, b1, b2, c0, c1, c2, d0, d1, d2, hu, q1, run_equalIn_int _ _ _ _ _ _ _ hu]
  ·
   have q0 : (k == k') = false := by simpa using h0
   simp [Op.eqFields, go_sem, a0, a1, a2, b0, b1, b2, c0, c1, c2, d0, d1, d2, hu, q0, run_equalIn_int _ _ _ _ _ _ _ hu]
theorem beq4_t (k n d v : Int) : (k == k && (n == n && (d == d && v == v))) = true := by simp
theorem beq4_f {k n d v k' n' d' v' : Int} (h : ¬ ((k', n', d', v') : Od4) = (k, n, d, v)) : (k == k' && (n == n' && (d == d' && v == v'))) = false := by
 rw [Bool.eq_false_iff]
 intro h2
 simp at h2
 obtain ⟨rfl, rfl, rfl, rfl⟩ := h2
 exact h rfl
theorem indexO (A : Option Addr) (l : List Od4) (n c : Nat) (hl : l.length = n) (hn : n ≤ 1000) (k0 n0 d0 v0 : Int) (w : World) (hr : RdQ w A l) :
  Calls Tryz.prog 153 #[.slice A n c, .agg #[.int .i64 k0, .int .i64 n0, .int .i64 d0, .int .i64 v0]] w fun e w' => (∃ r : Int, e = .returned (.int .i64 r) ∧ (0 ≤ r ↔ ((k0, n0, d0, v0) : Od4) ∈ l)) ∧ Below w.heap.size w w' := by
 have HL := aqCtnI hl
 by_cases hp : 0 < n
 ·
  obtain ⟨g, off, rfl, _⟩ := hr (by omega)
  obtain ⟨W0, hW0⟩ : ∃ W0, w.alloc (oB k0 n0 d0 v0) = W0 := ⟨_, rfl⟩
  have hb0 : Below w.heap.size w W0 := by rw [← hW0]; exact alM _ _
  have HB0 := aqCtnI hb0
  have HV : Hid (W0.heap[w.heap.size]? = some (oB k0 n0 d0 v0)) := by rw [← hW0]; exact heap_new w _
  have HE : Hid (RdQ W0 (some ⟨g, off, none⟩) l) := hr.on hb0
  have kv := (box4_cells HV.out).1
  clear hr hb0 hl
  go_enter Tryz.func153, Tryz.ntmps153
  go_upto_region 1 with fail
  (try rw [hW0])
  clear hW0
  go_wp2
  go_loopw [8] (fun i wr => ∃ (j q : Nat), j ≤ n ∧ i = .int .i64 j ∧ wr = W0.drewN q ∧ Hid (∀ k (h : k < l.length), k < j → l[k] ≠ (k0, n0, d0, v0))) (fun i _ => n - (intOf i).toNat)
  case atStart => exact ⟨0, 0, Nat.zero_le _, rfl, rfl, (fun k h h2 => by omega : ∀ k (h : k < l.length), k < 0 → l[k] ≠ (k0, n0, d0, v0))⟩
  case round =>
   obtain ⟨j, q, hj, rfl, rfl, HF⟩ := hrel
   by_cases hlt : j < n
   ·
    have hjl : j < l.length := by have := HL.out; omega
    obtain ⟨x0, x1, x2, x3, hx⟩ : ∃ x0 x1 x2 x3, l[j] = ((x0, x1, x2, x3) : Od4) := ⟨_, _, _, _, rfl⟩
    have i0 : (0 : Int) ≤ (j : Int) := by omega
    have i1 : (j : Int) < (n : Int) := by omega
    obtain ⟨g', off', eg, hc⟩ := HE.out (by omega)
    cases eg
    obtain ⟨c0, c1, c2, c3⟩ := hc j hjl
    rw [hx] at c0 c1 c2 c3
    dsimp only at c0 c1 c2 c3
    clear hc
    have hG := ordG
    by_cases hv : ((x0, x1, x2, x3) : Od4) = (k0, n0, d0, v0)
    ·
     have HM : Hid (((k0, n0, d0, v0) : Od4) ∈ l) := by show _ ∈ _; rw [← hv, ← hx]; exact List.getElem_mem hjl
     cases hv
     have hEQ : ∀ w, (binOp .eql 82 (.agg #[.int .i64 k0, .int .i64 n0, .int .i64 d0, .int .i64 v0]) (.agg #[.int .i64 k0, .int .i64 n0, .int .i64 d0, .int .i64 v0])).run Tryz.prog w = .ok (.bool true) w := fun w => by rw [ord_eql, beq4_t]
     clear hx hjl HF
     go_wp2
     go_quiet (fail)
     go_wp2
     go_ret
     exact ⟨⟨(j : Int), rfl, ⟨fun _ => HM.out, fun _ => by omega⟩⟩, below_drewN (below_drewN HB0.out _) _⟩
    ·
     have hEQ : ∀ w, (binOp .eql 82 (.agg #[.int .i64 k0, .int .i64 n0, .int .i64 d0, .int .i64 v0]) (.agg #[.int .i64 x0, .int .i64 x1, .int .i64 x2, .int .i64 x3])).run Tryz.prog w = .ok (.bool false) w := fun w => by rw [ord_eql, beq4_f hv]
     have HF2 : Hid (∀ k (h : k < l.length), k < j + 1 → l[k] ≠ (k0, n0, d0, v0)) := (fun k h h2 => by
      rcases Nat.lt_succ_iff_lt_or_eq.1 h2 with h3 | h3
      · exact HF.out k h h3
      · subst h3; rw [hx]; exact hv : ∀ k (h : k < l.length), k < j + 1 → l[k] ≠ (k0, n0, d0, v0))
     clear hx hjl HF hv
     go_wp2
     go_quiet (fail)
     go_wp2
     go_roundw
     case rel => exact ⟨j + 1, q + nq, by omega, by go_num, rfl, HF2⟩
     case measure => simp [intOf]; omega
   ·
    have HN : Hid (¬ ((k0, n0, d0, v0) : Od4) ∈ l) := (fun hm => by
     obtain ⟨k, hk, e⟩ := List.getElem_of_mem hm
     exact HF.out k hk (by have := HL.out; omega) e : ¬ ((k0, n0, d0, v0) : Od4) ∈ l)
    clear HF
    go_wp2
    go_ret
    exact ⟨⟨-1, rfl, ⟨fun h => by omega, fun h => absurd h HN.out⟩⟩, below_drewN HB0.out _⟩
 ·
  obtain rfl : n = 0 := by omega
  obtain rfl : l = [] := List.eq_nil_of_length_eq_zero hl
  clear hr hp
  go_enter Tryz.func153, Tryz.ntmps153
  go_wp2
  go_rounds 1
  go_ret
  exact ⟨⟨-1, rfl, ⟨fun h => by omega, fun h => by cases h⟩⟩, alM _ _⟩
theorem containsO (A : Option Addr) (l : List Od4) (n c : Nat) (hl : l.length = n) (hn : n ≤ 1000) (k0 n0 d0 v0 : Int) (R : Bool) (hR : R = true ↔ ((k0, n0, d0, v0) : Od4) ∈ l) (w : World) (hr : RdQ w A l) :
  Calls Tryz.prog 100 #[.slice A n c, .agg #[.int .i64 k0, .int .i64 n0, .int .i64 d0, .int .i64 v0]] w fun e w' => e = .returned (.bool R) ∧ Below w.heap.size w w' := by
 obtain ⟨W0, hW0⟩ : ∃ W0, w.alloc (oB k0 n0 d0 v0) = W0 := ⟨_, rfl⟩
 have hb0 : Below w.heap.size w W0 := by rw [← hW0]; exact alM _ _
 have HB0 := aqCtnI hb0
 have HV : Hid (W0.heap[w.heap.size]? = some (oB k0 n0 d0 v0)) := by rw [← hW0]; exact heap_new w _
 have HE : Hid (RdQ W0 A l) := hr.on hb0
 have HL := aqCtnI hl
 have HR := aqCtnI hR
 have kv := (box4_cells HV.out).1
 clear hr hb0 hl hR
 go_enter Tryz.func100, Tryz.ntmps100
 go_upto_region 1 with fail
 (try rw [hW0])
 clear hW0
 go_wp2_with fail
 refine (indexO A l n c HL.out hn k0 n0 d0 v0 _ HE.out).mono ?_
 rintro e w2 ⟨⟨r, rfl, hr⟩, hb2⟩
 have HB2 := bq HB0 hb2
 have hdr : R = decide (0 ≤ r) := by
  by_cases h0 : 0 ≤ r
  · rw [decide_eq_true h0]; exact HR.out.2 (hr.1 h0)
  ·
   rw [decide_eq_false h0]
   cases hq : R
   · rfl
   · exact absurd (hr.2 (HR.out.1 hq)) h0
 have HDR := aqCtnI hdr
 clear hb2 hr hdr
 go_wp2
 go_ret
 rw [HDR.out]
 exact ⟨rfl, HB2.out⟩
end Go.Proofs.YtfhhnelffldggaaGreatDoor
