/-
  FnLimits over bytes that are few enough.
-/
import Derived.Test.YtdifmjcghaoilaaGreatDoorGlBH
import Derived.Test.YtdifmjcghaoilaaGreatDoorGlBJ
namespace Go.Proofs.YtdifmjcghaoilaaGreatDoor
open Go.RowKit Go.PlainAid
set_option linter.unusedVariables false
set_option linter.unusedSimpArgs false

/-- what a drawn life tells of its end -/
structure LifeS (D : Dv) (n : Nat) : Prop where
  tru : TruS D
  len : D.t.length = n
  giv : D.p.g = sumT D.t
theorem life_of (ys : List Inp) (hok : ∀ y ∈ ys, y.ok) (hn : ys.length ≤ 150) : LifeS (runD newD (ys.map (·.i))) ys.length := by
  have hic : ∀ i ∈ ys.map (·.i), i.ok := fun i hi => by obtain ⟨y, hy, rfl⟩ := List.mem_map.1 hi; exact (hok y hy).ic
  have hR := run_okD (ys.map (·.i)) tru_new.ok hic
  have hg := run_given (ys.map (·.i)) tru_new.ok hic (by show (0 : Int) + _ ≤ _; simp; omega)
  refine ⟨tru_run _ tru_new hic, ?_, ?_⟩
  · rw [hR.2.1]; show 0 + _ = _; simp
  · have : newD.p.g - sumT newD.t = 0 := rfl
    rw [this] at hg
    omega
theorem cells_dev {w : World} {k : Nat} {t : TypeId} {x0 x1 x2 x3 x4 x5 x6 x7 x8 x9 x10 x11 x12 x13 x14 x15 x16 : Value} (h : w.heap[k]? = some (.cells #[x0, x1, x2, x3, x4, x5, x6, x7, x8, x9, x10, x11, x12, x13, x14, x15, x16] t)) : w.cell? ⟨k, 6, none⟩ = some x6 ∧ w.cell? ⟨k, 15, none⟩ = some x15 := by
  refine ⟨?_, ?_⟩ <;> simp [World.cell?, h]
/-- a part of a span: from i on to k -/
def winL (t : List Tk3) (i k : Nat) : List Tk3 := (t.drop i).take (k - i)
theorem winL_nil (t : List Tk3) (i : Nat) : sumT (winL t i i) = 0 := by unfold winL; simp [sumT]
theorem winL_succ {t : List Tk3} {i k : Nat} (hik : i ≤ k) (hk : k < t.length) : sumT (winL t i (k + 1)) = sumT (winL t i k) + t[k].1 := by
  unfold winL
  rw [show k + 1 - i = (k - i) + 1 by omega, List.take_succ_eq_append_getElem (by simp; omega), sumT_app]
  simp [sumT]
  congr 2
  omega
theorem winL_bd {t : List Tk3} (hb : ∀ x ∈ t, 0 ≤ x.1 ∧ x.1 ≤ 30) (i k : Nat) : 0 ≤ sumT (winL t i k) ∧ sumT (winL t i k) ≤ 30 * (t.length : Int) := by
  have h := sumT_bd (winL t i k) (fun x hx => hb x (List.mem_of_mem_drop (List.mem_of_mem_take hx)))
  have : (winL t i k).length ≤ t.length := by unfold winL; simp; omega
  omega
theorem winL_span {t : List Tk3} {i k : Nat} (h : k = min (i + 10) t.length) (hi : i < t.length) : winL t i k = spL t i := by
  unfold winL spL
  by_cases h10 : i + 10 ≤ t.length
  · rw [show k - i = 10 by omega]
  · rw [List.take_of_length_le (by simp; omega), List.take_of_length_le (by simp; omega)]
set_option maxRecDepth 100000 in
set_option maxHeartbeats 16000000 in
theorem limits_in (a : Option Addr) (len cap : Nat) (hb : len ≤ 1048576) (w : World) (hcode : CodeOk w w.heap.size a len) (ht : Q.Tab w) :
    Calls Tryz.prog 3 #[.slice a len cap] w fun e w' => e = .returned (.bool true) ∧ Below w.heap.size w w' := by
  have HC : Hid (CodeOk w w.heap.size a len) := hcode
  have HT : Hid (Q.Tab w) := ht
  clear hcode ht
  go_enter Tryz.func3, Tryz.ntmps3
  go_wp2_with fail
  refine (big5 a len cap (by omega) _).mono ?_
  rintro e w1 ⟨rfl, rfl⟩
  rw [decide_eq_false (by omega)]
  go_wp2_with fail
  refine (drawIns a len cap _ HC.out).mono ?_
  rintro e w2 ⟨g, n, c, l, rfl, ho, hi, hn, hb2⟩
  obtain ⟨ys, hys, hok⟩ := inps_of l hi
  have hyl : ys.length = n := by have := ho.len; rw [← hys] at this; simpa using this
  have HO2 : Hid (RdZ w2 (some ⟨g, 0, none⟩) (ys.map Inp.t3)) := by show RdZ _ _ _; rw [hys]; exact ho.rd
  have HB2 : Hid (Below w1.heap.size w1 w2) := hb2
  have HOK : Hid (∀ y ∈ ys, y.ok) := hok
  have HYL : Hid (ys.length = n) := hyl
  have hlife := life_of ys hok (by omega)
  obtain ⟨D, hD⟩ : ∃ D, runD newD (ys.map (·.i)) = D := ⟨_, rfl⟩
  rw [hD, hyl] at hlife
  obtain ⟨p2, l2, al2, m2, t2, rf2⟩ := D
  have HD : Hid (runD newD (ys.map (·.i)) = ⟨p2, l2, al2, m2, t2, rf2⟩) := hD
  have HLF : Hid (LifeS ⟨p2, l2, al2, m2, t2, rf2⟩ n) := hlife
  clear ho hi hb2 hys hok hyl hlife hD HC
  (try go_wp2_with fail)
  refine (runI ys HOK.out (some ⟨g, 0, none⟩) n c HYL.out (by omega) p2 l2 al2 m2 t2 rf2 HD.out _ (Q.tab_below HT.out HB2.out) HO2.out).mono ?_
  rintro e w3 ⟨g3, nn, c3, gt, tn, ct, rfl, _, hou, hb3⟩
  have htn : tn = n := by have h1 := hou.len; have h2 : t2.length = n := HLF.out.len; omega
  subst htn
  obtain ⟨X, hX⟩ : ∃ X, w3.heap.size = X := ⟨_, rfl⟩
  obtain ⟨W, hW⟩ : ∃ W, w3.alloc (.cells #[.int .i64 p2.s, .int .i64 p2.n, .int .i64 p2.d, .int .i64 p2.r, .int .i64 p2.l, .int .i64 p2.b, .int .i64 p2.g, .int .i64 p2.k, .slice (some ⟨g3, 0, none⟩) nn c3, .int .i64 al2, .int .i64 m2.a, .bool m2.b, .int .i64 m2.n, .int .i64 m2.d, .string ⟨m2.s.toArray⟩, .slice (some ⟨gt, 0, none⟩) tn ct, .int .i64 rf2] 35) = W := ⟨_, rfl⟩
  have hba : Below w3.heap.size w3 W := by rw [← hW]; exact alM _ _
  have HX : Hid (W.heap[X]? = some (.cells #[.int .i64 p2.s, .int .i64 p2.n, .int .i64 p2.d, .int .i64 p2.r, .int .i64 p2.l, .int .i64 p2.b, .int .i64 p2.g, .int .i64 p2.k, .slice (some ⟨g3, 0, none⟩) nn c3, .int .i64 al2, .int .i64 m2.a, .bool m2.b, .int .i64 m2.n, .int .i64 m2.d, .string ⟨m2.s.toArray⟩, .slice (some ⟨gt, 0, none⟩) tn ct, .int .i64 rf2] 35)) := by rw [← hW, ← hX]; exact heap_new w3 _
  have HB : Hid (Below w1.heap.size w1 W) := bel_on (Nat.le_refl _) (bel_on (Nat.le_refl _) HB2.out hb3) hba
  have HU : Hid (OwnU W w2.heap.size gt tn ct t2) := hou.on hba
  have HTL : Hid (t2.length = tn) := hou.len
  have HNN : Hid (∀ x ∈ t2, 0 ≤ x.1 ∧ x.1 ≤ 30) := HLF.out.tru.nn
  have HSP : Hid (∀ j, sumT (spL t2 j) ≤ 30) := fun j => span_le HLF.out.tru j
  have HGV : Hid (p2.g = sumT t2) := HLF.out.giv
  have HCAP : Hid (tn ≤ ct) := by
    rcases hou.2 with ⟨h, _⟩ | ⟨_, _, _, h, _, _, h2, _⟩
    · cases h
    · cases h; exact h2
  clear hb3 hou hba HB2 HO2 HOK HYL HD HLF
  go_upto_region 4 with fail
  (try rw [hW])
  (try rw [hX])
  clear hW hX
  obtain ⟨gv, hgv⟩ : ∃ z, p2.g = z := ⟨_, rfl⟩
  rw [hgv] at HX HGV
  clear hgv
  obtain ⟨T, hT⟩ : ∃ T, sumT t2 = T := ⟨_, rfl⟩
  rw [hT] at HGV
  have HTT : Hid (sumT t2 = T) := hT
  obtain rfl : gv = T := HGV.out
  clear hT HGV
  have htb : ∀ i, 0 ≤ sumT (t2.take i) ∧ sumT (t2.take i) ≤ 4500 := fun i => by
    have h := sumT_bd (t2.take i) (fun x hx => HNN.out x (List.mem_of_mem_take hx))
    have h2 := HTL.out
    rw [List.length_take] at h
    omega
  have HTB : Hid (∀ i, 0 ≤ sumT (t2.take i) ∧ sumT (t2.take i) ≤ 4500) := htb
  have hwb : ∀ i k, 0 ≤ sumT (winL t2 i k) ∧ sumT (winL t2 i k) ≤ 4500 := fun i k => by
    have h := winL_bd HNN.out i k
    have h2 := HTL.out
    omega
  have HWB : Hid (∀ i k, 0 ≤ sumT (winL t2 i k) ∧ sumT (winL t2 i k) ≤ 4500) := hwb
  have HCE : Hid (∀ j (h : j < t2.length), W.cell? ⟨gt, j * 3, none⟩ = some (.int .i64 t2[j].1)) := (fun j h => by
    obtain ⟨g', off', e, hc⟩ := HU.out.rd (by omega)
    cases e
    have := (hc j h).1
    rwa [Nat.zero_add] at this : ∀ j (h : j < t2.length), W.cell? ⟨gt, j * 3, none⟩ = some (.int .i64 t2[j].1))
  clear htb hwb
  obtain ⟨k6, k15⟩ := cells_dev HX.out
  go_wp2_with fail
  go_loopw [5, 6] (fun nv iv wr => ∃ (j : Nat) (S : Int), j ≤ tn ∧ nv = .int .i64 S ∧ iv = .int .i64 j ∧ wr = W ∧ Hid (S = sumT (t2.take j))) (fun _ iv _ => tn - (intOf iv).toNat)
  case atStart => exact ⟨0, 0, Nat.zero_le _, rfl, rfl, rfl, (rfl : (0 : Int) = sumT (t2.take 0))⟩
  case round =>
    obtain ⟨j, S, hj, rfl, rfl, rfl, HS⟩ := hrel
    by_cases hlt : j < tn
    · have hjl : j < t2.length := by have := HTL.out; omega
      have c0 := HCE.out j hjl
      obtain ⟨x, hx⟩ : ∃ x, t2[j].1 = x := ⟨_, rfl⟩
      rw [hx] at c0
      have hbS := HTB.out j
      rw [← HS.out] at hbS
      have hbx : 0 ≤ x ∧ x ≤ 30 := by rw [← hx]; exact HNN.out _ (List.getElem_mem hjl)
      have HS2 : Hid (S + x = sumT (t2.take (j + 1))) := by show _ = _; rw [sumT_take hjl, HS.out, hx]
      have q0 : IntKind.i64.wrap (S + x) = S + x := wrap_in (by omega) (by omega)
      have q1 : IntKind.i64.wrap ((j : Int) + 1) = (j : Int) + 1 := wrap_in (by omega) (by omega)
      have q2 : IntKind.i64.wrap ((j : Int) + 10) = (j : Int) + 10 := wrap_in (by omega) (by omega)
      have j0 : (0 : Int) ≤ (j : Int) := by omega
      have j1 : (j : Int) < (tn : Int) := by omega
      clear hx hjl hbS hbx HS
      go_wp2_with fail
      go_loopw [7, 8] (fun sv kv wr2 => ∃ (k : Nat) (R : Int), j ≤ k ∧ k ≤ j + 10 ∧ k ≤ tn ∧ sv = .int .i64 R ∧ kv = .int .i64 k ∧ wr2 = wr ∧ Hid (R = sumT (winL t2 j k))) (fun _ kv _ => tn - (intOf kv).toNat)
      case atStart => exact ⟨j, 0, Nat.le_refl _, by omega, by omega, rfl, rfl, rfl, (winL_nil t2 j).symm⟩
      case round =>
        obtain ⟨k, R, hk0, hk1, hk2, rfl, rfl, rfl, HR⟩ := hrel
        by_cases hkt : k < tn
        · by_cases hk10 : k < j + 10
          · have hkl : k < t2.length := by have := HTL.out; omega
            have d0 := HCE.out k hkl
            obtain ⟨y, hy⟩ : ∃ y, t2[k].1 = y := ⟨_, rfl⟩
            rw [hy] at d0
            have hbR := HWB.out j k
            rw [← HR.out] at hbR
            have hby : 0 ≤ y ∧ y ≤ 30 := by rw [← hy]; exact HNN.out _ (List.getElem_mem hkl)
            have HR2 : Hid (R + y = sumT (winL t2 j (k + 1))) := by show _ = _; rw [winL_succ hk0 hkl, HR.out, hy]
            have r0 : IntKind.i64.wrap (R + y) = R + y := wrap_in (by omega) (by omega)
            have r1 : IntKind.i64.wrap ((k : Int) + 1) = (k : Int) + 1 := wrap_in (by omega) (by omega)
            have k0 : (0 : Int) ≤ (k : Int) := by omega
            have k1 : (k : Int) < (tn : Int) := by omega
            have k2 : (k : Int) < (j : Int) + 10 := by omega
            clear hy hkl hbR hby HR c0
            go_wp2
            go_roundw
            case rel => exact ⟨k + 1, R + y, by omega, by omega, by omega, rfl, by go_num, trivial, HR2⟩
            case measure => simp [intOf]; omega
          · have k1 : (k : Int) < (tn : Int) := by omega
            have k2 : ¬ (k : Int) < (j : Int) + 10 := by omega
            have h30 : ¬ (30 : Int) < R := by
              have h1 := HSP.out j
              rw [← winL_span (k := k) (by have := HTL.out; omega) (by have := HTL.out; omega), ← HR.out] at h1
              omega
            clear HR c0
            go_wp2
            go_roundw
            case rel => exact ⟨j + 1, S + x, by omega, rfl, by go_num, trivial, HS2⟩
            case measure => simp [intOf]; omega
        · have k1 : ¬ (k : Int) < (tn : Int) := by omega
          have h30 : ¬ (30 : Int) < R := by
            have h1 := HSP.out j
            rw [← winL_span (k := k) (by have := HTL.out; omega) (by have := HTL.out; omega), ← HR.out] at h1
            omega
          clear HR c0
          go_wp2
          go_roundw
          case rel => exact ⟨j + 1, S + x, by omega, rfl, by go_num, trivial, HS2⟩
          case measure => simp [intOf]; omega
    · obtain rfl : j = tn := by omega
      have hST : S = gv := by rw [HS.out, ← HTT.out, List.take_of_length_le (by have := HTL.out; omega)]
      subst hST
      have j1 : ¬ (j : Int) < (j : Int) := by omega
      have j2 : (0 : Int) < (j : Int) := by omega
      clear HS HTB HWB HCE
      go_wp2_with fail
      refine (withinI (some ⟨gt, 0, none⟩) t2 j ct HTL.out HCAP.out (by omega) HNN.out HSP.out _ HU.out.rd).mono ?_
      rintro e w5 ⟨rfl, hb5⟩
      have HX5 : Hid (w5.heap[X]? = some (.cells #[.int .i64 p2.s, .int .i64 p2.n, .int .i64 p2.d, .int .i64 p2.r, .int .i64 p2.l, .int .i64 p2.b, .int .i64 S, .int .i64 p2.k, .slice (some ⟨g3, 0, none⟩) nn c3, .int .i64 al2, .int .i64 m2.a, .bool m2.b, .int .i64 m2.n, .int .i64 m2.d, .string ⟨m2.s.toArray⟩, .slice (some ⟨gt, 0, none⟩) j ct, .int .i64 rf2] 35)) := row_on HX.out hb5
      have HU5 : Hid (OwnU w5 w2.heap.size gt j ct t2) := HU.out.on hb5
      have HB5 : Hid (Below w1.heap.size w1 w5) := bel_on (Nat.le_refl _) HB.out hb5
      clear hb5 HX HU HB k6 k15
      obtain ⟨k6, k15⟩ := cells_dev HX5.out
      go_wp2_with fail
      refine (totalI (some ⟨gt, 0, none⟩) t2 j ct HTL.out (by omega) HNN.out _ HU5.out.rd).mono ?_
      rw [HTT.out]
      rintro e w6 ⟨rfl, hb6⟩
      have HX6 : Hid (w6.heap[X]? = some (.cells #[.int .i64 p2.s, .int .i64 p2.n, .int .i64 p2.d, .int .i64 p2.r, .int .i64 p2.l, .int .i64 p2.b, .int .i64 S, .int .i64 p2.k, .slice (some ⟨g3, 0, none⟩) nn c3, .int .i64 al2, .int .i64 m2.a, .bool m2.b, .int .i64 m2.n, .int .i64 m2.d, .string ⟨m2.s.toArray⟩, .slice (some ⟨gt, 0, none⟩) j ct, .int .i64 rf2] 35)) := row_on HX5.out hb6
      have HB6 : Hid (Below w1.heap.size w1 w6) := bel_on (Nat.le_refl _) HB5.out hb6
      clear hb6 HX5 HU5 HB5 k6 k15
      obtain ⟨k6, k15⟩ := cells_dev HX6.out
      have hee : (S == S) = true := by simp
      go_wp2
      go_ret
      exact ⟨by simp, HB6.out⟩
end Go.Proofs.YtdifmjcghaoilaaGreatDoor
