/-
  RunCost of the specification.
-/
import Derived.Test.YthnocibkgpofnaaRunI7
import Derived.Test.YthnocibkgpofnaaSpecS
namespace Go.Proofs.Ythnocibkgpofnaa
open Go.RowKit Go.PlainAid
set_option linter.unusedVariables false

theorem costS2 (op c : Int) (hc : costN op = c) (w : World) : Calls Try.prog 27 #[.int .i64 op] w fun e w' => e = .returned (.int .i64 c) ∧ w' = w := by
  subst hc; exact costS op w
theorem R3.put {w W : World} {pc f s : Int} {sv av : Value} (h : R3 w W av f s pc sv) {k : Nat} (i : Nat) (v : Value) (hk : w.heap.size + 3 ≤ k) : R3 w (W.setCell ⟨k, i, none⟩ v) av f s pc sv :=
  ⟨set_other h.1 (by omega), set_other h.2.1 (by omega), set_other h.2.2.1 (by omega), h.bel.setCell (p := ⟨k, i, none⟩) (by show w.heap.size ≤ k; omega) _⟩
theorem OwnN.room {w : World} {B g n c : Nat} {l : List Int} (h : OwnN w B g n c l) : n ≤ c := by
  obtain ⟨a, cap, e, h1, _⟩ := own_rd h
  injection e with e1 e2 e3
  omega
theorem stepSx (qs : Option Addr) (pc : Int) (st : List Int) (n cp : Nat) (qc : Option Addr) (rl : List (Int × Int)) (nc cc : Nat) (ad : Addr) (ce : List Int) (m ca : Nat) (f s t : Int) (b : Bool) (rp : Int) (rs rc : List Int) (rk ro rn rt : Int) (N : Nat) (hl : st.length = n) (hn : n ≤ 1048576) (hqs : qs = none → n = 0 ∧ cp = 0) (hncp : n ≤ cp) (hlc : rl.length = nc) (hnc : nc ≤ 1048576) (hla : ce.length = m) (hm : m ≤ 1048576) (hb : b = true ↔ (CpuR pc st ∧ I.CodeR rl ∧ pc < (nc : Int))) (hR : stepR b pc st rl ce f s t = ⟨rp, rs, rc, rk, ro, rn, rt⟩) (hN : rs.length = N) (w : World) (hr : Rd w qs st) (hrc : I.RdR w qc rl) (hra : Rd w (some ad) ce) :
    Calls Try.prog 28 #[.agg #[.int .i64 pc, .slice qs n cp], .slice qc nc cc, .agg #[.slice (some ad) m ca], .agg #[.int .i64 f, .int .i64 s], .int .i64 t] w fun e w' => ∃ g2 c2 ga2 ca2, e = .returned (.tuple #[.agg #[.int .i64 rp, .slice (some ⟨g2, 0, none⟩) N c2], .agg #[.slice (some ⟨ga2, 0, none⟩) m ca2], .agg #[.int .i64 rk, .int .i64 ro, .int .i64 rn, .int .i64 rt]]) ∧ OwnN w' w.heap.size g2 N c2 rs ∧ OwnN w' w.heap.size ga2 m ca2 rc ∧ g2 ≠ ga2 ∧ Below w.heap.size w w' :=
  stepS qs pc st n cp qc rl nc cc ad ce m ca f s t b ⟨rp, rs, rc, rk, ro, rn, rt⟩ N hl hn hqs hncp hlc hnc hla hm hb hR hN w hr hrc hra
theorem alo_none {rp : Int} {rs rc : List Int} {rk ro rn rt : Int} (h : ansN rk = 0) : aloTr ⟨rp, rs, rc, rk, ro, rn, rt⟩ = rt := by
  show (if (putA (ansN rk) rs).2 then rt else 4) = rt
  rw [h]; rfl
theorem alo_put {rp : Int} {rs rc l : List Int} {rk ro rn rt : Int} {ok : Bool} {n : Nat} (h : ansN rk = n) (hp : putA n rs = (l, ok)) : aloTr ⟨rp, rs, rc, rk, ro, rn, rt⟩ = (if ok then rt else 4) ∧ aloSt ⟨rp, rs, rc, rk, ro, rn, rt⟩ = l := by
  show (if (putA (ansN rk) rs).2 then rt else 4) = (if ok then rt else 4) ∧ (putA (ansN rk) rs).1 = l
  rw [h, hp]; exact ⟨rfl, rfl⟩

set_option maxRecDepth 100000 in
set_option maxHeartbeats 2000000 in
theorem costRunS (qc : Option Addr) (rl : List (Int × Int)) (nc cc : Nat) (ad : Addr) (ce0 : List Int) (m ca : Nat) (f s most M : Int) (Mn : Nat) (c : Bool) (X T : Int) (hlc : rl.length = nc) (hnc : nc ≤ 1048576) (hla : ce0.length = m) (hm : m ≤ 1048576) (hc : c = true ↔ I.CodeR rl) (hM : min most 5000 = M) (hMn : M.toNat = Mn) (hX : runR c rl f s M Mn 0 [] ce0 0 = (X, T)) (w : World) (hrc : I.RdR w qc rl) (hra : Rd w (some ad) ce0) :
    Calls Try.prog 9 #[.slice qc nc cc, .agg #[.slice (some ad) m ca], .agg #[.int .i64 f, .int .i64 s], .int .i64 most] w fun e w' => e = .returned (.tuple #[.int .i64 X, .int .i64 T]) ∧ Below w.heap.size w w' := by
  have HRC : Hid (I.RdR w qc rl) := hrc
  have HLC : Hid (rl.length = nc) := hlc
  have HC : Hid (c = true ↔ I.CodeR rl) := hc
  have HX : Hid (runR c rl f s M Mn 0 [] ce0 0 = (X, T)) := hX
  have HR0 : Hid (R3 w _ (.slice (some ad) m ca) f s 0 (.slice none 0 0)) := r3_start w (.slice (some ad) m ca) f s 0 (.slice none 0 0)
  have HRA0 : Hid (Rd _ (some ad) ce0) := hra.keep HR0.out.bel (Nat.le_refl _)
  have HLA0 : Hid (ce0.length = m) := hla
  have hM5 : M ≤ 5000 := by omega
  have hMM : M ≤ (Mn : Int) := by omega
  have hw : (most ≤ 5000 ∧ M = most) ∨ (5000 < most ∧ M = 5000) := by omega
  have hnil : Hid (CpuR 0 []) := ⟨by simp, ⟨by decide, by decide⟩, fun i h => absurd h (Nat.not_lt_zero _)⟩
  have HRn : Hid (∀ W, Rd W none []) := fun W h => absurd h (Nat.lt_irrefl _)
  clear hrc hlc hc hX hra hla hM hMn
  go_enter Try.func9, Try.ntmps9
  rcases hw with ⟨hmo, hmm⟩ | ⟨hmo, hmm⟩
  · subst hmm
    go_wp2
    go_loopg [11] Mn (fun gk cv wr => ∃ (cost pc : Int) (st : List Int) (qs : Option Addr) (n cp : Nat) (ce : List Int) (ad' : Addr) (ca' : Nat), cv = .int .i64 cost ∧ M ≤ cost + (gk : Int) ∧ (0 ≤ cost ∧ cost ≤ 5000) ∧ Hid (runR c rl f s M gk pc st ce cost = (X, T)) ∧ Hid (R3 w wr (.slice (some ad') m ca') f s pc (.slice qs n cp)) ∧ Hid (Rd wr qs st) ∧ Hid (st.length = n) ∧ Hid (qs = none → n = 0 ∧ cp = 0) ∧ Hid (n ≤ cp) ∧ Hid (Rd wr (some ad') ce) ∧ Hid (ce.length = m) ∧ Hid (CpuR pc st))
    case atStart => exact ⟨0, 0, [], none, 0, 0, ce0, ad, ca, rfl, by omega, ⟨by decide, by decide⟩, HX, HR0, HRn.out _, rfl, (fun _ => ⟨rfl, rfl⟩), Nat.le_refl _, HRA0, HLA0, hnil⟩
    case round =>
      clear HX HR0 HRA0 HLA0 hnil HRn
      obtain ⟨cost, pc, st, qs, n, cp, ce, ad', ca', rfl, hgM, hco, HX, HR, HRS, HLS, HQN, HNC, HRA, HLA, HCR⟩ := hrel
      have hp0 := HCR.out.2.1.1
      obtain ⟨p, rfl⟩ := Int.eq_ofNat_of_zero_le hp0
      have kC := row2_cells HR.out.2.2.1
      have kA := row1_cells HR.out.1
      have kR := row2_cells HR.out.2.1
      by_cases hpc : (nc : Int) ≤ (p : Int)
      · have HE : Hid (cost = X ∧ 0 = T) := by have h := HX.out; rw [run_end (by rw [HLC.out]; exact hpc)] at h; injection h with h1 h2; exact ⟨h1, h2⟩
        go_wp2
        refine bodyPost_ret (v := .tuple #[.int .i64 cost, .int .i64 0]) (by simp [results, Try.results9, go_sem]) rfl ⟨by rw [HE.out.1, HE.out.2], HR.out.bel⟩
      · have hpl : p < rl.length := by have := HLC.out; omega
        obtain ⟨g, off, rfl, hcc⟩ := HRC.out (by omega)
        have hgl : g < w.heap.size := World.block_lt_of_cell? w ⟨g, off + 0 * 2, none⟩ (hcc 0 (by omega)).1
        have c1 := (HR.out.bel.cell (p := ⟨g, off + p * 2, none⟩) hgl).trans (hcc p hpl).1
        clear hcc
        obtain ⟨op, hop⟩ : ∃ op, rl[p].1 = op := ⟨_, rfl⟩
        rw [hop] at c1
        have HOP : Hid ((opAt' rl (p : Int)).1 = op) := by show _ = _; rw [opAt_in hpl]; exact hop
        obtain ⟨co, hcoq⟩ : ∃ co, costN op = co := ⟨_, rfl⟩
        have HCO : Hid (costN op = co) := hcoq
        have hcb := costN_bd op
        rw [hcoq] at hcb
        clear hop hcoq
        go_wp2_with fail
        refine (costS2 op co HCO.out _).mono ?_
        rintro e w2 ⟨rfl, rfl⟩
        by_cases hd : M < cost + co
        · have HE : Hid (cost = X ∧ 0 = T) := by have h := HX.out; rw [run_dear (co := co) (by rw [HOP.out]; exact HCO.out) hd] at h; injection h with h1 h2; exact ⟨h1, h2⟩
          go_wp2
          refine bodyPost_ret (v := .tuple #[.int .i64 cost, .int .i64 0]) (by simp [results, Try.results9, go_sem]) rfl ⟨by rw [HE.out.1, HE.out.2], HR.out.bel⟩
        · obtain ⟨k, rfl⟩ : ∃ k, gk = k + 1 := ⟨gk - 1, by omega⟩
          obtain ⟨rp, rs, rc, rk, ro, rn, rt, hR⟩ : ∃ rp rs rc rk ro rn rt, stepR c (p : Int) st rl ce f s 0 = ⟨rp, rs, rc, rk, ro, rn, rt⟩ := ⟨_, _, _, _, _, _, _, rfl⟩
          have HRR : Hid (stepR c (p : Int) st rl ce f s 0 = ⟨rp, rs, rc, rk, ro, rn, rt⟩) := hR
          have HPN : Hid (¬ (rl.length : Int) ≤ (p : Int)) := by show ¬ _; rw [HLC.out]; omega
          have HBB : Hid (c = true ↔ (CpuR (p : Int) st ∧ I.CodeR rl ∧ (p : Int) < (nc : Int))) := ⟨fun h => ⟨HCR.out, HC.out.1 h, by omega⟩, fun h => HC.out.2 h.2.1⟩
          have HRI : Hid (rt = 0 → CpuR rp rs) := fun h => stepR_right HLC.out HBB.out hR h
          have HRT : Hid (rt ≠ 0 → (⟨rp, rs, rc, rk, ro, rn, rt⟩ : Res) = trapR (p : Int) st ce rt) := fun h => stepR_trap hR h
          have HGO : Hid (rt = 0 → ansN rk = ansN op) := fun h => by rw [← HOP.out]; exact (stepR_go hR h).2
          obtain ⟨N, hN⟩ : ∃ N, rs.length = N := ⟨_, rfl⟩
          have HN : Hid (rs.length = N) := hN
          clear hR hN
          have hn8 : n ≤ 1048576 := by have := HLS.out; have := HCR.out.1; omega
          go_wp2_with fail
          refine (costS2 op co HCO.out _).mono ?_
          rintro e w3 ⟨rfl, rfl⟩
          go_wp2_with fail
          refine (stepSx qs (p : Int) st n cp (some ⟨g, off, none⟩) rl nc cc ad' ce m ca' f s 0 c rp rs rc rk ro rn rt N HLS.out hn8 HQN.out HNC.out HLC.out hnc HLA.out hm HBB.out HRR.out HN.out _ HRS.out (HRC.out.keep HR.out.bel (Nat.le_refl _)) HRA.out).mono ?_
          rintro e w4 ⟨g2, c2, ga2, ca2, rfl, hown2, hownA, hne, hb4⟩
          have h3 := HR.out.lt
          have l2 := hown2.ge
          have lA := hownA.ge
          have m2 := hown2.lt
          have mA := hownA.lt
          have hb4s := hb4.size
          have HR4 : Hid (R3 w w4 (.slice (some ad') m ca') f s (p : Int) (.slice qs n cp)) := HR.out.on hb4
          have HO4 : Hid (OwnN w4 (w.heap.size + 3) g2 N c2 rs) := hown2.mono (by omega)
          have HOA4 : Hid (OwnN w4 (w.heap.size + 3) ga2 m ca2 rc) := hownA.mono (by omega)
          have HNE : Hid (g2 ≠ ga2) := hne
          clear hown2 hownA hne hb4 HR HRS HRA HLS HLA HQN HNC kC kA kR c1 HBB l2 lA
          by_cases htr : rt = 0
          · subst htr
            have HR5 : Hid (R3 w (((w4.alloc (.cells #[.int .i64 rp, .slice (some ⟨g2, 0, none⟩) N c2] 55)).alloc (.cells #[.slice (some ⟨ga2, 0, none⟩) m ca2] 34)).alloc (.cells #[.int .i64 rk, .int .i64 ro, .int .i64 rn, .int .i64 0] 58)) (.slice (some ad') m ca') f s (p : Int) (.slice qs n cp)) := HR4.out.on (al3_b w4 _ _ _)
            have kC5 := row2_cells (al3_1 w4 (.cells #[.int .i64 rp, .slice (some ⟨g2, 0, none⟩) N c2] 55) (.cells #[.slice (some ⟨ga2, 0, none⟩) m ca2] 34) (.cells #[.int .i64 rk, .int .i64 ro, .int .i64 rn, .int .i64 0] 58))
            have kA5 := row1_cells (al3_2 w4 (.cells #[.int .i64 rp, .slice (some ⟨g2, 0, none⟩) N c2] 55) (.cells #[.slice (some ⟨ga2, 0, none⟩) m ca2] 34) (.cells #[.int .i64 rk, .int .i64 ro, .int .i64 rn, .int .i64 0] 58))
            have kE5 := row4_cells (al3_3 w4 (.cells #[.int .i64 rp, .slice (some ⟨g2, 0, none⟩) N c2] 55) (.cells #[.slice (some ⟨ga2, 0, none⟩) m ca2] 34) (.cells #[.int .i64 rk, .int .i64 ro, .int .i64 rn, .int .i64 0] 58))
            have kA6 := row1_cells HR5.out.1
            have HKO : Hid (ansN rk = ansN op) := HGO.out rfl
            rcases op_zero op with rfl | ⟨hop0, hop0'⟩
            · have HE : Hid (cost + co = X ∧ 0 = T) := by
                have h := HX.out
                rw [run_stop HRR.out HOP.out HCO.out (by have := HPN.out; omega) (by omega) (.inr rfl), alo_none (HKO.out.trans rfl)] at h
                injection h with h1 h2; exact ⟨h1, h2⟩
              go_wp2
              refine bodyPost_ret (v := .tuple #[.int .i64 (cost + co), .int .i64 0]) (by simp [results, Try.results9, go_sem]) rfl ⟨by rw [HE.out.1, HE.out.2], HR5.out.bel⟩
            · have HOZ : Hid (op ≠ 0) := hop0'
              clear hop0'
              obtain ⟨Kn, hKn⟩ : ∃ Kn, ansN op = Kn := ⟨_, rfl⟩
              have HK : Hid (ansN op = Kn) := hKn
              have hK2 : Kn ≤ 2 := by rw [← hKn]; exact ansN_le _
              obtain ⟨KN, hKN⟩ : ∃ KN, w4.heap.size = KN := ⟨_, rfl⟩
              have hKl : w.heap.size + 3 ≤ KN := by rw [← hKN]; exact HR4.out.lt
              obtain ⟨l, ok, hpl⟩ : ∃ l ok, putA Kn rs = (l, ok) := ⟨_, _, rfl⟩
              have HPL : Hid (putA Kn rs = (l, ok)) := hpl
              have HAL : Hid (aloTr ⟨rp, rs, rc, rk, ro, rn, 0⟩ = (if ok then 0 else 4) ∧ aloSt ⟨rp, rs, rc, rk, ro, rn, 0⟩ = l) := alo_put (HKO.out.trans hKn) hpl
              have HCR0 : Hid (CpuR rp rs) := HRI.out rfl
              have HR6 : Hid (R3 w ((((w4.alloc (.cells #[.int .i64 rp, .slice (some ⟨g2, 0, none⟩) N c2] 55)).alloc (.cells #[.slice (some ⟨ga2, 0, none⟩) m ca2] 34)).alloc (.cells #[.int .i64 rk, .int .i64 ro, .int .i64 rn, .int .i64 0] 58)).setCell ⟨w.heap.size, 0, none⟩ (.slice (some ⟨ga2, 0, none⟩) m ca2)) (.slice (some ⟨ga2, 0, none⟩) m ca2) f s (p : Int) (.slice qs n cp)) := HR5.out.toA _
              have HC6 : Hid (((((w4.alloc (.cells #[.int .i64 rp, .slice (some ⟨g2, 0, none⟩) N c2] 55)).alloc (.cells #[.slice (some ⟨ga2, 0, none⟩) m ca2] 34)).alloc (.cells #[.int .i64 rk, .int .i64 ro, .int .i64 rn, .int .i64 0] 58)).setCell ⟨w.heap.size, 0, none⟩ (.slice (some ⟨ga2, 0, none⟩) m ca2)).heap[KN]? = some (.cells #[.int .i64 rp, .slice (some ⟨g2, 0, none⟩) N c2] 55)) := by show _ = _; rw [← hKN]; exact set_other (al3_1 w4 _ _ _) (by omega)
              have HO6 : Hid (OwnN ((((w4.alloc (.cells #[.int .i64 rp, .slice (some ⟨g2, 0, none⟩) N c2] 55)).alloc (.cells #[.slice (some ⟨ga2, 0, none⟩) m ca2] 34)).alloc (.cells #[.int .i64 rk, .int .i64 ro, .int .i64 rn, .int .i64 0] 58)).setCell ⟨w.heap.size, 0, none⟩ (.slice (some ⟨ga2, 0, none⟩) m ca2)) (w.heap.size + 3) g2 N c2 rs) := (HO4.out.on (al3_b w4 _ _ _)).set (by have := HO4.out.ge; omega)
              have HOA6 : Hid (OwnN ((((w4.alloc (.cells #[.int .i64 rp, .slice (some ⟨g2, 0, none⟩) N c2] 55)).alloc (.cells #[.slice (some ⟨ga2, 0, none⟩) m ca2] 34)).alloc (.cells #[.int .i64 rk, .int .i64 ro, .int .i64 rn, .int .i64 0] 58)).setCell ⟨w.heap.size, 0, none⟩ (.slice (some ⟨ga2, 0, none⟩) m ca2)) (w.heap.size + 3) ga2 m ca2 rc) := (HOA4.out.on (al3_b w4 _ _ _)).set (by have := HOA4.out.ge; omega)
              have HLA6 : Hid (rc.length = m) := HOA4.out.len
              have HNK : Hid (g2 ≠ KN ∧ ga2 ≠ KN) := ⟨by omega, by omega⟩
              have hgA : w.heap.size + 3 ≤ ga2 := HOA4.out.ge
              have hgK : ga2 < KN := by omega
              clear hKn hpl HR4 HR5 HO4 HOA4 hb4s m2 mA
              go_wp2
              go_loopg [16] Kn (fun gi kv wi => ∃ (j : Nat) (st' : List Int) (g' n' c' : Nat), j + gi = Kn ∧ kv = .int .i64 j ∧ Hid (putA gi st' = (l, ok)) ∧ Hid (CpuR rp st') ∧ Hid (R3 w wi (.slice (some ⟨ga2, 0, none⟩) m ca2) f s (p : Int) (.slice qs n cp)) ∧ Hid (wi.heap[KN]? = some (.cells #[.int .i64 rp, .slice (some ⟨g', 0, none⟩) n' c'] 55)) ∧ Hid (OwnN wi (w.heap.size + 3) g' n' c' st') ∧ Hid (OwnN wi (w.heap.size + 3) ga2 m ca2 rc) ∧ Hid (g' ≠ KN))
              case atStart => exact ⟨0, rs, g2, N, c2, by omega, rfl, HPL, HCR0, HR6, HC6, HO6, HOA6, HNK.out.1⟩
              case round =>
                clear HPL HCR0 HR6 HC6 HO6 HOA6 HNK
                obtain ⟨j, st', g', n', c', hj, rfl, HP, HC', HR6, HC6, HO6, HOA6, HGK⟩ := hrel
                have kN := row2_cells HC6.out
                have kC := row2_cells HR6.out.2.2.1
                go_wp2_with fail
                refine (answersS' op Kn HK.out _).mono ?_
                rintro e w5 ⟨rfl, rfl⟩
                cases gk with
                | succ gi =>
                  have hjK : (j : Int) < (Kn : Int) := by omega
                  have hst : Hid (st'.length = n') := HO6.out.len
                  have hn8 : n' ≤ 8 := by rw [← HO6.out.len]; exact HC'.out.1
                  by_cases h8 : n' = 8
                  · subst h8
                    have e8 : st'.length = 8 := HO6.out.len
                    have hp := HP.out
                    rw [putA_full e8] at hp
                    injection hp with hp1 hp2
                    have HE : Hid (cost + co = X ∧ 4 = T) := by
                      have ha : aloTr ⟨rp, rs, rc, rk, ro, rn, 0⟩ = 4 := by rw [HAL.out.1, ← hp2]; rfl
                      have h := HX.out
                      rw [run_stop HRR.out HOP.out HCO.out (by have := HPN.out; omega) (by omega) (.inl (by rw [ha]; decide)), ha] at h
                      injection h with h1 h2; exact ⟨h1, h2⟩
                    clear hp1 hp2 e8
                    go_wp2_with fail
                    refine (answerS' (some ⟨g', 0, none⟩) rp st' 8 c' 0 false 8 st' hst.out (by omega) (fun h => by cases h) ⟨(fun h => by cases h), (fun h => (h.2 rfl).elim)⟩ rfl rfl _ HO6.out.rd).mono ?_
                    rintro e w6 ⟨g3, c3, rfl, hown3, hb6⟩
                    have HBF : Hid (Below w.heap.size w (w6.alloc (.cells #[.int .i64 rp, .slice (some ⟨g3, 0, none⟩) 8 c3] 55))) := ((HR6.out.on hb6).on ((Below.refl _ _).alloc (Nat.le_refl _) _)).bel
                    clear hown3 hb6 HR6 HC6 HO6 HOA6 kN kC
                    go_wp2
                    refine bodyPost_ret (v := .tuple #[.int .i64 (cost + co), .int .i64 4]) (by simp [results, Try.results9, go_sem]) rfl ⟨by rw [HE.out.1, HE.out.2], HBF.out⟩
                  · obtain ⟨n3, hn3⟩ : ∃ n3, n' + 1 = n3 := ⟨_, rfl⟩
                    have HN3 : Hid (n' + 1 = n3) := hn3
                    have e8 : st'.length ≠ 8 := by rw [HO6.out.len]; exact h8
                    have HP' : Hid (putA gi (st' ++ [0]) = (l, ok)) := by show _ = _; rw [← putA_more e8]; exact HP.out
                    have HCR' : Hid (CpuR rp (st' ++ [0])) := cpuR_put HC'.out HC'.out.2.1.1 HC'.out.2.1.2 (by have := HC'.out.1; omega) isW_zero
                    have H8 : Hid (n' ≠ 8) := h8
                    clear e8 h8 HP hn3
                    go_wp2_with fail
                    refine (answerS' (some ⟨g', 0, none⟩) rp st' n' c' 0 true n3 (st' ++ [0]) hst.out (by omega) (fun h => by cases h) ⟨(fun _ => ⟨HC'.out, H8.out⟩), (fun _ => rfl)⟩ HN3.out rfl _ HO6.out.rd).mono ?_
                    rintro e w6 ⟨g3, c3, rfl, hown3, hb6⟩
                    have h3l := hown3.lt
                    have h3g := hown3.ge
                    have hKl5 := row_lt HC6.out
                    have hR5l := HR6.out.lt
                    have HR7 : Hid (R3 w (((w6.alloc (.cells #[.int .i64 rp, .slice (some ⟨g3, 0, none⟩) n3 c3] 55)).setCell ⟨KN, 0, none⟩ (.int .i64 rp)).setCell ⟨KN, 1, none⟩ (.slice (some ⟨g3, 0, none⟩) n3 c3)) (.slice (some ⟨ga2, 0, none⟩) m ca2) f s (p : Int) (.slice qs n cp)) := (((HR6.out.on hb6).on ((Below.refl _ _).alloc (Nat.le_refl _) _)).put 0 _ hKl).put 1 _ hKl
                    have HC7 : Hid ((((w6.alloc (.cells #[.int .i64 rp, .slice (some ⟨g3, 0, none⟩) n3 c3] 55)).setCell ⟨KN, 0, none⟩ (.int .i64 rp)).setCell ⟨KN, 1, none⟩ (.slice (some ⟨g3, 0, none⟩) n3 c3)).heap[KN]? = some (.cells #[.int .i64 rp, .slice (some ⟨g3, 0, none⟩) n3 c3] 55)) := two_sets (row_al (row_on HC6.out hb6))
                    have HO7 : Hid (OwnN (((w6.alloc (.cells #[.int .i64 rp, .slice (some ⟨g3, 0, none⟩) n3 c3] 55)).setCell ⟨KN, 0, none⟩ (.int .i64 rp)).setCell ⟨KN, 1, none⟩ (.slice (some ⟨g3, 0, none⟩) n3 c3)) (w.heap.size + 3) g3 n3 c3 (st' ++ [0])) := (((hown3.mono (by omega)).alloc _).set (by omega)).set (by omega)
                    have HOA7 : Hid (OwnN (((w6.alloc (.cells #[.int .i64 rp, .slice (some ⟨g3, 0, none⟩) n3 c3] 55)).setCell ⟨KN, 0, none⟩ (.int .i64 rp)).setCell ⟨KN, 1, none⟩ (.slice (some ⟨g3, 0, none⟩) n3 c3)) (w.heap.size + 3) ga2 m ca2 rc) := (((HOA6.out.on hb6).alloc _).set (by omega)).set (by omega)
                    have HGK7 : Hid (g3 ≠ KN) := by show g3 ≠ KN; omega
                    have kM := row2_cells (heap_new w6 (.cells #[.int .i64 rp, .slice (some ⟨g3, 0, none⟩) n3 c3] 55))
                    have kN7 := row2_cells (row_al (o := .cells #[.int .i64 rp, .slice (some ⟨g3, 0, none⟩) n3 c3] 55) (row_on HC6.out hb6))
                    clear hown3 hb6 HR6 HC6 HO6 HOA6 kN kC h3l h3g hKl5 hR5l hst HC'
                    go_wp2
                    go_roundg gi
                    case measure => omega
                    case rel => exact ⟨j + 1, st' ++ [0], g3, n3, c3, by omega, by go_num, HP', HCR', HR7, HC7, HO7, HOA7, HGK7⟩
                | zero =>
                  obtain rfl : j = Kn := by omega
                  have hp := HP.out
                  rw [putA_zero] at hp
                  injection hp with hp1 hp2
                  have HX' : Hid (runR c rl f s M k rp st' rc (cost + co) = (X, T)) := by
                    have ha : aloTr ⟨rp, rs, rc, rk, ro, rn, 0⟩ = 0 := by rw [HAL.out.1, ← hp2]; rfl
                    have h := HX.out
                    rw [run_go HRR.out HOP.out HCO.out (by have := HPN.out; omega) (by omega) ha HOZ.out, HAL.out.2, ← hp1] at h
                    exact h
                  have HR9 : Hid (R3 w ((w5.setCell ⟨w.heap.size + 1 + 1, 0, none⟩ (.int .i64 rp)).setCell ⟨w.heap.size + 1 + 1, 1, none⟩ (.slice (some ⟨g', 0, none⟩) n' c')) (.slice (some ⟨ga2, 0, none⟩) m ca2) f s rp (.slice (some ⟨g', 0, none⟩) n' c')) := HR6.out.toC _ _
                  have HO9 : Hid (OwnN ((w5.setCell ⟨w.heap.size + 1 + 1, 0, none⟩ (.int .i64 rp)).setCell ⟨w.heap.size + 1 + 1, 1, none⟩ (.slice (some ⟨g', 0, none⟩) n' c')) (w.heap.size + 3) g' n' c' st') := (HO6.out.set (by have := HO6.out.ge; omega)).set (by have := HO6.out.ge; omega)
                  have HOA9 : Hid (OwnN ((w5.setCell ⟨w.heap.size + 1 + 1, 0, none⟩ (.int .i64 rp)).setCell ⟨w.heap.size + 1 + 1, 1, none⟩ (.slice (some ⟨g', 0, none⟩) n' c')) (w.heap.size + 3) ga2 m ca2 rc) := (HOA6.out.set (by omega)).set (by omega)
                  have HRS9 : Hid (Rd ((w5.setCell ⟨w.heap.size + 1 + 1, 0, none⟩ (.int .i64 rp)).setCell ⟨w.heap.size + 1 + 1, 1, none⟩ (.slice (some ⟨g', 0, none⟩) n' c')) (some ⟨g', 0, none⟩) st') := HO9.out.rd
                  have HRA9 : Hid (Rd ((w5.setCell ⟨w.heap.size + 1 + 1, 0, none⟩ (.int .i64 rp)).setCell ⟨w.heap.size + 1 + 1, 1, none⟩ (.slice (some ⟨g', 0, none⟩) n' c')) (some ⟨ga2, 0, none⟩) rc) := HOA9.out.rd
                  clear hp1 hp2 HP HX HCR HR6 HC6 HO6 HOA6
                  go_wp2
                  go_roundg k
                  case measure => omega
                  case rel => exact ⟨cost + co, rp, st', some ⟨g', 0, none⟩, n', c', rc, ⟨ga2, 0, none⟩, ca2, rfl, by omega, ⟨by omega, by omega⟩, HX', HR9, HRS9, HO9.out.len, (fun h => by cases h), HO9.out.room, HRA9, HLA6, HC'⟩
          · have hbt : (rt == 0) = false := by simpa using htr
            have HR5 : Hid (R3 w (((w4.alloc (.cells #[.int .i64 rp, .slice (some ⟨g2, 0, none⟩) N c2] 55)).alloc (.cells #[.slice (some ⟨ga2, 0, none⟩) m ca2] 34)).alloc (.cells #[.int .i64 rk, .int .i64 ro, .int .i64 rn, .int .i64 rt] 58)) (.slice (some ad') m ca') f s (p : Int) (.slice qs n cp)) := HR4.out.on (al3_b w4 _ _ _)
            have kE5 := row4_cells (al3_3 w4 (.cells #[.int .i64 rp, .slice (some ⟨g2, 0, none⟩) N c2] 55) (.cells #[.slice (some ⟨ga2, 0, none⟩) m ca2] 34) (.cells #[.int .i64 rk, .int .i64 ro, .int .i64 rn, .int .i64 rt] 58))
            have HE : Hid (cost + co = X ∧ rt = T) := by
              have h := HX.out
              have ht := HRT.out htr
              have hk : rk = 0 := congrArg Res.k ht
              have h0 : ansN rk = 0 := by rw [hk]; rfl
              rw [run_stop HRR.out HOP.out HCO.out (by have := HPN.out; omega) (by omega) (.inl (by rw [alo_none h0]; exact htr)), alo_none h0] at h
              injection h with h1 h2; exact ⟨h1, h2⟩
            clear htr
            go_wp2
            go_region
            go_wp2
            refine bodyPost_ret (v := .tuple #[.int .i64 (cost + co), .int .i64 rt]) (by simp [results, Try.results9, go_sem]) rfl ⟨by rw [HE.out.1, HE.out.2], HR5.out.bel.drew⟩

  · subst hmm
    go_wp2
    go_loopg [11] Mn (fun gk cv wr => ∃ (cost pc : Int) (st : List Int) (qs : Option Addr) (n cp : Nat) (ce : List Int) (ad' : Addr) (ca' : Nat), cv = .int .i64 cost ∧ 5000 ≤ cost + (gk : Int) ∧ (0 ≤ cost ∧ cost ≤ 5000) ∧ Hid (runR c rl f s 5000 gk pc st ce cost = (X, T)) ∧ Hid (R3 w wr (.slice (some ad') m ca') f s pc (.slice qs n cp)) ∧ Hid (Rd wr qs st) ∧ Hid (st.length = n) ∧ Hid (qs = none → n = 0 ∧ cp = 0) ∧ Hid (n ≤ cp) ∧ Hid (Rd wr (some ad') ce) ∧ Hid (ce.length = m) ∧ Hid (CpuR pc st))
    case atStart => exact ⟨0, 0, [], none, 0, 0, ce0, ad, ca, rfl, by omega, ⟨by decide, by decide⟩, HX, HR0, HRn.out _, rfl, (fun _ => ⟨rfl, rfl⟩), Nat.le_refl _, HRA0, HLA0, hnil⟩
    case round =>
      clear HX HR0 HRA0 HLA0 hnil HRn
      obtain ⟨cost, pc, st, qs, n, cp, ce, ad', ca', rfl, hgM, hco, HX, HR, HRS, HLS, HQN, HNC, HRA, HLA, HCR⟩ := hrel
      have hp0 := HCR.out.2.1.1
      obtain ⟨p, rfl⟩ := Int.eq_ofNat_of_zero_le hp0
      have kC := row2_cells HR.out.2.2.1
      have kA := row1_cells HR.out.1
      have kR := row2_cells HR.out.2.1
      by_cases hpc : (nc : Int) ≤ (p : Int)
      · have HE : Hid (cost = X ∧ 0 = T) := by have h := HX.out; rw [run_end (by rw [HLC.out]; exact hpc)] at h; injection h with h1 h2; exact ⟨h1, h2⟩
        go_wp2
        refine bodyPost_ret (v := .tuple #[.int .i64 cost, .int .i64 0]) (by simp [results, Try.results9, go_sem]) rfl ⟨by rw [HE.out.1, HE.out.2], HR.out.bel⟩
      · have hpl : p < rl.length := by have := HLC.out; omega
        obtain ⟨g, off, rfl, hcc⟩ := HRC.out (by omega)
        have hgl : g < w.heap.size := World.block_lt_of_cell? w ⟨g, off + 0 * 2, none⟩ (hcc 0 (by omega)).1
        have c1 := (HR.out.bel.cell (p := ⟨g, off + p * 2, none⟩) hgl).trans (hcc p hpl).1
        clear hcc
        obtain ⟨op, hop⟩ : ∃ op, rl[p].1 = op := ⟨_, rfl⟩
        rw [hop] at c1
        have HOP : Hid ((opAt' rl (p : Int)).1 = op) := by show _ = _; rw [opAt_in hpl]; exact hop
        obtain ⟨co, hcoq⟩ : ∃ co, costN op = co := ⟨_, rfl⟩
        have HCO : Hid (costN op = co) := hcoq
        have hcb := costN_bd op
        rw [hcoq] at hcb
        clear hop hcoq
        go_wp2_with fail
        refine (costS2 op co HCO.out _).mono ?_
        rintro e w2 ⟨rfl, rfl⟩
        by_cases hd : 5000 < cost + co
        · have HE : Hid (cost = X ∧ 0 = T) := by have h := HX.out; rw [run_dear (co := co) (by rw [HOP.out]; exact HCO.out) hd] at h; injection h with h1 h2; exact ⟨h1, h2⟩
          go_wp2
          refine bodyPost_ret (v := .tuple #[.int .i64 cost, .int .i64 0]) (by simp [results, Try.results9, go_sem]) rfl ⟨by rw [HE.out.1, HE.out.2], HR.out.bel⟩
        · obtain ⟨k, rfl⟩ : ∃ k, gk = k + 1 := ⟨gk - 1, by omega⟩
          obtain ⟨rp, rs, rc, rk, ro, rn, rt, hR⟩ : ∃ rp rs rc rk ro rn rt, stepR c (p : Int) st rl ce f s 0 = ⟨rp, rs, rc, rk, ro, rn, rt⟩ := ⟨_, _, _, _, _, _, _, rfl⟩
          have HRR : Hid (stepR c (p : Int) st rl ce f s 0 = ⟨rp, rs, rc, rk, ro, rn, rt⟩) := hR
          have HPN : Hid (¬ (rl.length : Int) ≤ (p : Int)) := by show ¬ _; rw [HLC.out]; omega
          have HBB : Hid (c = true ↔ (CpuR (p : Int) st ∧ I.CodeR rl ∧ (p : Int) < (nc : Int))) := ⟨fun h => ⟨HCR.out, HC.out.1 h, by omega⟩, fun h => HC.out.2 h.2.1⟩
          have HRI : Hid (rt = 0 → CpuR rp rs) := fun h => stepR_right HLC.out HBB.out hR h
          have HRT : Hid (rt ≠ 0 → (⟨rp, rs, rc, rk, ro, rn, rt⟩ : Res) = trapR (p : Int) st ce rt) := fun h => stepR_trap hR h
          have HGO : Hid (rt = 0 → ansN rk = ansN op) := fun h => by rw [← HOP.out]; exact (stepR_go hR h).2
          obtain ⟨N, hN⟩ : ∃ N, rs.length = N := ⟨_, rfl⟩
          have HN : Hid (rs.length = N) := hN
          clear hR hN
          have hn8 : n ≤ 1048576 := by have := HLS.out; have := HCR.out.1; omega
          go_wp2_with fail
          refine (costS2 op co HCO.out _).mono ?_
          rintro e w3 ⟨rfl, rfl⟩
          go_wp2_with fail
          refine (stepSx qs (p : Int) st n cp (some ⟨g, off, none⟩) rl nc cc ad' ce m ca' f s 0 c rp rs rc rk ro rn rt N HLS.out hn8 HQN.out HNC.out HLC.out hnc HLA.out hm HBB.out HRR.out HN.out _ HRS.out (HRC.out.keep HR.out.bel (Nat.le_refl _)) HRA.out).mono ?_
          rintro e w4 ⟨g2, c2, ga2, ca2, rfl, hown2, hownA, hne, hb4⟩
          have h3 := HR.out.lt
          have l2 := hown2.ge
          have lA := hownA.ge
          have m2 := hown2.lt
          have mA := hownA.lt
          have hb4s := hb4.size
          have HR4 : Hid (R3 w w4 (.slice (some ad') m ca') f s (p : Int) (.slice qs n cp)) := HR.out.on hb4
          have HO4 : Hid (OwnN w4 (w.heap.size + 3) g2 N c2 rs) := hown2.mono (by omega)
          have HOA4 : Hid (OwnN w4 (w.heap.size + 3) ga2 m ca2 rc) := hownA.mono (by omega)
          have HNE : Hid (g2 ≠ ga2) := hne
          clear hown2 hownA hne hb4 HR HRS HRA HLS HLA HQN HNC kC kA kR c1 HBB l2 lA
          by_cases htr : rt = 0
          · subst htr
            have HR5 : Hid (R3 w (((w4.alloc (.cells #[.int .i64 rp, .slice (some ⟨g2, 0, none⟩) N c2] 55)).alloc (.cells #[.slice (some ⟨ga2, 0, none⟩) m ca2] 34)).alloc (.cells #[.int .i64 rk, .int .i64 ro, .int .i64 rn, .int .i64 0] 58)) (.slice (some ad') m ca') f s (p : Int) (.slice qs n cp)) := HR4.out.on (al3_b w4 _ _ _)
            have kC5 := row2_cells (al3_1 w4 (.cells #[.int .i64 rp, .slice (some ⟨g2, 0, none⟩) N c2] 55) (.cells #[.slice (some ⟨ga2, 0, none⟩) m ca2] 34) (.cells #[.int .i64 rk, .int .i64 ro, .int .i64 rn, .int .i64 0] 58))
            have kA5 := row1_cells (al3_2 w4 (.cells #[.int .i64 rp, .slice (some ⟨g2, 0, none⟩) N c2] 55) (.cells #[.slice (some ⟨ga2, 0, none⟩) m ca2] 34) (.cells #[.int .i64 rk, .int .i64 ro, .int .i64 rn, .int .i64 0] 58))
            have kE5 := row4_cells (al3_3 w4 (.cells #[.int .i64 rp, .slice (some ⟨g2, 0, none⟩) N c2] 55) (.cells #[.slice (some ⟨ga2, 0, none⟩) m ca2] 34) (.cells #[.int .i64 rk, .int .i64 ro, .int .i64 rn, .int .i64 0] 58))
            have kA6 := row1_cells HR5.out.1
            have HKO : Hid (ansN rk = ansN op) := HGO.out rfl
            rcases op_zero op with rfl | ⟨hop0, hop0'⟩
            · have HE : Hid (cost + co = X ∧ 0 = T) := by
                have h := HX.out
                rw [run_stop HRR.out HOP.out HCO.out (by have := HPN.out; omega) (by omega) (.inr rfl), alo_none (HKO.out.trans rfl)] at h
                injection h with h1 h2; exact ⟨h1, h2⟩
              go_wp2
              refine bodyPost_ret (v := .tuple #[.int .i64 (cost + co), .int .i64 0]) (by simp [results, Try.results9, go_sem]) rfl ⟨by rw [HE.out.1, HE.out.2], HR5.out.bel⟩
            · have HOZ : Hid (op ≠ 0) := hop0'
              clear hop0'
              obtain ⟨Kn, hKn⟩ : ∃ Kn, ansN op = Kn := ⟨_, rfl⟩
              have HK : Hid (ansN op = Kn) := hKn
              have hK2 : Kn ≤ 2 := by rw [← hKn]; exact ansN_le _
              obtain ⟨KN, hKN⟩ : ∃ KN, w4.heap.size = KN := ⟨_, rfl⟩
              have hKl : w.heap.size + 3 ≤ KN := by rw [← hKN]; exact HR4.out.lt
              obtain ⟨l, ok, hpl⟩ : ∃ l ok, putA Kn rs = (l, ok) := ⟨_, _, rfl⟩
              have HPL : Hid (putA Kn rs = (l, ok)) := hpl
              have HAL : Hid (aloTr ⟨rp, rs, rc, rk, ro, rn, 0⟩ = (if ok then 0 else 4) ∧ aloSt ⟨rp, rs, rc, rk, ro, rn, 0⟩ = l) := alo_put (HKO.out.trans hKn) hpl
              have HCR0 : Hid (CpuR rp rs) := HRI.out rfl
              have HR6 : Hid (R3 w ((((w4.alloc (.cells #[.int .i64 rp, .slice (some ⟨g2, 0, none⟩) N c2] 55)).alloc (.cells #[.slice (some ⟨ga2, 0, none⟩) m ca2] 34)).alloc (.cells #[.int .i64 rk, .int .i64 ro, .int .i64 rn, .int .i64 0] 58)).setCell ⟨w.heap.size, 0, none⟩ (.slice (some ⟨ga2, 0, none⟩) m ca2)) (.slice (some ⟨ga2, 0, none⟩) m ca2) f s (p : Int) (.slice qs n cp)) := HR5.out.toA _
              have HC6 : Hid (((((w4.alloc (.cells #[.int .i64 rp, .slice (some ⟨g2, 0, none⟩) N c2] 55)).alloc (.cells #[.slice (some ⟨ga2, 0, none⟩) m ca2] 34)).alloc (.cells #[.int .i64 rk, .int .i64 ro, .int .i64 rn, .int .i64 0] 58)).setCell ⟨w.heap.size, 0, none⟩ (.slice (some ⟨ga2, 0, none⟩) m ca2)).heap[KN]? = some (.cells #[.int .i64 rp, .slice (some ⟨g2, 0, none⟩) N c2] 55)) := by show _ = _; rw [← hKN]; exact set_other (al3_1 w4 _ _ _) (by omega)
              have HO6 : Hid (OwnN ((((w4.alloc (.cells #[.int .i64 rp, .slice (some ⟨g2, 0, none⟩) N c2] 55)).alloc (.cells #[.slice (some ⟨ga2, 0, none⟩) m ca2] 34)).alloc (.cells #[.int .i64 rk, .int .i64 ro, .int .i64 rn, .int .i64 0] 58)).setCell ⟨w.heap.size, 0, none⟩ (.slice (some ⟨ga2, 0, none⟩) m ca2)) (w.heap.size + 3) g2 N c2 rs) := (HO4.out.on (al3_b w4 _ _ _)).set (by have := HO4.out.ge; omega)
              have HOA6 : Hid (OwnN ((((w4.alloc (.cells #[.int .i64 rp, .slice (some ⟨g2, 0, none⟩) N c2] 55)).alloc (.cells #[.slice (some ⟨ga2, 0, none⟩) m ca2] 34)).alloc (.cells #[.int .i64 rk, .int .i64 ro, .int .i64 rn, .int .i64 0] 58)).setCell ⟨w.heap.size, 0, none⟩ (.slice (some ⟨ga2, 0, none⟩) m ca2)) (w.heap.size + 3) ga2 m ca2 rc) := (HOA4.out.on (al3_b w4 _ _ _)).set (by have := HOA4.out.ge; omega)
              have HLA6 : Hid (rc.length = m) := HOA4.out.len
              have HNK : Hid (g2 ≠ KN ∧ ga2 ≠ KN) := ⟨by omega, by omega⟩
              have hgA : w.heap.size + 3 ≤ ga2 := HOA4.out.ge
              have hgK : ga2 < KN := by omega
              clear hKn hpl HR4 HR5 HO4 HOA4 hb4s m2 mA
              go_wp2
              go_loopg [16] Kn (fun gi kv wi => ∃ (j : Nat) (st' : List Int) (g' n' c' : Nat), j + gi = Kn ∧ kv = .int .i64 j ∧ Hid (putA gi st' = (l, ok)) ∧ Hid (CpuR rp st') ∧ Hid (R3 w wi (.slice (some ⟨ga2, 0, none⟩) m ca2) f s (p : Int) (.slice qs n cp)) ∧ Hid (wi.heap[KN]? = some (.cells #[.int .i64 rp, .slice (some ⟨g', 0, none⟩) n' c'] 55)) ∧ Hid (OwnN wi (w.heap.size + 3) g' n' c' st') ∧ Hid (OwnN wi (w.heap.size + 3) ga2 m ca2 rc) ∧ Hid (g' ≠ KN))
              case atStart => exact ⟨0, rs, g2, N, c2, by omega, rfl, HPL, HCR0, HR6, HC6, HO6, HOA6, HNK.out.1⟩
              case round =>
                clear HPL HCR0 HR6 HC6 HO6 HOA6 HNK
                obtain ⟨j, st', g', n', c', hj, rfl, HP, HC', HR6, HC6, HO6, HOA6, HGK⟩ := hrel
                have kN := row2_cells HC6.out
                have kC := row2_cells HR6.out.2.2.1
                go_wp2_with fail
                refine (answersS' op Kn HK.out _).mono ?_
                rintro e w5 ⟨rfl, rfl⟩
                cases gk with
                | succ gi =>
                  have hjK : (j : Int) < (Kn : Int) := by omega
                  have hst : Hid (st'.length = n') := HO6.out.len
                  have hn8 : n' ≤ 8 := by rw [← HO6.out.len]; exact HC'.out.1
                  by_cases h8 : n' = 8
                  · subst h8
                    have e8 : st'.length = 8 := HO6.out.len
                    have hp := HP.out
                    rw [putA_full e8] at hp
                    injection hp with hp1 hp2
                    have HE : Hid (cost + co = X ∧ 4 = T) := by
                      have ha : aloTr ⟨rp, rs, rc, rk, ro, rn, 0⟩ = 4 := by rw [HAL.out.1, ← hp2]; rfl
                      have h := HX.out
                      rw [run_stop HRR.out HOP.out HCO.out (by have := HPN.out; omega) (by omega) (.inl (by rw [ha]; decide)), ha] at h
                      injection h with h1 h2; exact ⟨h1, h2⟩
                    clear hp1 hp2 e8
                    go_wp2_with fail
                    refine (answerS' (some ⟨g', 0, none⟩) rp st' 8 c' 0 false 8 st' hst.out (by omega) (fun h => by cases h) ⟨(fun h => by cases h), (fun h => (h.2 rfl).elim)⟩ rfl rfl _ HO6.out.rd).mono ?_
                    rintro e w6 ⟨g3, c3, rfl, hown3, hb6⟩
                    have HBF : Hid (Below w.heap.size w (w6.alloc (.cells #[.int .i64 rp, .slice (some ⟨g3, 0, none⟩) 8 c3] 55))) := ((HR6.out.on hb6).on ((Below.refl _ _).alloc (Nat.le_refl _) _)).bel
                    clear hown3 hb6 HR6 HC6 HO6 HOA6 kN kC
                    go_wp2
                    refine bodyPost_ret (v := .tuple #[.int .i64 (cost + co), .int .i64 4]) (by simp [results, Try.results9, go_sem]) rfl ⟨by rw [HE.out.1, HE.out.2], HBF.out⟩
                  · obtain ⟨n3, hn3⟩ : ∃ n3, n' + 1 = n3 := ⟨_, rfl⟩
                    have HN3 : Hid (n' + 1 = n3) := hn3
                    have e8 : st'.length ≠ 8 := by rw [HO6.out.len]; exact h8
                    have HP' : Hid (putA gi (st' ++ [0]) = (l, ok)) := by show _ = _; rw [← putA_more e8]; exact HP.out
                    have HCR' : Hid (CpuR rp (st' ++ [0])) := cpuR_put HC'.out HC'.out.2.1.1 HC'.out.2.1.2 (by have := HC'.out.1; omega) isW_zero
                    have H8 : Hid (n' ≠ 8) := h8
                    clear e8 h8 HP hn3
                    go_wp2_with fail
                    refine (answerS' (some ⟨g', 0, none⟩) rp st' n' c' 0 true n3 (st' ++ [0]) hst.out (by omega) (fun h => by cases h) ⟨(fun _ => ⟨HC'.out, H8.out⟩), (fun _ => rfl)⟩ HN3.out rfl _ HO6.out.rd).mono ?_
                    rintro e w6 ⟨g3, c3, rfl, hown3, hb6⟩
                    have h3l := hown3.lt
                    have h3g := hown3.ge
                    have hKl5 := row_lt HC6.out
                    have hR5l := HR6.out.lt
                    have HR7 : Hid (R3 w (((w6.alloc (.cells #[.int .i64 rp, .slice (some ⟨g3, 0, none⟩) n3 c3] 55)).setCell ⟨KN, 0, none⟩ (.int .i64 rp)).setCell ⟨KN, 1, none⟩ (.slice (some ⟨g3, 0, none⟩) n3 c3)) (.slice (some ⟨ga2, 0, none⟩) m ca2) f s (p : Int) (.slice qs n cp)) := (((HR6.out.on hb6).on ((Below.refl _ _).alloc (Nat.le_refl _) _)).put 0 _ hKl).put 1 _ hKl
                    have HC7 : Hid ((((w6.alloc (.cells #[.int .i64 rp, .slice (some ⟨g3, 0, none⟩) n3 c3] 55)).setCell ⟨KN, 0, none⟩ (.int .i64 rp)).setCell ⟨KN, 1, none⟩ (.slice (some ⟨g3, 0, none⟩) n3 c3)).heap[KN]? = some (.cells #[.int .i64 rp, .slice (some ⟨g3, 0, none⟩) n3 c3] 55)) := two_sets (row_al (row_on HC6.out hb6))
                    have HO7 : Hid (OwnN (((w6.alloc (.cells #[.int .i64 rp, .slice (some ⟨g3, 0, none⟩) n3 c3] 55)).setCell ⟨KN, 0, none⟩ (.int .i64 rp)).setCell ⟨KN, 1, none⟩ (.slice (some ⟨g3, 0, none⟩) n3 c3)) (w.heap.size + 3) g3 n3 c3 (st' ++ [0])) := (((hown3.mono (by omega)).alloc _).set (by omega)).set (by omega)
                    have HOA7 : Hid (OwnN (((w6.alloc (.cells #[.int .i64 rp, .slice (some ⟨g3, 0, none⟩) n3 c3] 55)).setCell ⟨KN, 0, none⟩ (.int .i64 rp)).setCell ⟨KN, 1, none⟩ (.slice (some ⟨g3, 0, none⟩) n3 c3)) (w.heap.size + 3) ga2 m ca2 rc) := (((HOA6.out.on hb6).alloc _).set (by omega)).set (by omega)
                    have HGK7 : Hid (g3 ≠ KN) := by show g3 ≠ KN; omega
                    have kM := row2_cells (heap_new w6 (.cells #[.int .i64 rp, .slice (some ⟨g3, 0, none⟩) n3 c3] 55))
                    have kN7 := row2_cells (row_al (o := .cells #[.int .i64 rp, .slice (some ⟨g3, 0, none⟩) n3 c3] 55) (row_on HC6.out hb6))
                    clear hown3 hb6 HR6 HC6 HO6 HOA6 kN kC h3l h3g hKl5 hR5l hst HC'
                    go_wp2
                    go_roundg gi
                    case measure => omega
                    case rel => exact ⟨j + 1, st' ++ [0], g3, n3, c3, by omega, by go_num, HP', HCR', HR7, HC7, HO7, HOA7, HGK7⟩
                | zero =>
                  obtain rfl : j = Kn := by omega
                  have hp := HP.out
                  rw [putA_zero] at hp
                  injection hp with hp1 hp2
                  have HX' : Hid (runR c rl f s 5000 k rp st' rc (cost + co) = (X, T)) := by
                    have ha : aloTr ⟨rp, rs, rc, rk, ro, rn, 0⟩ = 0 := by rw [HAL.out.1, ← hp2]; rfl
                    have h := HX.out
                    rw [run_go HRR.out HOP.out HCO.out (by have := HPN.out; omega) (by omega) ha HOZ.out, HAL.out.2, ← hp1] at h
                    exact h
                  have HR9 : Hid (R3 w ((w5.setCell ⟨w.heap.size + 1 + 1, 0, none⟩ (.int .i64 rp)).setCell ⟨w.heap.size + 1 + 1, 1, none⟩ (.slice (some ⟨g', 0, none⟩) n' c')) (.slice (some ⟨ga2, 0, none⟩) m ca2) f s rp (.slice (some ⟨g', 0, none⟩) n' c')) := HR6.out.toC _ _
                  have HO9 : Hid (OwnN ((w5.setCell ⟨w.heap.size + 1 + 1, 0, none⟩ (.int .i64 rp)).setCell ⟨w.heap.size + 1 + 1, 1, none⟩ (.slice (some ⟨g', 0, none⟩) n' c')) (w.heap.size + 3) g' n' c' st') := (HO6.out.set (by have := HO6.out.ge; omega)).set (by have := HO6.out.ge; omega)
                  have HOA9 : Hid (OwnN ((w5.setCell ⟨w.heap.size + 1 + 1, 0, none⟩ (.int .i64 rp)).setCell ⟨w.heap.size + 1 + 1, 1, none⟩ (.slice (some ⟨g', 0, none⟩) n' c')) (w.heap.size + 3) ga2 m ca2 rc) := (HOA6.out.set (by omega)).set (by omega)
                  have HRS9 : Hid (Rd ((w5.setCell ⟨w.heap.size + 1 + 1, 0, none⟩ (.int .i64 rp)).setCell ⟨w.heap.size + 1 + 1, 1, none⟩ (.slice (some ⟨g', 0, none⟩) n' c')) (some ⟨g', 0, none⟩) st') := HO9.out.rd
                  have HRA9 : Hid (Rd ((w5.setCell ⟨w.heap.size + 1 + 1, 0, none⟩ (.int .i64 rp)).setCell ⟨w.heap.size + 1 + 1, 1, none⟩ (.slice (some ⟨g', 0, none⟩) n' c')) (some ⟨ga2, 0, none⟩) rc) := HOA9.out.rd
                  clear hp1 hp2 HP HX HCR HR6 HC6 HO6 HOA6
                  go_wp2
                  go_roundg k
                  case measure => omega
                  case rel => exact ⟨cost + co, rp, st', some ⟨g', 0, none⟩, n', c', rc, ⟨ga2, 0, none⟩, ca2, rfl, by omega, ⟨by omega, by omega⟩, HX', HR9, HRS9, HO9.out.len, (fun h => by cases h), HO9.out.room, HRA9, HLA6, HC'⟩
          · have hbt : (rt == 0) = false := by simpa using htr
            have HR5 : Hid (R3 w (((w4.alloc (.cells #[.int .i64 rp, .slice (some ⟨g2, 0, none⟩) N c2] 55)).alloc (.cells #[.slice (some ⟨ga2, 0, none⟩) m ca2] 34)).alloc (.cells #[.int .i64 rk, .int .i64 ro, .int .i64 rn, .int .i64 rt] 58)) (.slice (some ad') m ca') f s (p : Int) (.slice qs n cp)) := HR4.out.on (al3_b w4 _ _ _)
            have kE5 := row4_cells (al3_3 w4 (.cells #[.int .i64 rp, .slice (some ⟨g2, 0, none⟩) N c2] 55) (.cells #[.slice (some ⟨ga2, 0, none⟩) m ca2] 34) (.cells #[.int .i64 rk, .int .i64 ro, .int .i64 rn, .int .i64 rt] 58))
            have HE : Hid (cost + co = X ∧ rt = T) := by
              have h := HX.out
              have ht := HRT.out htr
              have hk : rk = 0 := congrArg Res.k ht
              have h0 : ansN rk = 0 := by rw [hk]; rfl
              rw [run_stop HRR.out HOP.out HCO.out (by have := HPN.out; omega) (by omega) (.inl (by rw [alo_none h0]; exact htr)), alo_none h0] at h
              injection h with h1 h2; exact ⟨h1, h2⟩
            clear htr
            go_wp2
            go_region
            go_wp2
            refine bodyPost_ret (v := .tuple #[.int .i64 (cost + co), .int .i64 rt]) (by simp [results, Try.results9, go_sem]) rfl ⟨by rw [HE.out.1, HE.out.2], HR5.out.bel.drew⟩

end Go.Proofs.Ythnocibkgpofnaa
