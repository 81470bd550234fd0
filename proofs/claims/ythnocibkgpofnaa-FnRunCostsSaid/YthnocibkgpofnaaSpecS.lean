/-
  The specification's step, whatever it is handed.
-/
import Derived.Test.YthnocibkgpofnaaSpecA
import Derived.Test.YthnocibkgpofnaaSpecB
import Derived.Test.YthnocibkgpofnaaSpecP1
import Derived.Test.YthnocibkgpofnaaSpecP2
import Derived.Test.YthnocibkgpofnaaSpecP3
import Derived.Test.YthnocibkgpofnaaSpecP4
import Derived.Test.YthnocibkgpofnaaSpecP5
import Derived.Test.YthnocibkgpofnaaSpecP6
namespace Go.Proofs.Ythnocibkgpofnaa
open Go.RowKit Go.PlainAid
set_option linter.unusedVariables false
theorem wrap_to {x y : Int} (h0 : -9223372036854775808 ≤ x) (h1 : x ≤ 9223372036854775807) (h : x = y) : IntKind.i64.wrap x = y := by subst h; exact wrap_in h0 h1
theorem getD_at {l : List Int} {i : Nat} (h : i < l.length) : l[i]? = some (l.getD i 0) := by simp [h]
theorem ldB_pos {m : Nat} {f s p : Int} (h : ldB m f s p = true) : 0 < m := by
  have h1 := of_decide_eq_true h
  obtain ⟨f0, f1, h2, h3⟩ := cutN_in (n := m) (f := f) (s := s) (by omega)
  omega
/-- instruction 0 -/
theorem stepS0 (qs : Option Addr) (st : List Int) (n cp : Nat) (qc : Option Addr) (rl : List (Int × Int)) (nc cc : Nat) (ad : Addr) (ce : List Int) (m ca : Nat) (f s t : Int) (hl : st.length = n) (hn : n ≤ 1048576) (hqs : qs = none → n = 0 ∧ cp = 0) (hlc : rl.length = nc) (hnc : nc ≤ 1048576) (hla : ce.length = m) (hm : m ≤ 1048576) (j : Nat) (arg : Int) (hc : CpuR (j : Int) st) (hk : I.CodeR rl) (hjl : j < nc) (hx : rl[j]? = some (((0 : Nat) : Int), arg)) (ha : 0 ≤ arg ∧ arg ≤ 255) (hncp : n ≤ cp) (h8 : n ≤ 8) (hT : 0 ≤ n) (w : World) (hr : Rd w qs st) (hrc : I.RdR w qc rl) (hra : Rd w (some ad) ce) (R : Res) (N : Nat) (hR : doV (j : Int) st (st.take (n - 0)) (st.getD (n - 1) 0) (st.getD (n - 2) 0) ce f s t 0 arg = R) (hN : R.st.length = N) :
    Calls Try.prog 28 #[.agg #[.int .i64 (j : Int), .slice qs n cp], .slice qc nc cc, .agg #[.slice (some ad) m ca], .agg #[.int .i64 f, .int .i64 s], .int .i64 t] w (StepPost w m R N) := by
  have htk : (st.take (n - 0)).length = n - 0 := by rw [List.length_take]; omega
  have h60j : ¬ (60 < (j : Int) + 1) := by have := hk.1; omega
  have hRR : R = okR ((j : Int) + 1) (st.take (n - 0)) ce := by rw [← hR]; rfl
  subst hRR
  obtain rfl : (n - 0) = N := by rw [← hN]; simp [okR]; omega
  exact specHead qs (j : Int) st n cp qc rl nc cc ad ce m ca f s t hl hn hqs hlc hnc hla hm j _ arg hc hk rfl hjl hx 0 0 (n - 0) 0 rfl (by decide) rfl rfl (by omega) hncp w hr hrc hra _ (swNop w (j : Int) qs st n cp ad ce m ca f s t arg 0 (n - 0) 0 (((n - 0) : Nat) + 0 : Int) (by omega) (wrap_to (by omega) (by omega) (by omega)) (wrap_to (by omega) (by omega) (by omega)) (by omega) h60j)
/-- instruction 1 -/
theorem stepS1 (qs : Option Addr) (st : List Int) (n cp : Nat) (qc : Option Addr) (rl : List (Int × Int)) (nc cc : Nat) (ad : Addr) (ce : List Int) (m ca : Nat) (f s t : Int) (hl : st.length = n) (hn : n ≤ 1048576) (hqs : qs = none → n = 0 ∧ cp = 0) (hlc : rl.length = nc) (hnc : nc ≤ 1048576) (hla : ce.length = m) (hm : m ≤ 1048576) (j : Nat) (arg : Int) (hc : CpuR (j : Int) st) (hk : I.CodeR rl) (hjl : j < nc) (hx : rl[j]? = some (((1 : Nat) : Int), arg)) (ha : 0 ≤ arg ∧ arg ≤ 255) (hncp : n ≤ cp) (h8 : n ≤ 8) (hT : 0 ≤ n) (w : World) (hr : Rd w qs st) (hrc : I.RdR w qc rl) (hra : Rd w (some ad) ce) (R : Res) (N : Nat) (hR : doV (j : Int) st (st.take (n - 0)) (st.getD (n - 1) 0) (st.getD (n - 2) 0) ce f s t 1 arg = R) (hN : R.st.length = N) :
    Calls Try.prog 28 #[.agg #[.int .i64 (j : Int), .slice qs n cp], .slice qc nc cc, .agg #[.slice (some ad) m ca], .agg #[.int .i64 f, .int .i64 s], .int .i64 t] w (StepPost w m R N) := by
  have htk : (st.take (n - 0)).length = n - 0 := by rw [List.length_take]; omega
  have h60j : ¬ (60 < (j : Int) + 1) := by have := hk.1; omega
  by_cases h9 : st.length = 8
  · have hRR : R = trapR (j : Int) st ce 4 := by rw [← hR]; exact if_pos h9
    subst hRR
    obtain rfl : n = N := by rw [← hN]; simp [trapR, hl]
    exact specHead qs (j : Int) st n cp qc rl nc cc ad ce m ca f s t hl hn hqs hlc hnc hla hm j _ arg hc hk rfl hjl hx 1 0 (n - 0) 1 rfl (by decide) rfl rfl (by omega) hncp w hr hrc hra _ (swPushOver w (j : Int) qs st n cp ad ce m ca f s t arg 0 (n - 0) 1 (((n - 0) : Nat) + 1 : Int) (by omega) (wrap_to (by omega) (by omega) (by omega)) (wrap_to (by omega) (by omega) (by omega)) (by omega) hla hm hra)
  · have hRR : R = okR ((j : Int) + 1) ((st.take (n - 0)) ++ [arg]) ce := by rw [← hR]; refine (if_neg h9).trans ?_; rw [Int.emod_eq_of_lt ha.1 (by omega)]
    subst hRR
    obtain rfl : ((n - 0) + 1) = N := by rw [← hN]; simp [okR]; omega
    exact specHead qs (j : Int) st n cp qc rl nc cc ad ce m ca f s t hl hn hqs hlc hnc hla hm j _ arg hc hk rfl hjl hx 1 0 (n - 0) 1 rfl (by decide) rfl rfl (by omega) hncp w hr hrc hra _ (swPush w (j : Int) qs st n cp ad ce m ca f s t arg 0 (n - 0) 1 (((n - 0) : Nat) + 1 : Int) (by omega) (wrap_to (by omega) (by omega) (by omega)) (wrap_to (by omega) (by omega) (by omega)) (by omega) h60j)
/-- instruction 2 -/
theorem stepS2 (qs : Option Addr) (st : List Int) (n cp : Nat) (qc : Option Addr) (rl : List (Int × Int)) (nc cc : Nat) (ad : Addr) (ce : List Int) (m ca : Nat) (f s t : Int) (hl : st.length = n) (hn : n ≤ 1048576) (hqs : qs = none → n = 0 ∧ cp = 0) (hlc : rl.length = nc) (hnc : nc ≤ 1048576) (hla : ce.length = m) (hm : m ≤ 1048576) (j : Nat) (arg : Int) (hc : CpuR (j : Int) st) (hk : I.CodeR rl) (hjl : j < nc) (hx : rl[j]? = some (((2 : Nat) : Int), arg)) (ha : 0 ≤ arg ∧ arg ≤ 255) (hncp : n ≤ cp) (h8 : n ≤ 8) (hT : 1 ≤ n) (w : World) (hr : Rd w qs st) (hrc : I.RdR w qc rl) (hra : Rd w (some ad) ce) (R : Res) (N : Nat) (hR : doV (j : Int) st (st.take (n - 1)) (st.getD (n - 1) 0) (st.getD (n - 2) 0) ce f s t 2 arg = R) (hN : R.st.length = N) :
    Calls Try.prog 28 #[.agg #[.int .i64 (j : Int), .slice qs n cp], .slice qc nc cc, .agg #[.slice (some ad) m ca], .agg #[.int .i64 f, .int .i64 s], .int .i64 t] w (StepPost w m R N) := by
  have htk : (st.take (n - 1)).length = n - 1 := by rw [List.length_take]; omega
  have h60j : ¬ (60 < (j : Int) + 1) := by have := hk.1; omega
  obtain ⟨gq, oq, rfl, hcq⟩ := hr (by omega)
  have hkx := rd_top hcq (getD_at (i := n - 1) (by omega))
  have hw := cpuR_top hc (j := n - 1) (by omega)
  unfold isW at hw
  have hX : IntKind.i64.wrap (st.getD (n - 1) 0 + arg) = st.getD (n - 1) 0 + arg := wrap_to (by omega) (by omega) (by omega)
  have hlm : ∀ p, ldB ce.length f s p = ldB m f s p := fun p => by rw [hla]
  by_cases h9 : ldB m f s (st.getD (n - 1) 0 + arg) = true
  · have hRR : R = okR ((j : Int) + 1) ((st.take (n - 1)) ++ [ldX ce f s (st.getD (n - 1) 0 + arg) % 65536]) ce := by rw [← hR]; exact if_pos ((hlm _).trans h9)
    subst hRR
    obtain rfl : ((n - 1) + 1) = N := by rw [← hN]; simp [okR]; omega
    exact specHead (some ⟨gq, oq, none⟩) (j : Int) st n cp qc rl nc cc ad ce m ca f s t hl hn hqs hlc hnc hla hm j _ arg hc hk rfl hjl hx 2 1 (n - 1) 1 rfl (by decide) rfl rfl (by omega) hncp w hr hrc hra _ (swLoad w (j : Int) gq oq st n cp ad ce m ca f s t arg 1 (n - 1) 1 (((n - 1) : Nat) + 1 : Int) (by omega) (wrap_to (by omega) (by omega) (by omega)) (wrap_to (by omega) (by omega) (by omega)) (st.getD (n - 1) 0) hkx (by omega) (by omega) (wrap_to (by omega) (by omega) (by omega)) (st.getD (n - 1) 0 + arg) _ hX rfl h9 hla hm hra (by omega) h60j)
  · have hRR : R = trapR (j : Int) st ce 2 := by rw [← hR]; exact if_neg (fun h => h9 ((hlm _).symm.trans h))
    subst hRR
    obtain rfl : n = N := by rw [← hN]; simp [trapR, hl]
    exact specHead (some ⟨gq, oq, none⟩) (j : Int) st n cp qc rl nc cc ad ce m ca f s t hl hn hqs hlc hnc hla hm j _ arg hc hk rfl hjl hx 2 1 (n - 1) 1 rfl (by decide) rfl rfl (by omega) hncp w hr hrc hra _ (swLoadNo w (j : Int) gq oq st n cp ad ce m ca f s t arg 1 (n - 1) 1 (((n - 1) : Nat) + 1 : Int) (by omega) (wrap_to (by omega) (by omega) (by omega)) (wrap_to (by omega) (by omega) (by omega)) (st.getD (n - 1) 0) hkx (by omega) (by omega) (wrap_to (by omega) (by omega) (by omega)) (st.getD (n - 1) 0 + arg) _ hX rfl (by simpa using h9) hla hm hra)
/-- instruction 3 -/
theorem stepS3 (qs : Option Addr) (st : List Int) (n cp : Nat) (qc : Option Addr) (rl : List (Int × Int)) (nc cc : Nat) (ad : Addr) (ce : List Int) (m ca : Nat) (f s t : Int) (hl : st.length = n) (hn : n ≤ 1048576) (hqs : qs = none → n = 0 ∧ cp = 0) (hlc : rl.length = nc) (hnc : nc ≤ 1048576) (hla : ce.length = m) (hm : m ≤ 1048576) (j : Nat) (arg : Int) (hc : CpuR (j : Int) st) (hk : I.CodeR rl) (hjl : j < nc) (hx : rl[j]? = some (((3 : Nat) : Int), arg)) (ha : 0 ≤ arg ∧ arg ≤ 255) (hncp : n ≤ cp) (h8 : n ≤ 8) (hT : 2 ≤ n) (w : World) (hr : Rd w qs st) (hrc : I.RdR w qc rl) (hra : Rd w (some ad) ce) (R : Res) (N : Nat) (hR : doV (j : Int) st (st.take (n - 2)) (st.getD (n - 1) 0) (st.getD (n - 2) 0) ce f s t 3 arg = R) (hN : R.st.length = N) :
    Calls Try.prog 28 #[.agg #[.int .i64 (j : Int), .slice qs n cp], .slice qc nc cc, .agg #[.slice (some ad) m ca], .agg #[.int .i64 f, .int .i64 s], .int .i64 t] w (StepPost w m R N) := by
  have htk : (st.take (n - 2)).length = n - 2 := by rw [List.length_take]; omega
  have h60j : ¬ (60 < (j : Int) + 1) := by have := hk.1; omega
  obtain ⟨gq, oq, rfl, hcq⟩ := hr (by omega)
  have hkx := rd_top hcq (getD_at (i := n - 1) (by omega))
  have hky := rd_top hcq (getD_at (i := n - 2) (by omega))
  have hw := cpuR_top hc (j := n - 2) (by omega)
  unfold isW at hw
  have hX : IntKind.i64.wrap (st.getD (n - 2) 0 + arg) = st.getD (n - 2) 0 + arg := wrap_to (by omega) (by omega) (by omega)
  have hlm : ∀ p, ldB ce.length f s p = ldB m f s p := fun p => by rw [hla]
  by_cases h9 : ldB m f s (st.getD (n - 2) 0 + arg) = true
  · have hm0 : 0 < m := ldB_pos h9
    have hRR : R = okR ((j : Int) + 1) (st.take (n - 2)) (stL ce f s (st.getD (n - 2) 0 + arg) (st.getD (n - 1) 0)) := by rw [← hR]; exact if_pos ((hlm _).trans h9)
    subst hRR
    obtain rfl : (n - 2) = N := by rw [← hN]; simp [okR]; omega
    exact specHead (some ⟨gq, oq, none⟩) (j : Int) st n cp qc rl nc cc ad ce m ca f s t hl hn hqs hlc hnc hla hm j _ arg hc hk rfl hjl hx 3 2 (n - 2) 0 rfl (by decide) rfl rfl (by omega) hncp w hr hrc hra _ (swStore w (j : Int) gq oq st n cp ad ce m ca f s t arg 2 (n - 2) 0 (((n - 2) : Nat) + 0 : Int) (by omega) (wrap_to (by omega) (by omega) (by omega)) (wrap_to (by omega) (by omega) (by omega)) (st.getD (n - 1) 0) (st.getD (n - 2) 0) (n - 1) hky hkx (by omega) (by omega) (by omega) (by omega) (wrap_to (by omega) (by omega) (by omega)) (wrap_to (by omega) (by omega) (by omega)) (st.getD (n - 2) 0 + arg) _ hX rfl h9 hla hm hra (by omega) h60j hm0)
  · have hRR : R = trapR (j : Int) st ce 2 := by rw [← hR]; exact if_neg (fun h => h9 ((hlm _).symm.trans h))
    subst hRR
    obtain rfl : n = N := by rw [← hN]; simp [trapR, hl]
    exact specHead (some ⟨gq, oq, none⟩) (j : Int) st n cp qc rl nc cc ad ce m ca f s t hl hn hqs hlc hnc hla hm j _ arg hc hk rfl hjl hx 3 2 (n - 2) 0 rfl (by decide) rfl rfl (by omega) hncp w hr hrc hra _ (swStoreNo w (j : Int) gq oq st n cp ad ce m ca f s t arg 2 (n - 2) 0 (((n - 2) : Nat) + 0 : Int) (by omega) (wrap_to (by omega) (by omega) (by omega)) (wrap_to (by omega) (by omega) (by omega)) (st.getD (n - 1) 0) (st.getD (n - 2) 0) (n - 1) hky hkx (by omega) (by omega) (by omega) (by omega) (wrap_to (by omega) (by omega) (by omega)) (wrap_to (by omega) (by omega) (by omega)) (st.getD (n - 2) 0 + arg) _ hX rfl (by simpa using h9) hla hm hra)
/-- instruction 4 -/
theorem stepS4 (qs : Option Addr) (st : List Int) (n cp : Nat) (qc : Option Addr) (rl : List (Int × Int)) (nc cc : Nat) (ad : Addr) (ce : List Int) (m ca : Nat) (f s t : Int) (hl : st.length = n) (hn : n ≤ 1048576) (hqs : qs = none → n = 0 ∧ cp = 0) (hlc : rl.length = nc) (hnc : nc ≤ 1048576) (hla : ce.length = m) (hm : m ≤ 1048576) (j : Nat) (arg : Int) (hc : CpuR (j : Int) st) (hk : I.CodeR rl) (hjl : j < nc) (hx : rl[j]? = some (((4 : Nat) : Int), arg)) (ha : 0 ≤ arg ∧ arg ≤ 255) (hncp : n ≤ cp) (h8 : n ≤ 8) (hT : 2 ≤ n) (w : World) (hr : Rd w qs st) (hrc : I.RdR w qc rl) (hra : Rd w (some ad) ce) (R : Res) (N : Nat) (hR : doV (j : Int) st (st.take (n - 2)) (st.getD (n - 1) 0) (st.getD (n - 2) 0) ce f s t 4 arg = R) (hN : R.st.length = N) :
    Calls Try.prog 28 #[.agg #[.int .i64 (j : Int), .slice qs n cp], .slice qc nc cc, .agg #[.slice (some ad) m ca], .agg #[.int .i64 f, .int .i64 s], .int .i64 t] w (StepPost w m R N) := by
  have htk : (st.take (n - 2)).length = n - 2 := by rw [List.length_take]; omega
  have h60j : ¬ (60 < (j : Int) + 1) := by have := hk.1; omega
  obtain ⟨gq, oq, rfl, hcq⟩ := hr (by omega)
  have hkx := rd_top hcq (getD_at (i := n - 1) (by omega))
  have hky := rd_top hcq (getD_at (i := n - 2) (by omega))
  have hwx := cpuR_top hc (j := n - 1) (by omega)
  have hwy := cpuR_top hc (j := n - 2) (by omega)
  have hRR : R = okR ((j : Int) + 1) ((st.take (n - 2)) ++ [sumV 4 (st.getD (n - 2) 0) (st.getD (n - 1) 0)]) ce := by rw [← hR]; rfl
  subst hRR
  obtain rfl : ((n - 2) + 1) = N := by rw [← hN]; simp [okR]; omega
  exact specHead (some ⟨gq, oq, none⟩) (j : Int) st n cp qc rl nc cc ad ce m ca f s t hl hn hqs hlc hnc hla hm j _ arg hc hk rfl hjl hx 4 2 (n - 2) 1 rfl (by decide) rfl rfl (by omega) hncp w hr hrc hra _ (swSum4 w (j : Int) gq oq st n cp ad ce m ca f s t arg 2 (n - 2) 1 (((n - 2) : Nat) + 1 : Int) (by omega) (wrap_to (by omega) (by omega) (by omega)) (wrap_to (by omega) (by omega) (by omega)) (st.getD (n - 1) 0) (st.getD (n - 2) 0) (n - 1) hky hkx (by omega) (by omega) (by omega) (by omega) (wrap_to (by omega) (by omega) (by omega)) (wrap_to (by omega) (by omega) (by omega)) _ hwx hwy rfl rfl (by omega) h60j)
/-- instruction 5 -/
theorem stepS5 (qs : Option Addr) (st : List Int) (n cp : Nat) (qc : Option Addr) (rl : List (Int × Int)) (nc cc : Nat) (ad : Addr) (ce : List Int) (m ca : Nat) (f s t : Int) (hl : st.length = n) (hn : n ≤ 1048576) (hqs : qs = none → n = 0 ∧ cp = 0) (hlc : rl.length = nc) (hnc : nc ≤ 1048576) (hla : ce.length = m) (hm : m ≤ 1048576) (j : Nat) (arg : Int) (hc : CpuR (j : Int) st) (hk : I.CodeR rl) (hjl : j < nc) (hx : rl[j]? = some (((5 : Nat) : Int), arg)) (ha : 0 ≤ arg ∧ arg ≤ 255) (hncp : n ≤ cp) (h8 : n ≤ 8) (hT : 2 ≤ n) (w : World) (hr : Rd w qs st) (hrc : I.RdR w qc rl) (hra : Rd w (some ad) ce) (R : Res) (N : Nat) (hR : doV (j : Int) st (st.take (n - 2)) (st.getD (n - 1) 0) (st.getD (n - 2) 0) ce f s t 5 arg = R) (hN : R.st.length = N) :
    Calls Try.prog 28 #[.agg #[.int .i64 (j : Int), .slice qs n cp], .slice qc nc cc, .agg #[.slice (some ad) m ca], .agg #[.int .i64 f, .int .i64 s], .int .i64 t] w (StepPost w m R N) := by
  have htk : (st.take (n - 2)).length = n - 2 := by rw [List.length_take]; omega
  have h60j : ¬ (60 < (j : Int) + 1) := by have := hk.1; omega
  obtain ⟨gq, oq, rfl, hcq⟩ := hr (by omega)
  have hkx := rd_top hcq (getD_at (i := n - 1) (by omega))
  have hky := rd_top hcq (getD_at (i := n - 2) (by omega))
  have hwx := cpuR_top hc (j := n - 1) (by omega)
  have hwy := cpuR_top hc (j := n - 2) (by omega)
  have hRR : R = okR ((j : Int) + 1) ((st.take (n - 2)) ++ [sumV 5 (st.getD (n - 2) 0) (st.getD (n - 1) 0)]) ce := by rw [← hR]; rfl
  subst hRR
  obtain rfl : ((n - 2) + 1) = N := by rw [← hN]; simp [okR]; omega
  exact specHead (some ⟨gq, oq, none⟩) (j : Int) st n cp qc rl nc cc ad ce m ca f s t hl hn hqs hlc hnc hla hm j _ arg hc hk rfl hjl hx 5 2 (n - 2) 1 rfl (by decide) rfl rfl (by omega) hncp w hr hrc hra _ (swSum5 w (j : Int) gq oq st n cp ad ce m ca f s t arg 2 (n - 2) 1 (((n - 2) : Nat) + 1 : Int) (by omega) (wrap_to (by omega) (by omega) (by omega)) (wrap_to (by omega) (by omega) (by omega)) (st.getD (n - 1) 0) (st.getD (n - 2) 0) (n - 1) hky hkx (by omega) (by omega) (by omega) (by omega) (wrap_to (by omega) (by omega) (by omega)) (wrap_to (by omega) (by omega) (by omega)) _ hwx hwy rfl rfl (by omega) h60j)
/-- instruction 6 -/
theorem stepS6 (qs : Option Addr) (st : List Int) (n cp : Nat) (qc : Option Addr) (rl : List (Int × Int)) (nc cc : Nat) (ad : Addr) (ce : List Int) (m ca : Nat) (f s t : Int) (hl : st.length = n) (hn : n ≤ 1048576) (hqs : qs = none → n = 0 ∧ cp = 0) (hlc : rl.length = nc) (hnc : nc ≤ 1048576) (hla : ce.length = m) (hm : m ≤ 1048576) (j : Nat) (arg : Int) (hc : CpuR (j : Int) st) (hk : I.CodeR rl) (hjl : j < nc) (hx : rl[j]? = some (((6 : Nat) : Int), arg)) (ha : 0 ≤ arg ∧ arg ≤ 255) (hncp : n ≤ cp) (h8 : n ≤ 8) (hT : 2 ≤ n) (w : World) (hr : Rd w qs st) (hrc : I.RdR w qc rl) (hra : Rd w (some ad) ce) (R : Res) (N : Nat) (hR : doV (j : Int) st (st.take (n - 2)) (st.getD (n - 1) 0) (st.getD (n - 2) 0) ce f s t 6 arg = R) (hN : R.st.length = N) :
    Calls Try.prog 28 #[.agg #[.int .i64 (j : Int), .slice qs n cp], .slice qc nc cc, .agg #[.slice (some ad) m ca], .agg #[.int .i64 f, .int .i64 s], .int .i64 t] w (StepPost w m R N) := by
  have htk : (st.take (n - 2)).length = n - 2 := by rw [List.length_take]; omega
  have h60j : ¬ (60 < (j : Int) + 1) := by have := hk.1; omega
  obtain ⟨gq, oq, rfl, hcq⟩ := hr (by omega)
  have hkx := rd_top hcq (getD_at (i := n - 1) (by omega))
  have hky := rd_top hcq (getD_at (i := n - 2) (by omega))
  have hwx := cpuR_top hc (j := n - 1) (by omega)
  have hwy := cpuR_top hc (j := n - 2) (by omega)
  have hRR : R = okR ((j : Int) + 1) ((st.take (n - 2)) ++ [sumV 6 (st.getD (n - 2) 0) (st.getD (n - 1) 0)]) ce := by rw [← hR]; rfl
  subst hRR
  obtain rfl : ((n - 2) + 1) = N := by rw [← hN]; simp [okR]; omega
  exact specHead (some ⟨gq, oq, none⟩) (j : Int) st n cp qc rl nc cc ad ce m ca f s t hl hn hqs hlc hnc hla hm j _ arg hc hk rfl hjl hx 6 2 (n - 2) 1 rfl (by decide) rfl rfl (by omega) hncp w hr hrc hra _ (swSum6 w (j : Int) gq oq st n cp ad ce m ca f s t arg 2 (n - 2) 1 (((n - 2) : Nat) + 1 : Int) (by omega) (wrap_to (by omega) (by omega) (by omega)) (wrap_to (by omega) (by omega) (by omega)) (st.getD (n - 1) 0) (st.getD (n - 2) 0) (n - 1) hky hkx (by omega) (by omega) (by omega) (by omega) (wrap_to (by omega) (by omega) (by omega)) (wrap_to (by omega) (by omega) (by omega)) _ hwx hwy rfl rfl (by omega) h60j)
/-- instruction 7 -/
theorem stepS7 (qs : Option Addr) (st : List Int) (n cp : Nat) (qc : Option Addr) (rl : List (Int × Int)) (nc cc : Nat) (ad : Addr) (ce : List Int) (m ca : Nat) (f s t : Int) (hl : st.length = n) (hn : n ≤ 1048576) (hqs : qs = none → n = 0 ∧ cp = 0) (hlc : rl.length = nc) (hnc : nc ≤ 1048576) (hla : ce.length = m) (hm : m ≤ 1048576) (j : Nat) (arg : Int) (hc : CpuR (j : Int) st) (hk : I.CodeR rl) (hjl : j < nc) (hx : rl[j]? = some (((7 : Nat) : Int), arg)) (ha : 0 ≤ arg ∧ arg ≤ 255) (hncp : n ≤ cp) (h8 : n ≤ 8) (hT : 2 ≤ n) (w : World) (hr : Rd w qs st) (hrc : I.RdR w qc rl) (hra : Rd w (some ad) ce) (R : Res) (N : Nat) (hR : doV (j : Int) st (st.take (n - 2)) (st.getD (n - 1) 0) (st.getD (n - 2) 0) ce f s t 7 arg = R) (hN : R.st.length = N) :
    Calls Try.prog 28 #[.agg #[.int .i64 (j : Int), .slice qs n cp], .slice qc nc cc, .agg #[.slice (some ad) m ca], .agg #[.int .i64 f, .int .i64 s], .int .i64 t] w (StepPost w m R N) := by
  have htk : (st.take (n - 2)).length = n - 2 := by rw [List.length_take]; omega
  have h60j : ¬ (60 < (j : Int) + 1) := by have := hk.1; omega
  obtain ⟨gq, oq, rfl, hcq⟩ := hr (by omega)
  have hkx := rd_top hcq (getD_at (i := n - 1) (by omega))
  have hky := rd_top hcq (getD_at (i := n - 2) (by omega))
  have hwx := cpuR_top hc (j := n - 1) (by omega)
  have hwy := cpuR_top hc (j := n - 2) (by omega)
  by_cases h9 : st.getD (n - 1) 0 = 0
  · have hRR : R = trapR (j : Int) st ce 3 := by rw [← hR]; exact if_pos h9
    subst hRR
    obtain rfl : n = N := by rw [← hN]; simp [trapR, hl]
    exact specHead (some ⟨gq, oq, none⟩) (j : Int) st n cp qc rl nc cc ad ce m ca f s t hl hn hqs hlc hnc hla hm j _ arg hc hk rfl hjl hx 7 2 (n - 2) 1 rfl (by decide) rfl rfl (by omega) hncp w hr hrc hra _ (swSum7No w (j : Int) gq oq st n cp ad ce m ca f s t arg 2 (n - 2) 1 (((n - 2) : Nat) + 1 : Int) (by omega) (wrap_to (by omega) (by omega) (by omega)) (wrap_to (by omega) (by omega) (by omega)) (st.getD (n - 1) 0) (st.getD (n - 2) 0) (n - 1) hky hkx (by omega) (by omega) (by omega) (by omega) (wrap_to (by omega) (by omega) (by omega)) (wrap_to (by omega) (by omega) (by omega)) _ hwx hwy rfl (by unfold sumB; rw [h9]; rfl) hla hm hra)
  · have hd := isW_div (x := st.getD (n - 1) 0) (y := st.getD (n - 2) 0) hwx hwy h9
    have hS : sumV 7 (st.getD (n - 2) 0) (st.getD (n - 1) 0) = (st.getD (n - 2) 0).tdiv (st.getD (n - 1) 0) := if_neg h9
    have hRR : R = okR ((j : Int) + 1) ((st.take (n - 2)) ++ [sumV 7 (st.getD (n - 2) 0) (st.getD (n - 1) 0)]) ce := by rw [← hR]; rw [hS]; refine (if_neg h9).trans ?_; rw [Int.emod_eq_of_lt hd.1 (by have := hd.2; omega)]
    subst hRR
    obtain rfl : ((n - 2) + 1) = N := by rw [← hN]; simp [okR]; omega
    exact specHead (some ⟨gq, oq, none⟩) (j : Int) st n cp qc rl nc cc ad ce m ca f s t hl hn hqs hlc hnc hla hm j _ arg hc hk rfl hjl hx 7 2 (n - 2) 1 rfl (by decide) rfl rfl (by omega) hncp w hr hrc hra _ (swSum7 w (j : Int) gq oq st n cp ad ce m ca f s t arg 2 (n - 2) 1 (((n - 2) : Nat) + 1 : Int) (by omega) (wrap_to (by omega) (by omega) (by omega)) (wrap_to (by omega) (by omega) (by omega)) (st.getD (n - 1) 0) (st.getD (n - 2) 0) (n - 1) hky hkx (by omega) (by omega) (by omega) (by omega) (wrap_to (by omega) (by omega) (by omega)) (wrap_to (by omega) (by omega) (by omega)) _ hwx hwy rfl (by unfold sumB; rw [decide_eq_false h9]; rfl) (by omega) h60j)
/-- instruction 8 -/
theorem stepS8 (qs : Option Addr) (st : List Int) (n cp : Nat) (qc : Option Addr) (rl : List (Int × Int)) (nc cc : Nat) (ad : Addr) (ce : List Int) (m ca : Nat) (f s t : Int) (hl : st.length = n) (hn : n ≤ 1048576) (hqs : qs = none → n = 0 ∧ cp = 0) (hlc : rl.length = nc) (hnc : nc ≤ 1048576) (hla : ce.length = m) (hm : m ≤ 1048576) (j : Nat) (arg : Int) (hc : CpuR (j : Int) st) (hk : I.CodeR rl) (hjl : j < nc) (hx : rl[j]? = some (((8 : Nat) : Int), arg)) (ha : 0 ≤ arg ∧ arg ≤ 255) (hncp : n ≤ cp) (h8 : n ≤ 8) (hT : 2 ≤ n) (w : World) (hr : Rd w qs st) (hrc : I.RdR w qc rl) (hra : Rd w (some ad) ce) (R : Res) (N : Nat) (hR : doV (j : Int) st (st.take (n - 2)) (st.getD (n - 1) 0) (st.getD (n - 2) 0) ce f s t 8 arg = R) (hN : R.st.length = N) :
    Calls Try.prog 28 #[.agg #[.int .i64 (j : Int), .slice qs n cp], .slice qc nc cc, .agg #[.slice (some ad) m ca], .agg #[.int .i64 f, .int .i64 s], .int .i64 t] w (StepPost w m R N) := by
  have htk : (st.take (n - 2)).length = n - 2 := by rw [List.length_take]; omega
  have h60j : ¬ (60 < (j : Int) + 1) := by have := hk.1; omega
  obtain ⟨gq, oq, rfl, hcq⟩ := hr (by omega)
  have hkx := rd_top hcq (getD_at (i := n - 1) (by omega))
  have hky := rd_top hcq (getD_at (i := n - 2) (by omega))
  have hwx := cpuR_top hc (j := n - 1) (by omega)
  have hwy := cpuR_top hc (j := n - 2) (by omega)
  have hRR : R = okR ((j : Int) + 1) ((st.take (n - 2)) ++ [sumV 8 (st.getD (n - 2) 0) (st.getD (n - 1) 0)]) ce := by rw [← hR]; show okR _ (_ ++ [(if _ < _ then 1 else 0) % 65536]) ce = okR _ (_ ++ [if _ < _ then 1 else 0]) ce; split <;> rfl
  subst hRR
  obtain rfl : ((n - 2) + 1) = N := by rw [← hN]; simp [okR]; omega
  exact specHead (some ⟨gq, oq, none⟩) (j : Int) st n cp qc rl nc cc ad ce m ca f s t hl hn hqs hlc hnc hla hm j _ arg hc hk rfl hjl hx 8 2 (n - 2) 1 rfl (by decide) rfl rfl (by omega) hncp w hr hrc hra _ (swSum8 w (j : Int) gq oq st n cp ad ce m ca f s t arg 2 (n - 2) 1 (((n - 2) : Nat) + 1 : Int) (by omega) (wrap_to (by omega) (by omega) (by omega)) (wrap_to (by omega) (by omega) (by omega)) (st.getD (n - 1) 0) (st.getD (n - 2) 0) (n - 1) hky hkx (by omega) (by omega) (by omega) (by omega) (wrap_to (by omega) (by omega) (by omega)) (wrap_to (by omega) (by omega) (by omega)) _ hwx hwy rfl rfl (by omega) h60j)
/-- instruction 9 -/
theorem stepS9 (qs : Option Addr) (st : List Int) (n cp : Nat) (qc : Option Addr) (rl : List (Int × Int)) (nc cc : Nat) (ad : Addr) (ce : List Int) (m ca : Nat) (f s t : Int) (hl : st.length = n) (hn : n ≤ 1048576) (hqs : qs = none → n = 0 ∧ cp = 0) (hlc : rl.length = nc) (hnc : nc ≤ 1048576) (hla : ce.length = m) (hm : m ≤ 1048576) (j : Nat) (arg : Int) (hc : CpuR (j : Int) st) (hk : I.CodeR rl) (hjl : j < nc) (hx : rl[j]? = some (((9 : Nat) : Int), arg)) (ha : 0 ≤ arg ∧ arg ≤ 255) (hncp : n ≤ cp) (h8 : n ≤ 8) (hT : 0 ≤ n) (w : World) (hr : Rd w qs st) (hrc : I.RdR w qc rl) (hra : Rd w (some ad) ce) (R : Res) (N : Nat) (hR : doV (j : Int) st (st.take (n - 0)) (st.getD (n - 1) 0) (st.getD (n - 2) 0) ce f s t 9 arg = R) (hN : R.st.length = N) :
    Calls Try.prog 28 #[.agg #[.int .i64 (j : Int), .slice qs n cp], .slice qc nc cc, .agg #[.slice (some ad) m ca], .agg #[.int .i64 f, .int .i64 s], .int .i64 t] w (StepPost w m R N) := by
  have htk : (st.take (n - 0)).length = n - 0 := by rw [List.length_take]; omega
  have h60j : ¬ (60 < (j : Int) + 1) := by have := hk.1; omega
  by_cases h9 : 60 < arg
  · have hRR : R = okR 60 (st.take (n - 0)) ce := by rw [← hR]; show okR (min arg 60) _ _ = _; rw [show min arg 60 = 60 by omega]
    subst hRR
    obtain rfl : (n - 0) = N := by rw [← hN]; simp [okR]; omega
    exact specHead qs (j : Int) st n cp qc rl nc cc ad ce m ca f s t hl hn hqs hlc hnc hla hm j _ arg hc hk rfl hjl hx 9 0 (n - 0) 0 rfl (by decide) rfl rfl (by omega) hncp w hr hrc hra _ (swJumpBig w (j : Int) qs st n cp ad ce m ca f s t arg 0 (n - 0) 0 (((n - 0) : Nat) + 0 : Int) (by omega) (wrap_to (by omega) (by omega) (by omega)) (wrap_to (by omega) (by omega) (by omega)) (by omega) h9)
  · have hRR : R = okR arg (st.take (n - 0)) ce := by rw [← hR]; show okR (min arg 60) _ _ = _; rw [show min arg 60 = arg by omega]
    subst hRR
    obtain rfl : (n - 0) = N := by rw [← hN]; simp [okR]; omega
    exact specHead qs (j : Int) st n cp qc rl nc cc ad ce m ca f s t hl hn hqs hlc hnc hla hm j _ arg hc hk rfl hjl hx 9 0 (n - 0) 0 rfl (by decide) rfl rfl (by omega) hncp w hr hrc hra _ (swJump w (j : Int) qs st n cp ad ce m ca f s t arg 0 (n - 0) 0 (((n - 0) : Nat) + 0 : Int) (by omega) (wrap_to (by omega) (by omega) (by omega)) (wrap_to (by omega) (by omega) (by omega)) (by omega) h9)
/-- instruction 10 -/
theorem stepS10 (qs : Option Addr) (st : List Int) (n cp : Nat) (qc : Option Addr) (rl : List (Int × Int)) (nc cc : Nat) (ad : Addr) (ce : List Int) (m ca : Nat) (f s t : Int) (hl : st.length = n) (hn : n ≤ 1048576) (hqs : qs = none → n = 0 ∧ cp = 0) (hlc : rl.length = nc) (hnc : nc ≤ 1048576) (hla : ce.length = m) (hm : m ≤ 1048576) (j : Nat) (arg : Int) (hc : CpuR (j : Int) st) (hk : I.CodeR rl) (hjl : j < nc) (hx : rl[j]? = some (((10 : Nat) : Int), arg)) (ha : 0 ≤ arg ∧ arg ≤ 255) (hncp : n ≤ cp) (h8 : n ≤ 8) (hT : 1 ≤ n) (w : World) (hr : Rd w qs st) (hrc : I.RdR w qc rl) (hra : Rd w (some ad) ce) (R : Res) (N : Nat) (hR : doV (j : Int) st (st.take (n - 1)) (st.getD (n - 1) 0) (st.getD (n - 2) 0) ce f s t 10 arg = R) (hN : R.st.length = N) :
    Calls Try.prog 28 #[.agg #[.int .i64 (j : Int), .slice qs n cp], .slice qc nc cc, .agg #[.slice (some ad) m ca], .agg #[.int .i64 f, .int .i64 s], .int .i64 t] w (StepPost w m R N) := by
  have htk : (st.take (n - 1)).length = n - 1 := by rw [List.length_take]; omega
  have h60j : ¬ (60 < (j : Int) + 1) := by have := hk.1; omega
  obtain ⟨gq, oq, rfl, hcq⟩ := hr (by omega)
  have hkx := rd_top hcq (getD_at (i := n - 1) (by omega))
  by_cases h0 : st.getD (n - 1) 0 = 0
  · by_cases h9 : 60 < arg
    · have hRR : R = okR 60 (st.take (n - 1)) ce := by rw [← hR]; show okR (if _ then min arg 60 else _) _ _ = _; rw [if_pos h0, show min arg 60 = 60 by omega]
      subst hRR
      obtain rfl : (n - 1) = N := by rw [← hN]; simp [okR]; omega
      exact specHead (some ⟨gq, oq, none⟩) (j : Int) st n cp qc rl nc cc ad ce m ca f s t hl hn hqs hlc hnc hla hm j _ arg hc hk rfl hjl hx 10 1 (n - 1) 0 rfl (by decide) rfl rfl (by omega) hncp w hr hrc hra _ (swZeroBig w (j : Int) gq oq st n cp ad ce m ca f s t arg 1 (n - 1) 0 (((n - 1) : Nat) + 0 : Int) (by omega) (wrap_to (by omega) (by omega) (by omega)) (wrap_to (by omega) (by omega) (by omega)) (st.getD (n - 1) 0) hkx (by omega) (by omega) (wrap_to (by omega) (by omega) (by omega)) (by omega) h0 h9)
    · have hRR : R = okR arg (st.take (n - 1)) ce := by rw [← hR]; show okR (if _ then min arg 60 else _) _ _ = _; rw [if_pos h0, show min arg 60 = arg by omega]
      subst hRR
      obtain rfl : (n - 1) = N := by rw [← hN]; simp [okR]; omega
      exact specHead (some ⟨gq, oq, none⟩) (j : Int) st n cp qc rl nc cc ad ce m ca f s t hl hn hqs hlc hnc hla hm j _ arg hc hk rfl hjl hx 10 1 (n - 1) 0 rfl (by decide) rfl rfl (by omega) hncp w hr hrc hra _ (swZero w (j : Int) gq oq st n cp ad ce m ca f s t arg 1 (n - 1) 0 (((n - 1) : Nat) + 0 : Int) (by omega) (wrap_to (by omega) (by omega) (by omega)) (wrap_to (by omega) (by omega) (by omega)) (st.getD (n - 1) 0) hkx (by omega) (by omega) (wrap_to (by omega) (by omega) (by omega)) (by omega) h0 h9)
  · have hRR : R = okR ((j : Int) + 1) (st.take (n - 1)) ce := by rw [← hR]; show okR (if _ then min arg 60 else _) _ _ = _; rw [if_neg h0]
    subst hRR
    obtain rfl : (n - 1) = N := by rw [← hN]; simp [okR]; omega
    exact specHead (some ⟨gq, oq, none⟩) (j : Int) st n cp qc rl nc cc ad ce m ca f s t hl hn hqs hlc hnc hla hm j _ arg hc hk rfl hjl hx 10 1 (n - 1) 0 rfl (by decide) rfl rfl (by omega) hncp w hr hrc hra _ (swZeroNo w (j : Int) gq oq st n cp ad ce m ca f s t arg 1 (n - 1) 0 (((n - 1) : Nat) + 0 : Int) (by omega) (wrap_to (by omega) (by omega) (by omega)) (wrap_to (by omega) (by omega) (by omega)) (st.getD (n - 1) 0) hkx (by omega) (by omega) (wrap_to (by omega) (by omega) (by omega)) (by omega) h60j h0)
/-- instruction 11 -/
theorem stepS11 (qs : Option Addr) (st : List Int) (n cp : Nat) (qc : Option Addr) (rl : List (Int × Int)) (nc cc : Nat) (ad : Addr) (ce : List Int) (m ca : Nat) (f s t : Int) (hl : st.length = n) (hn : n ≤ 1048576) (hqs : qs = none → n = 0 ∧ cp = 0) (hlc : rl.length = nc) (hnc : nc ≤ 1048576) (hla : ce.length = m) (hm : m ≤ 1048576) (j : Nat) (arg : Int) (hc : CpuR (j : Int) st) (hk : I.CodeR rl) (hjl : j < nc) (hx : rl[j]? = some (((11 : Nat) : Int), arg)) (ha : 0 ≤ arg ∧ arg ≤ 255) (hncp : n ≤ cp) (h8 : n ≤ 8) (hT : 1 ≤ n) (w : World) (hr : Rd w qs st) (hrc : I.RdR w qc rl) (hra : Rd w (some ad) ce) (R : Res) (N : Nat) (hR : doV (j : Int) st (st.take (n - 1)) (st.getD (n - 1) 0) (st.getD (n - 2) 0) ce f s t 11 arg = R) (hN : R.st.length = N) :
    Calls Try.prog 28 #[.agg #[.int .i64 (j : Int), .slice qs n cp], .slice qc nc cc, .agg #[.slice (some ad) m ca], .agg #[.int .i64 f, .int .i64 s], .int .i64 t] w (StepPost w m R N) := by
  have htk : (st.take (n - 1)).length = n - 1 := by rw [List.length_take]; omega
  have h60j : ¬ (60 < (j : Int) + 1) := by have := hk.1; omega
  obtain ⟨gq, oq, rfl, hcq⟩ := hr (by omega)
  have hkx := rd_top hcq (getD_at (i := n - 1) (by omega))
  have hw := cpuR_top hc (j := n - 1) (by omega)
  unfold isW at hw
  by_cases h9 : st.length = 8
  · have hRR : R = trapR (j : Int) st ce 4 := by rw [← hR]; exact if_pos h9
    subst hRR
    obtain rfl : n = N := by rw [← hN]; simp [trapR, hl]
    exact specHead (some ⟨gq, oq, none⟩) (j : Int) st n cp qc rl nc cc ad ce m ca f s t hl hn hqs hlc hnc hla hm j _ arg hc hk rfl hjl hx 11 1 (n - 1) 2 rfl (by decide) rfl rfl (by omega) hncp w hr hrc hra _ (swDupOver w (j : Int) gq oq st n cp ad ce m ca f s t arg 1 (n - 1) 2 (((n - 1) : Nat) + 2 : Int) (by omega) (wrap_to (by omega) (by omega) (by omega)) (wrap_to (by omega) (by omega) (by omega)) (st.getD (n - 1) 0) hkx (by omega) (by omega) (wrap_to (by omega) (by omega) (by omega)) (by omega) hla hm hra)
  · have hRR : R = okR ((j : Int) + 1) ((st.take (n - 1)) ++ [st.getD (n - 1) 0, st.getD (n - 1) 0]) ce := by rw [← hR]; refine (if_neg h9).trans ?_; rw [Int.emod_eq_of_lt hw.1 (by omega), List.append_assoc]; rfl
    subst hRR
    obtain rfl : ((n - 1) + 2) = N := by rw [← hN]; simp [okR]; omega
    exact specHead (some ⟨gq, oq, none⟩) (j : Int) st n cp qc rl nc cc ad ce m ca f s t hl hn hqs hlc hnc hla hm j _ arg hc hk rfl hjl hx 11 1 (n - 1) 2 rfl (by decide) rfl rfl (by omega) hncp w hr hrc hra _ (swDup w (j : Int) gq oq st n cp ad ce m ca f s t arg 1 (n - 1) 2 (((n - 1) : Nat) + 2 : Int) (by omega) (wrap_to (by omega) (by omega) (by omega)) (wrap_to (by omega) (by omega) (by omega)) (st.getD (n - 1) 0) hkx (by omega) (by omega) (wrap_to (by omega) (by omega) (by omega)) (by omega) h60j)
/-- instruction 12 -/
theorem stepS12 (qs : Option Addr) (st : List Int) (n cp : Nat) (qc : Option Addr) (rl : List (Int × Int)) (nc cc : Nat) (ad : Addr) (ce : List Int) (m ca : Nat) (f s t : Int) (hl : st.length = n) (hn : n ≤ 1048576) (hqs : qs = none → n = 0 ∧ cp = 0) (hlc : rl.length = nc) (hnc : nc ≤ 1048576) (hla : ce.length = m) (hm : m ≤ 1048576) (j : Nat) (arg : Int) (hc : CpuR (j : Int) st) (hk : I.CodeR rl) (hjl : j < nc) (hx : rl[j]? = some (((12 : Nat) : Int), arg)) (ha : 0 ≤ arg ∧ arg ≤ 255) (hncp : n ≤ cp) (h8 : n ≤ 8) (hT : 1 ≤ n) (w : World) (hr : Rd w qs st) (hrc : I.RdR w qc rl) (hra : Rd w (some ad) ce) (R : Res) (N : Nat) (hR : doV (j : Int) st (st.take (n - 1)) (st.getD (n - 1) 0) (st.getD (n - 2) 0) ce f s t 12 arg = R) (hN : R.st.length = N) :
    Calls Try.prog 28 #[.agg #[.int .i64 (j : Int), .slice qs n cp], .slice qc nc cc, .agg #[.slice (some ad) m ca], .agg #[.int .i64 f, .int .i64 s], .int .i64 t] w (StepPost w m R N) := by
  have htk : (st.take (n - 1)).length = n - 1 := by rw [List.length_take]; omega
  have h60j : ¬ (60 < (j : Int) + 1) := by have := hk.1; omega
  have hRR : R = okR ((j : Int) + 1) (st.take (n - 1)) ce := by rw [← hR]; rfl
  subst hRR
  obtain rfl : (n - 1) = N := by rw [← hN]; simp [okR]; omega
  exact specHead qs (j : Int) st n cp qc rl nc cc ad ce m ca f s t hl hn hqs hlc hnc hla hm j _ arg hc hk rfl hjl hx 12 1 (n - 1) 0 rfl (by decide) rfl rfl (by omega) hncp w hr hrc hra _ (swDrop w (j : Int) qs st n cp ad ce m ca f s t arg 1 (n - 1) 0 (((n - 1) : Nat) + 0 : Int) (by omega) (wrap_to (by omega) (by omega) (by omega)) (wrap_to (by omega) (by omega) (by omega)) (by omega) h60j)
/-- instruction 13 -/
theorem stepS13 (qs : Option Addr) (st : List Int) (n cp : Nat) (qc : Option Addr) (rl : List (Int × Int)) (nc cc : Nat) (ad : Addr) (ce : List Int) (m ca : Nat) (f s t : Int) (hl : st.length = n) (hn : n ≤ 1048576) (hqs : qs = none → n = 0 ∧ cp = 0) (hlc : rl.length = nc) (hnc : nc ≤ 1048576) (hla : ce.length = m) (hm : m ≤ 1048576) (j : Nat) (arg : Int) (hc : CpuR (j : Int) st) (hk : I.CodeR rl) (hjl : j < nc) (hx : rl[j]? = some (((13 : Nat) : Int), arg)) (ha : 0 ≤ arg ∧ arg ≤ 255) (hncp : n ≤ cp) (h8 : n ≤ 8) (hT : 1 ≤ n) (w : World) (hr : Rd w qs st) (hrc : I.RdR w qc rl) (hra : Rd w (some ad) ce) (R : Res) (N : Nat) (hR : doV (j : Int) st (st.take (n - 1)) (st.getD (n - 1) 0) (st.getD (n - 2) 0) ce f s t 13 arg = R) (hN : R.st.length = N) :
    Calls Try.prog 28 #[.agg #[.int .i64 (j : Int), .slice qs n cp], .slice qc nc cc, .agg #[.slice (some ad) m ca], .agg #[.int .i64 f, .int .i64 s], .int .i64 t] w (StepPost w m R N) := by
  have htk : (st.take (n - 1)).length = n - 1 := by rw [List.length_take]; omega
  have h60j : ¬ (60 < (j : Int) + 1) := by have := hk.1; omega
  obtain ⟨gq, oq, rfl, hcq⟩ := hr (by omega)
  have hkx := rd_top hcq (getD_at (i := n - 1) (by omega))
  have hRR : R = ⟨(j : Int) + 1, (st.take (n - 1)), ce, 13, arg, st.getD (n - 1) 0, 0⟩ := by rw [← hR]; rfl
  subst hRR
  obtain rfl : (n - 1) = N := by rw [← hN]; simp; omega
  exact specHead (some ⟨gq, oq, none⟩) (j : Int) st n cp qc rl nc cc ad ce m ca f s t hl hn hqs hlc hnc hla hm j _ arg hc hk rfl hjl hx 13 1 (n - 1) 0 rfl (by decide) rfl rfl (by omega) hncp w hr hrc hra _ (swSend13 w (j : Int) gq oq st n cp ad ce m ca f s t arg 1 (n - 1) 0 (((n - 1) : Nat) + 0 : Int) (by omega) (wrap_to (by omega) (by omega) (by omega)) (wrap_to (by omega) (by omega) (by omega)) (st.getD (n - 1) 0) hkx (by omega) (by omega) (wrap_to (by omega) (by omega) (by omega)) (by omega) h60j)
/-- instruction 14 -/
theorem stepS14 (qs : Option Addr) (st : List Int) (n cp : Nat) (qc : Option Addr) (rl : List (Int × Int)) (nc cc : Nat) (ad : Addr) (ce : List Int) (m ca : Nat) (f s t : Int) (hl : st.length = n) (hn : n ≤ 1048576) (hqs : qs = none → n = 0 ∧ cp = 0) (hlc : rl.length = nc) (hnc : nc ≤ 1048576) (hla : ce.length = m) (hm : m ≤ 1048576) (j : Nat) (arg : Int) (hc : CpuR (j : Int) st) (hk : I.CodeR rl) (hjl : j < nc) (hx : rl[j]? = some (((14 : Nat) : Int), arg)) (ha : 0 ≤ arg ∧ arg ≤ 255) (hncp : n ≤ cp) (h8 : n ≤ 8) (hT : 0 ≤ n) (w : World) (hr : Rd w qs st) (hrc : I.RdR w qc rl) (hra : Rd w (some ad) ce) (R : Res) (N : Nat) (hR : doV (j : Int) st (st.take (n - 0)) (st.getD (n - 1) 0) (st.getD (n - 2) 0) ce f s t 14 arg = R) (hN : R.st.length = N) :
    Calls Try.prog 28 #[.agg #[.int .i64 (j : Int), .slice qs n cp], .slice qc nc cc, .agg #[.slice (some ad) m ca], .agg #[.int .i64 f, .int .i64 s], .int .i64 t] w (StepPost w m R N) := by
  have htk : (st.take (n - 0)).length = n - 0 := by rw [List.length_take]; omega
  have h60j : ¬ (60 < (j : Int) + 1) := by have := hk.1; omega
  have hRR : R = ⟨(j : Int) + 1, (st.take (n - 0)), ce, 14, arg, 0, 0⟩ := by rw [← hR]; rfl
  subst hRR
  obtain rfl : (n - 0) = N := by rw [← hN]; simp; omega
  exact specHead qs (j : Int) st n cp qc rl nc cc ad ce m ca f s t hl hn hqs hlc hnc hla hm j _ arg hc hk rfl hjl hx 14 0 (n - 0) 0 rfl (by decide) rfl rfl (by omega) hncp w hr hrc hra _ (swTake14 w (j : Int) qs st n cp ad ce m ca f s t arg 0 (n - 0) 0 (((n - 0) : Nat) + 0 : Int) (by omega) (wrap_to (by omega) (by omega) (by omega)) (wrap_to (by omega) (by omega) (by omega)) (by omega) h60j)
/-- instruction 15 -/
theorem stepS15 (qs : Option Addr) (st : List Int) (n cp : Nat) (qc : Option Addr) (rl : List (Int × Int)) (nc cc : Nat) (ad : Addr) (ce : List Int) (m ca : Nat) (f s t : Int) (hl : st.length = n) (hn : n ≤ 1048576) (hqs : qs = none → n = 0 ∧ cp = 0) (hlc : rl.length = nc) (hnc : nc ≤ 1048576) (hla : ce.length = m) (hm : m ≤ 1048576) (j : Nat) (arg : Int) (hc : CpuR (j : Int) st) (hk : I.CodeR rl) (hjl : j < nc) (hx : rl[j]? = some (((15 : Nat) : Int), arg)) (ha : 0 ≤ arg ∧ arg ≤ 255) (hncp : n ≤ cp) (h8 : n ≤ 8) (hT : 0 ≤ n) (w : World) (hr : Rd w qs st) (hrc : I.RdR w qc rl) (hra : Rd w (some ad) ce) (R : Res) (N : Nat) (hR : doV (j : Int) st (st.take (n - 0)) (st.getD (n - 1) 0) (st.getD (n - 2) 0) ce f s t 15 arg = R) (hN : R.st.length = N) :
    Calls Try.prog 28 #[.agg #[.int .i64 (j : Int), .slice qs n cp], .slice qc nc cc, .agg #[.slice (some ad) m ca], .agg #[.int .i64 f, .int .i64 s], .int .i64 t] w (StepPost w m R N) := by
  have htk : (st.take (n - 0)).length = n - 0 := by rw [List.length_take]; omega
  have h60j : ¬ (60 < (j : Int) + 1) := by have := hk.1; omega
  have hRR : R = ⟨(j : Int) + 1, (st.take (n - 0)), ce, 15, arg, 0, 0⟩ := by rw [← hR]; rfl
  subst hRR
  obtain rfl : (n - 0) = N := by rw [← hN]; simp; omega
  exact specHead qs (j : Int) st n cp qc rl nc cc ad ce m ca f s t hl hn hqs hlc hnc hla hm j _ arg hc hk rfl hjl hx 15 0 (n - 0) 0 rfl (by decide) rfl rfl (by omega) hncp w hr hrc hra _ (swTake15 w (j : Int) qs st n cp ad ce m ca f s t arg 0 (n - 0) 0 (((n - 0) : Nat) + 0 : Int) (by omega) (wrap_to (by omega) (by omega) (by omega)) (wrap_to (by omega) (by omega) (by omega)) (by omega) h60j)
/-- instruction 16 -/
theorem stepS16 (qs : Option Addr) (st : List Int) (n cp : Nat) (qc : Option Addr) (rl : List (Int × Int)) (nc cc : Nat) (ad : Addr) (ce : List Int) (m ca : Nat) (f s t : Int) (hl : st.length = n) (hn : n ≤ 1048576) (hqs : qs = none → n = 0 ∧ cp = 0) (hlc : rl.length = nc) (hnc : nc ≤ 1048576) (hla : ce.length = m) (hm : m ≤ 1048576) (j : Nat) (arg : Int) (hc : CpuR (j : Int) st) (hk : I.CodeR rl) (hjl : j < nc) (hx : rl[j]? = some (((16 : Nat) : Int), arg)) (ha : 0 ≤ arg ∧ arg ≤ 255) (hncp : n ≤ cp) (h8 : n ≤ 8) (hT : 1 ≤ n) (w : World) (hr : Rd w qs st) (hrc : I.RdR w qc rl) (hra : Rd w (some ad) ce) (R : Res) (N : Nat) (hR : doV (j : Int) st (st.take (n - 1)) (st.getD (n - 1) 0) (st.getD (n - 2) 0) ce f s t 16 arg = R) (hN : R.st.length = N) :
    Calls Try.prog 28 #[.agg #[.int .i64 (j : Int), .slice qs n cp], .slice qc nc cc, .agg #[.slice (some ad) m ca], .agg #[.int .i64 f, .int .i64 s], .int .i64 t] w (StepPost w m R N) := by
  have htk : (st.take (n - 1)).length = n - 1 := by rw [List.length_take]; omega
  have h60j : ¬ (60 < (j : Int) + 1) := by have := hk.1; omega
  obtain ⟨gq, oq, rfl, hcq⟩ := hr (by omega)
  have hkx := rd_top hcq (getD_at (i := n - 1) (by omega))
  have hRR : R = ⟨(j : Int) + 1, (st.take (n - 1)), ce, 16, arg, st.getD (n - 1) 0, 0⟩ := by rw [← hR]; rfl
  subst hRR
  obtain rfl : (n - 1) = N := by rw [← hN]; simp; omega
  exact specHead (some ⟨gq, oq, none⟩) (j : Int) st n cp qc rl nc cc ad ce m ca f s t hl hn hqs hlc hnc hla hm j _ arg hc hk rfl hjl hx 16 1 (n - 1) 0 rfl (by decide) rfl rfl (by omega) hncp w hr hrc hra _ (swSend16 w (j : Int) gq oq st n cp ad ce m ca f s t arg 1 (n - 1) 0 (((n - 1) : Nat) + 0 : Int) (by omega) (wrap_to (by omega) (by omega) (by omega)) (wrap_to (by omega) (by omega) (by omega)) (st.getD (n - 1) 0) hkx (by omega) (by omega) (wrap_to (by omega) (by omega) (by omega)) (by omega) h60j)
/-- instruction 17 -/
theorem stepS17 (qs : Option Addr) (st : List Int) (n cp : Nat) (qc : Option Addr) (rl : List (Int × Int)) (nc cc : Nat) (ad : Addr) (ce : List Int) (m ca : Nat) (f s t : Int) (hl : st.length = n) (hn : n ≤ 1048576) (hqs : qs = none → n = 0 ∧ cp = 0) (hlc : rl.length = nc) (hnc : nc ≤ 1048576) (hla : ce.length = m) (hm : m ≤ 1048576) (j : Nat) (arg : Int) (hc : CpuR (j : Int) st) (hk : I.CodeR rl) (hjl : j < nc) (hx : rl[j]? = some (((17 : Nat) : Int), arg)) (ha : 0 ≤ arg ∧ arg ≤ 255) (hncp : n ≤ cp) (h8 : n ≤ 8) (hT : 0 ≤ n) (w : World) (hr : Rd w qs st) (hrc : I.RdR w qc rl) (hra : Rd w (some ad) ce) (R : Res) (N : Nat) (hR : doV (j : Int) st (st.take (n - 0)) (st.getD (n - 1) 0) (st.getD (n - 2) 0) ce f s t 17 arg = R) (hN : R.st.length = N) :
    Calls Try.prog 28 #[.agg #[.int .i64 (j : Int), .slice qs n cp], .slice qc nc cc, .agg #[.slice (some ad) m ca], .agg #[.int .i64 f, .int .i64 s], .int .i64 t] w (StepPost w m R N) := by
  have htk : (st.take (n - 0)).length = n - 0 := by rw [List.length_take]; omega
  have h60j : ¬ (60 < (j : Int) + 1) := by have := hk.1; omega
  by_cases h9 : st.length = 8
  · have hRR : R = trapR (j : Int) st ce 4 := by rw [← hR]; exact if_pos h9
    subst hRR
    obtain rfl : n = N := by rw [← hN]; simp [trapR, hl]
    exact specHead qs (j : Int) st n cp qc rl nc cc ad ce m ca f s t hl hn hqs hlc hnc hla hm j _ arg hc hk rfl hjl hx 17 0 (n - 0) 1 rfl (by decide) rfl rfl (by omega) hncp w hr hrc hra _ (swTimeOver w (j : Int) qs st n cp ad ce m ca f s t arg 0 (n - 0) 1 (((n - 0) : Nat) + 1 : Int) (by omega) (wrap_to (by omega) (by omega) (by omega)) (wrap_to (by omega) (by omega) (by omega)) (by omega) hla hm hra)
  · have hRR : R = okR ((j : Int) + 1) ((st.take (n - 0)) ++ [t % 65536]) ce := by rw [← hR]; refine (if_neg h9).trans ?_; rfl
    subst hRR
    obtain rfl : ((n - 0) + 1) = N := by rw [← hN]; simp [okR]; omega
    exact specHead qs (j : Int) st n cp qc rl nc cc ad ce m ca f s t hl hn hqs hlc hnc hla hm j _ arg hc hk rfl hjl hx 17 0 (n - 0) 1 rfl (by decide) rfl rfl (by omega) hncp w hr hrc hra _ (swTime w (j : Int) qs st n cp ad ce m ca f s t arg 0 (n - 0) 1 (((n - 0) : Nat) + 1 : Int) (by omega) (wrap_to (by omega) (by omega) (by omega)) (wrap_to (by omega) (by omega) (by omega)) (by omega) h60j)
theorem need_eq (o : Nat) (ho : o < 18) : (needs (o : Int) : Int) = needL.getD o 0 := by
  have ho' : o = 0 ∨ o = 1 ∨ o = 2 ∨ o = 3 ∨ o = 4 ∨ o = 5 ∨ o = 6 ∨ o = 7 ∨ o = 8 ∨ o = 9 ∨ o = 10 ∨ o = 11 ∨ o = 12 ∨ o = 13 ∨ o = 14 ∨ o = 15 ∨ o = 16 ∨ o = 17 := by omega
  rcases ho' with rfl | rfl | rfl | rfl | rfl | rfl | rfl | rfl | rfl | rfl | rfl | rfl | rfl | rfl | rfl | rfl | rfl | rfl <;> rfl
theorem stepS (qs : Option Addr) (pc : Int) (st : List Int) (n cp : Nat) (qc : Option Addr) (rl : List (Int × Int)) (nc cc : Nat) (ad : Addr) (ce : List Int) (m ca : Nat) (f s t : Int) (b : Bool) (R : Res) (N : Nat) (hl : st.length = n) (hn : n ≤ 1048576) (hqs : qs = none → n = 0 ∧ cp = 0) (hncp : n ≤ cp) (hlc : rl.length = nc) (hnc : nc ≤ 1048576) (hla : ce.length = m) (hm : m ≤ 1048576) (hb : b = true ↔ (CpuR pc st ∧ I.CodeR rl ∧ pc < (nc : Int))) (hR : stepR b pc st rl ce f s t = R) (hN : R.st.length = N) (w : World) (hr : Rd w qs st) (hrc : I.RdR w qc rl) (hra : Rd w (some ad) ce) :
    Calls Try.prog 28 #[.agg #[.int .i64 pc, .slice qs n cp], .slice qc nc cc, .agg #[.slice (some ad) m ca], .agg #[.int .i64 f, .int .i64 s], .int .i64 t] w (StepPost w m R N) := by
  cases b
  · have hno : ¬ (CpuR pc st ∧ I.CodeR rl ∧ pc < (nc : Int)) := fun h => by have := hb.2 h; cases this
    obtain rfl : trapR pc st ce 6 = R := hR
    obtain rfl : n = N := by rw [← hl]; exact hN
    exact specN qs pc st n cp qc rl nc cc ad ce m ca f s t hl hn hqs hlc hnc hla hm hno w hr hrc hra
  · obtain ⟨hc, hk, hp⟩ := hb.1 rfl
    obtain ⟨j, rfl⟩ := Int.eq_ofNat_of_zero_le hc.2.1.1
    have hj : j < nc := by omega
    obtain ⟨op, arg, hoa⟩ : ∃ op arg, opAt' rl (j : Int) = (op, arg) := ⟨_, _, rfl⟩
    have hx : rl[j]? = some (op, arg) := by
      rw [← hoa]
      unfold opAt'
      rw [Int.toNat_natCast, List.getElem?_eq_getElem (by omega), List.getD_eq_getElem?_getD, List.getElem?_eq_getElem (by omega)]
      rfl
    have hRR : stepV (j : Int) st ce f s t op arg = R := by
      have h := hR
      unfold stepR at h
      rw [hoa] at h
      exact h
    have hjr : j < rl.length := by omega
    have hxx : rl[j] = (op, arg) := by rw [List.getElem?_eq_getElem hjr] at hx; exact Option.some.inj hx
    have hbb := hk.2 j hjr
    rw [hxx] at hbb
    have h8 : n ≤ 8 := by have := hc.1; omega
    obtain ⟨o, rfl⟩ : ∃ o : Nat, op = (o : Int) := Int.eq_ofNat_of_zero_le hbb.1.1
    have ha : 0 ≤ arg ∧ arg ≤ 255 := hbb.2
    by_cases hbig : 17 < (o : Int)
    · obtain rfl : trapR (j : Int) st ce 1 = R := by rw [← hRR]; unfold stepV; rw [if_pos hbig]
      obtain rfl : n = N := by rw [← hl]; exact hN
      exact specBig qs (j : Int) st n cp qc rl nc cc ad ce m ca f s t hl hn hqs hlc hnc hla hm j _ arg hc hk rfl hj hx hbig w hr hrc hra
    by_cases hlow : (n : Int) < needL.getD o 0
    · have hnd : st.length < needs (o : Int) := by
        have ho : o < 18 := by omega
        rw [hl]
        have : (needs (o : Int) : Int) = needL.getD o 0 := need_eq o ho
        omega
      obtain rfl : trapR (j : Int) st ce 5 = R := by rw [← hRR]; unfold stepV; rw [if_neg hbig, if_pos hnd]
      obtain rfl : n = N := by rw [← hl]; exact hN
      exact specUnder qs (j : Int) st n cp qc rl nc cc ad ce m ca f s t hl hn hqs hlc hnc hla hm j _ arg hc hk rfl hj hx o rfl (by omega) hlow w hr hrc hra
    have ho : o < 18 := by omega
    have hne := need_eq o ho
    have hnd : ¬ st.length < needs (o : Int) := by rw [hl]; omega
    have hD : doV (j : Int) st (st.take (st.length - needs (o : Int))) (st.getD (st.length - 1) 0) (st.getD (st.length - 2) 0) ce f s t o arg = R := by
      rw [← hRR]; unfold stepV; rw [if_neg hbig, if_neg hnd]
    rw [hl] at hD
    clear hRR hR hb hbig hnd hoa hxx hbb hp
    have ho' : o = 0 ∨ o = 1 ∨ o = 2 ∨ o = 3 ∨ o = 4 ∨ o = 5 ∨ o = 6 ∨ o = 7 ∨ o = 8 ∨ o = 9 ∨ o = 10 ∨ o = 11 ∨ o = 12 ∨ o = 13 ∨ o = 14 ∨ o = 15 ∨ o = 16 ∨ o = 17 := by omega
    rcases ho' with rfl | rfl | rfl | rfl | rfl | rfl | rfl | rfl | rfl | rfl | rfl | rfl | rfl | rfl | rfl | rfl | rfl | rfl
    · exact stepS0 qs st n cp qc rl nc cc ad ce m ca f s t hl hn hqs hlc hnc hla hm j arg hc hk hj hx ha hncp h8 (by simp [needL] at hlow; omega) w hr hrc hra R N hD hN
    · exact stepS1 qs st n cp qc rl nc cc ad ce m ca f s t hl hn hqs hlc hnc hla hm j arg hc hk hj hx ha hncp h8 (by simp [needL] at hlow; omega) w hr hrc hra R N hD hN
    · exact stepS2 qs st n cp qc rl nc cc ad ce m ca f s t hl hn hqs hlc hnc hla hm j arg hc hk hj hx ha hncp h8 (by simp [needL] at hlow; omega) w hr hrc hra R N hD hN
    · exact stepS3 qs st n cp qc rl nc cc ad ce m ca f s t hl hn hqs hlc hnc hla hm j arg hc hk hj hx ha hncp h8 (by simp [needL] at hlow; omega) w hr hrc hra R N hD hN
    · exact stepS4 qs st n cp qc rl nc cc ad ce m ca f s t hl hn hqs hlc hnc hla hm j arg hc hk hj hx ha hncp h8 (by simp [needL] at hlow; omega) w hr hrc hra R N hD hN
    · exact stepS5 qs st n cp qc rl nc cc ad ce m ca f s t hl hn hqs hlc hnc hla hm j arg hc hk hj hx ha hncp h8 (by simp [needL] at hlow; omega) w hr hrc hra R N hD hN
    · exact stepS6 qs st n cp qc rl nc cc ad ce m ca f s t hl hn hqs hlc hnc hla hm j arg hc hk hj hx ha hncp h8 (by simp [needL] at hlow; omega) w hr hrc hra R N hD hN
    · exact stepS7 qs st n cp qc rl nc cc ad ce m ca f s t hl hn hqs hlc hnc hla hm j arg hc hk hj hx ha hncp h8 (by simp [needL] at hlow; omega) w hr hrc hra R N hD hN
    · exact stepS8 qs st n cp qc rl nc cc ad ce m ca f s t hl hn hqs hlc hnc hla hm j arg hc hk hj hx ha hncp h8 (by simp [needL] at hlow; omega) w hr hrc hra R N hD hN
    · exact stepS9 qs st n cp qc rl nc cc ad ce m ca f s t hl hn hqs hlc hnc hla hm j arg hc hk hj hx ha hncp h8 (by simp [needL] at hlow; omega) w hr hrc hra R N hD hN
    · exact stepS10 qs st n cp qc rl nc cc ad ce m ca f s t hl hn hqs hlc hnc hla hm j arg hc hk hj hx ha hncp h8 (by simp [needL] at hlow; omega) w hr hrc hra R N hD hN
    · exact stepS11 qs st n cp qc rl nc cc ad ce m ca f s t hl hn hqs hlc hnc hla hm j arg hc hk hj hx ha hncp h8 (by simp [needL] at hlow; omega) w hr hrc hra R N hD hN
    · exact stepS12 qs st n cp qc rl nc cc ad ce m ca f s t hl hn hqs hlc hnc hla hm j arg hc hk hj hx ha hncp h8 (by simp [needL] at hlow; omega) w hr hrc hra R N hD hN
    · exact stepS13 qs st n cp qc rl nc cc ad ce m ca f s t hl hn hqs hlc hnc hla hm j arg hc hk hj hx ha hncp h8 (by simp [needL] at hlow; omega) w hr hrc hra R N hD hN
    · exact stepS14 qs st n cp qc rl nc cc ad ce m ca f s t hl hn hqs hlc hnc hla hm j arg hc hk hj hx ha hncp h8 (by simp [needL] at hlow; omega) w hr hrc hra R N hD hN
    · exact stepS15 qs st n cp qc rl nc cc ad ce m ca f s t hl hn hqs hlc hnc hla hm j arg hc hk hj hx ha hncp h8 (by simp [needL] at hlow; omega) w hr hrc hra R N hD hN
    · exact stepS16 qs st n cp qc rl nc cc ad ce m ca f s t hl hn hqs hlc hnc hla hm j arg hc hk hj hx ha hncp h8 (by simp [needL] at hlow; omega) w hr hrc hra R N hD hN
    · exact stepS17 qs st n cp qc rl nc cc ad ce m ca f s t hl hn hqs hlc hnc hla hm j arg hc hk hj hx ha hncp h8 (by simp [needL] at hlow; omega) w hr hrc hra R N hD hN
end Go.Proofs.Ythnocibkgpofnaa
