/-
  FnCosts over bytes that are few enough.
-/
import Derived.Test.YtbcphgmcjickgaaDoorPlaces
import Derived.Test.YtbcphgmcjickgaaDoorCost
import Derived.Test.YtbcphgmcjickgaaDoorNames
import Derived.Test.YtbcphgmcjickgaaDoorRow
namespace Go.Proofs.YtbcphgmcjickgaaDoor
open Go.RowKit Go.PlainAid
set_option linter.unusedVariables false

theorem name_some {r : Int} (h0 : 0 ≤ r) (h1 : r ≤ 17) : (nameOf r).toList.isEmpty = false := by
  obtain ⟨n, rfl⟩ := Int.eq_ofNat_of_zero_le h0
  rw [nameOf_in (by omega)]
  have := (name_bytes n (by omega)).1
  rw [ByteArray.toList_eq]
  cases h : (nmA n).data.toList with
  | nil => rw [h] at this; simp at this
  | cons x y => rfl
theorem name_apart {r q : Int} (h0 : 0 ≤ r) (h1 : r ≤ 17) (h2 : 0 ≤ q) (h3 : q ≤ 17) (hne : r ≠ q) : ((nameOf r).toList == (nameOf q).toList) = false := by
  obtain ⟨n, rfl⟩ := Int.eq_ofNat_of_zero_le h0
  obtain ⟨m, rfl⟩ := Int.eq_ofNat_of_zero_le h2
  rw [nameOf_in (by omega), nameOf_in (by omega), ByteArray.toList_eq, ByteArray.toList_eq]
  cases h : (nmA n).data.toList == (nmA m).data.toList with
  | false => rfl
  | true =>
    have := name_inj_l n (by omega) m (by omega) (by simpa using h)
    omega

set_option maxRecDepth 100000 in
set_option maxHeartbeats 2000000 in
theorem costs_in (a : Option Addr) (len cap : Nat) (hb : len ≤ 1048576) (w : World) (hcode : CodeOk w w.heap.size a len) (ht : TabN w) :
    Calls Tryd.prog 4 #[.slice a len cap] w fun e w' => e = .returned (.bool true) ∧ Below w.heap.size w w' := by
  have HC : Hid (CodeOk w w.heap.size a len) := hcode
  have HT : Hid (TabN w) := ht
  clear hcode ht
  go_enter Tryd.func4, Tryd.ntmps4
  go_wp2_with fail
  refine (big5 a len cap (by omega) _).mono ?_
  rintro e w1 ⟨rfl, rfl⟩
  rw [decide_eq_false (by omega)]
  go_wp2_with fail
  refine (places7 w1.heap.size a len cap _ HC.out (Nat.le_refl _)).mono ?_
  rintro e w2 ⟨g, cp, p0, p1, p2, p3, rfl, hp0, hp1, hp2, _, hg, c0, c1, c2, _, _, hb2⟩
  have HB2 : Hid (Below w1.heap.size w1 w2) := hb2
  have HT2 : Hid (TabN w2) := tabN_below HT.out hb2
  clear hb2 HT HC
  obtain ⟨x, hx⟩ : ∃ x, p0 % 18 = x := ⟨_, rfl⟩
  obtain ⟨y, hy⟩ : ∃ y, p1 % 18 = y := ⟨_, rfl⟩
  obtain ⟨z, hz⟩ : ∃ z, p2 % 300 = z := ⟨_, rfl⟩
  have hx' : p0.tmod 18 = x := by rw [Int.tmod_eq_emod_of_nonneg hp0.1]; exact hx
  have hy' : p1.tmod 18 = y := by rw [Int.tmod_eq_emod_of_nonneg hp1.1]; exact hy
  have hz' : p2.tmod 300 = z := by rw [Int.tmod_eq_emod_of_nonneg hp2.1]; exact hz
  have x0 : 0 ≤ x ∧ x ≤ 17 := by omega
  have y0 : 0 ≤ y ∧ y ≤ 17 := by omega
  have z0 : 0 ≤ z ∧ z ≤ 299 := by omega
  clear hp0 hp1 hp2
  have k0 := costN_bd x
  go_wp2_with fail
  refine (costI x _).mono ?_
  rintro e w3 ⟨rfl, rfl⟩
  clear c0 c1 c2 hx hy hz hx' hy' hz'
  go_wp2_with fail
  refine (costI x _).mono ?_
  rintro e w3 ⟨rfl, rfl⟩
  generalize costN x = cx at *
  go_wp2_with fail
  refine (costI (z - 20) _).mono ?_
  rintro e w3 ⟨rfl, rfl⟩
  go_wp2_with fail
  refine (costS (z - 20) _).mono ?_
  rintro e w3 ⟨rfl, rfl⟩
  generalize costN (z - 20) = cz at *
  go_wp2_with fail
  refine (nameI (z - 20) _ HT2.out).mono ?_
  rintro e w3 ⟨rfl, rfl⟩
  go_wp2_with fail
  refine (nameS (z - 20) _).mono ?_
  rintro e w4 ⟨rfl, hb4⟩
  have HB4 : Hid (Below w1.heap.size w1 w4) := HB2.out.trans (hb4.mono HB2.out.size)
  have HT4 : Hid (TabN w4) := tabN_below HT2.out hb4
  generalize nameOf (z - 20) = nz at *
  clear hb4 HB2 HT2
  go_wp2_with fail
  refine (nameI x _ HT4.out).mono ?_
  rintro e w5 ⟨rfl, rfl⟩
  go_wp2_with fail
  refine (nameI y _ HT4.out).mono ?_
  rintro e w5 ⟨rfl, rfl⟩
  have hne := name_some x0.1 x0.2
  have h18 : nameOf 18 = ⟨#[]⟩ := by decide +kernel
  by_cases hxy : x = y
  · subst hxy
    generalize hnx : nameOf x = nx at *
    go_wp2_with fail
    refine (nameI x _ HT4.out).mono ?_
    rintro e w5 ⟨rfl, rfl⟩
    rw [hnx]
    go_wp2_with fail
    refine (nameI 18 _ HT4.out).mono ?_
    rintro e w5 ⟨rfl, rfl⟩
    rw [h18]
    go_wp2
    go_ret
    exact ⟨by simp, HB4.out⟩
  · have hxy' : (x == y) = false := by simpa using hxy
    have hap := name_apart x0.1 x0.2 y0.1 y0.2 hxy
    generalize hnx : nameOf x = nx at *
    generalize hny : nameOf y = ny at *
    go_wp2_with fail
    refine (nameI x _ HT4.out).mono ?_
    rintro e w5 ⟨rfl, rfl⟩
    rw [hnx]
    go_wp2_with fail
    refine (nameI 18 _ HT4.out).mono ?_
    rintro e w5 ⟨rfl, rfl⟩
    rw [h18]
    go_wp2
    go_ret
    exact ⟨by simp, HB4.out⟩
end Go.Proofs.YtbcphgmcjickgaaDoor
