/-
  FnListings over bytes that are few enough.
-/
import Derived.Test.YtbcphgmcjickgaaDoorRMath
import Derived.Test.YtbcphgmcjickgaaDoorList5
import Derived.Test.YtbcphgmcjickgaaDoorAsm6
import Derived.Test.YtbcphgmcjickgaaDoorSame
import Derived.Test.YtbcphgmcjickgaaDoorDrawC
import Derived.Test.YtbcphgmcjickgaaDoorDrawS
import Derived.Test.YtbcphgmcjickgaaDoorRow
import Derived.Deep.DeepCutAuto
namespace Go.Proofs.YtbcphgmcjickgaaDoor
open Go.RowKit Plain Go.PlainAid
open Go.Lib (decDigits itoa indexByte)
set_option linter.unusedVariables false

theorem pickS (C B : Nat) (a : Option Addr) (len cap : Nat) (L : List ByteArray) (n g cp : Nat) (hn : L.length = n) (hl : 0 < n) (hl2 : n ≤ 1000) (w : World) (hC : Cur w C a len cap) (hB : B ≤ C) (hcode : CodeOk w B a len)
    (hg : g ≠ C) (hgl : g < w.heap.size) (hcell : ∀ j x, L[j]? = some x → w.cell? ⟨g, j, none⟩ = some (.string x)) :
    Calls Tryd.prog 39 #[.pointer (some ⟨C, 0, none⟩), .slice (some ⟨g, 0, none⟩) n cp] w fun e w' => ∃ x : ByteArray, e = .returned (.string x) ∧ x ∈ L ∧ Drawn w w' C B a len cap := by
  have HD0 : Hid (Drawn w w C B a len cap) := ⟨hC, hcode, World.grownBy.refl _ _⟩
  have HC : Hid (∀ j x, L[j]? = some x → w.cell? ⟨g, j, none⟩ = some (.string x)) := hcell
  have HN : Hid (L.length = n) := hn
  clear hC hcode hcell hn
  go_enter Tryd.func39, Tryd.ntmps39
  go_wp2_with fail
  refine (below28 C B a len cap (n : Int) (by omega) (by omega) _ HD0.out.1 hB HD0.out.2.1).mono ?_
  rintro e w1 ⟨x, rfl, x0, x1, hD⟩
  obtain ⟨k, rfl⟩ := Int.eq_ofNat_of_zero_le x0
  have hk : k < L.length := by have := HN.out; omega
  have hx : L[k]? = some L[k] := List.getElem?_eq_getElem hk
  have hc : w1.cell? ⟨g, k, none⟩ = some (.string L[k]) := (hD.2.2.cell_far ⟨g, k, none⟩ hgl (fun e => by cases e; exact hg rfl)).trans (HC.out k _ hx)
  have HM : Hid (L[k] ∈ L) := List.getElem_mem hk
  have HD : Hid (Drawn w w1 C B a len cap) := hD
  clear hD HD0 hx
  generalize L[k] = t at *
  go_wp2
  go_ret
  exact ⟨_, rfl, HM.out, HD.out⟩
theorem laid_strs (w : World) (l : List ByteArray) (j : Nat) (x : ByteArray) (hj : l[j]? = some x) : (w.alloc (.cells (l.map Value.string).toArray 9)).cell? ⟨w.heap.size, j, none⟩ = some (.string x) := by
  rw [cell_of_row _ w.heap.size j _ 9 (0, 0) (heap_alloc_new w _)]
  simp [hj]
def addsL : List ByteArray := [⟨#[112, 117, 115, 104, 32, 50, 53, 54]⟩, ⟨#[119, 104, 97, 116]⟩, ⟨#[112, 117, 115, 104, 32, 49, 32, 50]⟩, ⟨#[97, 100, 100, 32, 120]⟩, ⟨#[101, 110, 100]⟩, ⟨#[10, 32, 32, 10, 112, 117, 115, 104]⟩, ⟨#[7]⟩]
theorem adds_size : ∀ x ∈ addsL, x.size ≤ 8 := by
  intro x hx
  simp only [addsL, List.mem_cons, List.not_mem_nil, or_false] at hx
  rcases hx with rfl | rfl | rfl | rfl | rfl | rfl | rfl <;> decide

theorem drawRight (a : Option Addr) (len cap : Nat) (w : World) (hcode : CodeOk w w.heap.size a len) :
    Calls Tryd.prog 9 #[.slice a len cap] w fun e w' => ∃ (v : Value) (xs : List (Int × Int)), e = .returned v ∧ xs.length ≤ 46 ∧ OwnI w' w.heap.size v xs ∧ Below w.heap.size w w' := by
  have HC : Hid (CodeOk w w.heap.size a len) := hcode
  clear hcode
  go_enter Tryd.func9, Tryd.ntmps9
  go_wp2_with fail
  refine (new23 w.heap.size a len cap _ HC.out (Nat.le_refl _)).mono ?_
  rintro e w1 ⟨C, rfl, hC, hcur, hcode, hb1⟩
  have s1 := hb1.size
  have HB1 : Hid (Below w.heap.size w w1) := hb1
  have HCu : Hid (Cur w1 C a len cap) := hcur
  have HCo : Hid (CodeOk w1 w.heap.size a len) := hcode
  clear hb1 hcur hcode HC
  go_wp2_with fail
  refine (codeD C w.heap.size a len cap _ HCu.out hC HCo.out).mono ?_
  rintro e w2 ⟨v, xs, rfl, hx, _, hO, hD⟩
  have HO : Hid (OwnI w2 w.heap.size v xs) := hO.mono s1
  have HB2 : Hid (Below w.heap.size w w2) := drawn_below HB1.out hC hD
  clear hO hD HB1 HCu HCo
  go_wp2
  go_ret
  exact ⟨v, xs, rfl, hx, HO.out, HB2.out⟩

theorem drawn_on {w1 w2 w3 : World} {C B : Nat} {a : Option Addr} {len cap : Nat} (hd : Drawn w1 w2 C B a len cap) (hb3 : Below w2.heap.size w2 w3) (hB : B ≤ w1.heap.size) : Drawn w1 w3 C B a len cap := by
  obtain ⟨⟨i, x, hi, hc⟩, hco, hg⟩ := hd
  exact ⟨⟨i, x, hi, row_after hc hb3 (row_lt hc)⟩, code_below hco (hb3.mono (Nat.le_trans hB hg.size)), ⟨hb3.os.trans hg.os, hb3.tape.trans hg.tape, hb3.output.trans hg.output, Nat.le_trans hg.size hb3.size, fun k hk hne => (hb3.block k (Nat.lt_of_lt_of_le hk hg.size)).trans (hg.block k hk hne)⟩⟩

set_option maxRecDepth 100000 in
set_option maxHeartbeats 2000000 in
theorem drawAsm (a : Option Addr) (len cap : Nat) (w : World) (hcode : CodeOk w w.heap.size a len) :
    Calls Tryd.prog 13 #[.slice a len cap] w fun e w' => ∃ t : ByteArray, e = .returned (.string t) ∧ t.size ≤ 608 ∧ Below w.heap.size w w' := by
  have HC : Hid (CodeOk w w.heap.size a len) := hcode
  clear hcode
  go_enter Tryd.func13, Tryd.ntmps13
  go_wp2_with fail
  refine (new23 w.heap.size a len cap _ HC.out (Nat.le_refl _)).mono ?_
  rintro e w1 ⟨C, rfl, hC, hcur, hcode, hb1⟩
  have s1 := hb1.size
  have HB1 : Hid (Below w.heap.size w w1) := hb1
  have HCu : Hid (Cur w1 C a len cap) := hcur
  have HCo : Hid (CodeOk w1 w.heap.size a len) := hcode
  clear hb1 hcur hcode HC
  go_wp2_with fail
  refine (codeD C w.heap.size a len cap _ HCu.out hC HCo.out).mono ?_
  rintro e w2 ⟨v, xs, rfl, hx, _, hO, hD⟩
  obtain ⟨b, hB⟩ := ls_bool xs
  obtain ⟨s, hs, hsz, _, _⟩ := lsV_form hB
  have HBb : Hid (b = true ↔ LsOk xs) := hB
  obtain ⟨q, c, hv, hr⟩ := hO.rd
  subst hv
  have HR : Hid (RdR w2 q xs) := hr
  have HD2 : Hid (Drawn w1 w2 C w.heap.size a len cap) := hD
  clear hO hr hD hB HCu HCo
  go_wp2_with fail
  refine (listS q xs xs.length c b rfl (by omega) HBb.out _ HR.out).mono ?_
  rintro e w3 ⟨rfl, hb3⟩
  rw [hs]
  have HD3 : Hid (Drawn w1 w3 C w.heap.size a len cap) := drawn_on HD2.out hb3 s1
  clear hb3 hs HR HD2 HBb
  go_wp2_with fail
  refine (below28 C w.heap.size a len cap 6 (by omega) (by omega) _ HD3.out.1 hC HD3.out.2.1).mono ?_
  rintro e w4 ⟨y, rfl, y0, y1, hD⟩
  have HD4 : Hid (Drawn w1 w4 C w.heap.size a len cap) := drawn_trans HD3.out hD
  have s4 := HD4.out.2.2.size
  clear hD HD3
  have ways : y = 0 ∨ y = 1 ∨ ((y == 0) = false ∧ (y == 1) = false) := by
    by_cases h1 : y = 0
    · exact .inl h1
    · by_cases h2 : y = 1
      · exact .inr (.inl h2)
      · exact .inr (.inr ⟨by simpa using h1, by simpa using h2⟩)
  rcases ways with rfl | rfl | ⟨g1, g2⟩
  · have HDa : Hid (∀ o, Drawn w1 (w4.alloc o) C w.heap.size a len cap) := fun o => drawn_alloc HD4.out (by omega) o
    have HLI : Hid _ := laid_strs w4 addsL
    have sC := cur_lt HD4.out.1
    clear HD4
    go_wp2_with fail
    refine (pickS C w.heap.size a len cap addsL 7 _ _ rfl (by omega) (by omega) _ (HDa.out _).1 hC (HDa.out _).2.1 (by omega) (by simp) HLI.out).mono ?_
    rintro e w5 ⟨t, rfl, ht, hD⟩
    have ht8 := adds_size t ht
    have HB5 : Hid (Below w.heap.size w w5) := drawn_below HB1.out hC (drawn_trans (HDa.out _) hD)
    have b1 : ¬9223372036854775807 < s.size + t.size := by omega
    clear hD HDa HLI ht HB1
    go_wp2
    go_ret
    exact ⟨_, rfl, by rw [ByteArray.size_append]; omega, HB5.out⟩
  · go_wp2_with fail
    refine (spoiltD C w.heap.size a len cap s (by omega) _ HD4.out.1 hC HD4.out.2.1).mono ?_
    rintro e w5 ⟨t, rfl, ht, hD⟩
    have HB5 : Hid (Below w.heap.size w w5) := drawn_below HB1.out hC (drawn_trans HD4.out hD)
    clear hD HD4 HB1
    go_wp2
    go_ret
    exact ⟨t, rfl, by omega, HB5.out⟩
  · have HB4 : Hid (Below w.heap.size w w4) := drawn_below HB1.out hC HD4.out
    go_wp2
    go_ret
    exact ⟨s, rfl, by omega, HB4.out⟩

set_option maxRecDepth 100000 in
set_option maxHeartbeats 4000000 in
theorem listings_in (a : Option Addr) (len cap : Nat) (hb : len ≤ 1048576) (w : World) (hcode : CodeOk w w.heap.size a len) (ht : TabA w) :
    Calls Tryd.prog 3 #[.slice a len cap] w fun e w' => e = .returned (.bool true) ∧ Below w.heap.size w w' := by
  have HC : Hid (CodeOk w w.heap.size a len) := hcode
  have HT : Hid (TabA w) := ht
  clear hcode ht
  go_enter Tryd.func3, Tryd.ntmps3
  go_wp2_with fail
  refine (big5 a len cap (by omega) _).mono ?_
  rintro e w1 ⟨rfl, rfl⟩
  rw [decide_eq_false (by omega)]
  go_wp2_with fail
  refine (drawRight a len cap _ HC.out).mono ?_
  rintro e w2 ⟨v, xs, rfl, hx, hO, hb2⟩
  obtain ⟨b, hB⟩ := ls_bool xs
  obtain ⟨s, hs, hsz, hst, hsf⟩ := lsV_form hB
  obtain ⟨q, c, hv, hr⟩ := hO.rd
  subst hv
  have HBb : Hid (b = true ↔ LsOk xs) := hB
  have HB2 : Hid (Below w1.heap.size w1 w2) := hb2
  have HR2 : Hid (RdR w2 q xs) := hr
  obtain ⟨ys, hres, hyt, hyl⟩ : ∃ ys, AsmR (linesOf s) 1 [] (ys, 0) ∧ (b = true → ys = xs) ∧ ys.length ≤ 60 := by
    cases b
    · exact ⟨[], by rw [hsf rfl]; exact asm_none, (fun h => by cases h), by simp⟩
    · exact ⟨xs, by rw [hst rfl]; exact asm_back (hB.1 rfl), (fun _ => rfl), by omega⟩
  have HRS : Hid (AsmR (linesOf s) 1 [] (ys, 0)) := hres
  have HYT : Hid (b = true → ys = xs) := hyt
  have HSF : Hid (b = false → s = ⟨#[]⟩) := hsf
  clear hO hb2 hr hB hst hsf hres hyt
  go_wp2_with fail
  refine (listI q xs xs.length c b rfl (by omega) HBb.out _ HR2.out (tabA_below HT.out HB2.out)).mono ?_
  rintro e w3 ⟨rfl, hb3⟩
  rw [hs]
  have HB3 : Hid (Below w1.heap.size w1 w3) := bel_on (Nat.le_refl _) HB2.out hb3
  have HR3 : Hid (RdR w3 q xs) := HR2.out.on hb3
  clear hb3 HR2 HB2
  go_wp2_with fail
  refine (listS q xs xs.length c b rfl (by omega) HBb.out _ HR3.out).mono ?_
  rintro e w4 ⟨rfl, hb4⟩
  rw [hs]
  have HB4 : Hid (Below w1.heap.size w1 w4) := bel_on (Nat.le_refl _) HB3.out hb4
  have HR4 : Hid (RdR w4 q xs) := HR3.out.on hb4
  clear hb4 hs HR3 HB3
  go_wp2_with fail
  refine (assembleI s (by omega) (ys, 0) HRS.out _ (tabA_below HT.out HB4.out)).mono ?_
  rintro e w5 ⟨vx, rfl, hox, hb5⟩
  obtain ⟨qx, cx, hvx, hrx⟩ := hox.rd
  subst hvx
  have HB5 : Hid (Below w1.heap.size w1 w5) := bel_on (Nat.le_refl _) HB4.out hb5
  have HR5 : Hid (RdR w5 q xs) := HR4.out.on hb5
  have HRX : Hid (RdR w5 qx ys) := hrx
  have hbb : (b != b) = false := by cases b <;> rfl
  clear hox hb5 hrx HR4 HB4
  have HC5 : Hid (CodeOk w5 w5.heap.size a len) := by
    have h1 := code_below HC.out HB5.out
    refine ⟨h1.1, fun hp => ?_⟩
    obtain ⟨b', off, h2, h3, h4⟩ := h1.2 hp
    exact ⟨b', off, h2, Nat.lt_of_lt_of_le h3 HB5.out.size, h4⟩
  go_wp2_with fail
  refine (drawAsm a len cap _ HC5.out).mono ?_
  rintro e w6 ⟨t, rfl, htz, hb6⟩
  have HB6 : Hid (Below w1.heap.size w1 w6) := bel_on (Nat.le_refl _) HB5.out hb6
  have HR6 : Hid (RdR w6 q xs) := HR5.out.on hb6
  have HRX6 : Hid (RdR w6 qx ys) := HRX.out.on hb6
  obtain ⟨res, hres⟩ := asm_ex (linesOf t) 1 []
  have HRT : Hid (AsmR (linesOf t) 1 [] res) := hres
  have hrl := asm_len _ _ _ _ (by simp) hres
  obtain ⟨zs, num⟩ := res
  have hzl : zs.length ≤ 60 := hrl
  clear hb6 hres HB5 HR5 HRX HC5 hbb hrl
  go_wp2_with fail
  refine (assembleI t (by omega) (zs, num) HRT.out _ (tabA_below HT.out HB6.out)).mono ?_
  rintro e w7 ⟨vy, rfl, hoy, hb7⟩
  obtain ⟨qy, cy, hvy, hry⟩ := hoy.rd
  subst hvy
  have HB7 : Hid (Below w1.heap.size w1 w7) := bel_on (Nat.le_refl _) HB6.out hb7
  have HR7 : Hid (RdR w7 q xs) := HR6.out.on hb7
  have HRX7 : Hid (RdR w7 qx ys) := HRX6.out.on hb7
  have HRY7 : Hid (RdR w7 qy zs) := hry
  clear hoy hb7 hry HB6 HR6 HRX6
  go_wp2_with fail
  refine (assembleS t (by omega) (zs, num) HRT.out _).mono ?_
  rintro e w8 ⟨vz, rfl, hoz, hb8⟩
  obtain ⟨qz, cz, hvz, hrz⟩ := hoz.rd
  subst hvz
  have HB8 : Hid (Below w1.heap.size w1 w8) := bel_on (Nat.le_refl _) HB7.out hb8
  have HR8 : Hid (RdR w8 q xs) := HR7.out.on hb8
  have HRX8 : Hid (RdR w8 qx ys) := HRX7.out.on hb8
  have HRY8 : Hid (RdR w8 qy zs) := HRY7.out.on hb8
  have HRZ8 : Hid (RdR w8 qz zs) := hrz
  clear hoz hb8 hrz HB7 HR7 HRX7 HRY7
  go_wp2_with fail
  refine (sameIn qy qz zs zs.length cy cz rfl (by omega) _ HRY8.out HRZ8.out).mono ?_
  rintro e w9 ⟨rfl, hb9⟩
  have HB9 : Hid (Below w1.heap.size w1 w9) := bel_on (Nat.le_refl _) HB8.out hb9
  have HR9 : Hid (RdR w9 q xs) := HR8.out.on hb9
  have HRX9 : Hid (RdR w9 qx ys) := HRX8.out.on hb9
  clear hb9 HB8 HR8 HRX8 HRY8 HRZ8
  cases b
  · obtain rfl := HSF.out rfl
    go_wp2
    go_ret
    exact ⟨by simp, HB9.out⟩
  · obtain rfl := HYT.out rfl
    go_wp2_with fail
    refine (sameIn qx q ys ys.length cx c rfl (by omega) _ HRX9.out HR9.out).mono ?_
    rintro e w10 ⟨rfl, hb10⟩
    have HB10 : Hid (Below w1.heap.size w1 w10) := bel_on (Nat.le_refl _) HB9.out hb10
    clear hb10 HB9 HR9 HRX9
    go_wp2
    go_ret
    exact ⟨by simp, HB10.out⟩
end Go.Proofs.YtbcphgmcjickgaaDoor
