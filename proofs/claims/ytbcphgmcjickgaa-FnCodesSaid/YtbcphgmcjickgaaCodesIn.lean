/-
  FnCodes over bytes that are few enough.
-/
import Derived.Test.YtbcphgmcjickgaaTurn5
import Derived.Test.YtbcphgmcjickgaaDrawAny
import Derived.Test.YtbcphgmcjickgaaDrawS
import Derived.Test.YtbcphgmcjickgaaCText
import Derived.Test.YtbcphgmcjickgaaRow
import Derived.Deep.DeepCutAuto
namespace Go.Proofs.Ytbcphgmcjickgaa
open Go.RowKit Go.PlainAid
set_option linter.unusedVariables false

theorem drawCT (a : Option Addr) (len cap : Nat) (w : World) (hcode : CodeOk w w.heap.size a len) :
    Calls Try.prog 9 #[.slice a len cap] w fun e w' => ∃ (v : Value) (xs : List (Int × Int)), e = .returned v ∧ xs.length ≤ 61 ∧ OwnI w' w.heap.size v xs ∧ Below w.heap.size w w' := by
  have HC : Hid (CodeOk w w.heap.size a len) := hcode
  clear hcode
  go_enter Try.func9, Try.ntmps9
  go_wp2_with fail
  refine (new23 w.heap.size a len cap _ HC.out (Nat.le_refl _)).mono ?_
  rintro e w1 ⟨C, rfl, hC, hcur, hcode, hb1⟩
  have s1 := hb1.size
  have HB1 : Hid (Below w.heap.size w w1) := hb1
  have HCu : Hid (Cur w1 C a len cap) := hcur
  have HCo : Hid (CodeOk w1 w.heap.size a len) := hcode
  clear hb1 hcur hcode HC
  go_wp2_with fail
  refine (anyD C w.heap.size a len cap _ HCu.out hC HCo.out).mono ?_
  rintro e w2 ⟨v, xs, rfl, hx, hO, hD⟩
  have HO : Hid (OwnI w2 w.heap.size v xs) := hO.mono s1
  have HB2 : Hid (Below w.heap.size w w2) := drawn_below HB1.out hC hD
  clear hO hD HB1 HCu HCo
  go_wp2
  go_ret
  exact ⟨v, xs, rfl, hx, HO.out, HB2.out⟩

theorem ctV_form {rl : List (Int × Int)} {b : Bool} (hb : b = true ↔ CodeR rl) : ∃ s : ByteArray, ctV rl b = .tuple #[.string s, .bool b] ∧ s.size ≤ 120 ∧ (b = true → s = ⟨(codeB rl).toArray⟩) ∧ (b = false → s = ⟨#[]⟩) := by
  cases b
  · exact ⟨_, rfl, Nat.zero_le _, (fun h => by cases h), (fun _ => rfl)⟩
  · refine ⟨_, rfl, ?_, (fun _ => rfl), (fun h => by cases h)⟩
    rw [size_list, codeB_len]
    have := (hb.1 rfl).1
    omega

set_option maxHeartbeats 1000000 in
theorem drawRC (a : Option Addr) (len cap : Nat) (w : World) (hcode : CodeOk w w.heap.size a len) :
    Calls Try.prog 15 #[.slice a len cap] w fun e w' => ∃ t : ByteArray, e = .returned (.string t) ∧ t.size ≤ 121 ∧ Below w.heap.size w w' := by
  have HC : Hid (CodeOk w w.heap.size a len) := hcode
  clear hcode
  go_enter Try.func15, Try.ntmps15
  go_wp2_with fail
  refine (new23 w.heap.size a len cap _ HC.out (Nat.le_refl _)).mono ?_
  rintro e w1 ⟨C, rfl, hC, hcur, hcode, hb1⟩
  have s1 := hb1.size
  have HB1 : Hid (Below w.heap.size w w1) := hb1
  have HCu : Hid (Cur w1 C a len cap) := hcur
  have HCo : Hid (CodeOk w1 w.heap.size a len) := hcode
  clear hb1 hcur hcode HC
  go_wp2_with fail
  refine (anyD C w.heap.size a len cap _ HCu.out hC HCo.out).mono ?_
  rintro e w2 ⟨v, xs, rfl, hx, hO, hD⟩
  obtain ⟨b, hB⟩ := code_bool xs
  obtain ⟨s, hs, hsz, _, _⟩ := ctV_form hB
  have HBb : Hid (b = true ↔ CodeR xs) := hB
  obtain ⟨q, c, hv, hr⟩ := hO.rd
  subst hv
  have HR : Hid (RdR w2 q xs) := hr
  have HD2 : Hid (Drawn w1 w2 C w.heap.size a len cap) := hD
  clear hO hr hD hB HCu HCo
  go_wp2_with fail
  refine (codetextS q xs xs.length c b rfl (by omega) HBb.out _ HR.out).mono ?_
  rintro e w3 ⟨rfl, hb3⟩
  rw [hs]
  have HD3 : Hid (Drawn w1 w3 C w.heap.size a len cap) := by
    obtain ⟨⟨i, x, hi, hc⟩, hco, hg⟩ := HD2.out
    exact ⟨⟨i, x, hi, row_after hc hb3 (row_lt hc)⟩, code_below hco (hb3.mono (Nat.le_trans s1 hg.size)), ⟨hb3.os.trans hg.os, hb3.tape.trans hg.tape, hb3.output.trans hg.output, Nat.le_trans hg.size hb3.size, fun k hk hne => (hb3.block k (Nat.lt_of_lt_of_le hk hg.size)).trans (hg.block k hk hne)⟩⟩
  clear hb3 hs HR HD2 HBb
  go_wp2_with fail
  refine (onceR C w.heap.size a len cap 3 (by omega) (by omega) _ HD3.out.1 hC HD3.out.2.1).mono ?_
  rintro e w4 ⟨b4, rfl, hD⟩
  have HD4 : Hid (Drawn w1 w4 C w.heap.size a len cap) := drawn_trans HD3.out hD
  clear hD HD3
  cases b4
  · have HB4 : Hid (Below w.heap.size w w4) := drawn_below HB1.out hC HD4.out
    go_wp2
    go_ret
    exact ⟨s, rfl, by omega, HB4.out⟩
  · go_wp2_with fail
    refine (spoiltD C w.heap.size a len cap s (by omega) _ HD4.out.1 hC HD4.out.2.1).mono ?_
    rintro e w5 ⟨t, rfl, ht, hD⟩
    have HB5 : Hid (Below w.heap.size w w5) := drawn_below HB1.out hC (drawn_trans HD4.out hD)
    clear hD HD4 HB1
    go_wp2
    go_ret
    exact ⟨t, rfl, by omega, HB5.out⟩

set_option maxRecDepth 100000 in
set_option maxHeartbeats 4000000 in
theorem codes_in (a : Option Addr) (len cap : Nat) (hb : len ≤ 1048576) (w : World) (hcode : CodeOk w w.heap.size a len) :
    Calls Try.prog 3 #[.slice a len cap] w fun e w' => e = .returned (.bool true) ∧ Below w.heap.size w w' := by
  have HC : Hid (CodeOk w w.heap.size a len) := hcode
  clear hcode
  go_enter Try.func3, Try.ntmps3
  go_wp2_with fail
  refine (big5 a len cap (by omega) _).mono ?_
  rintro e w1 ⟨rfl, rfl⟩
  rw [decide_eq_false (by omega)]
  go_wp2_with fail
  refine (drawCT a len cap _ HC.out).mono ?_
  rintro e w2 ⟨v, xs, rfl, hx, hO, hb2⟩
  obtain ⟨b, hB⟩ := code_bool xs
  obtain ⟨s, hs, hsz, hst, hsf⟩ := ctV_form hB
  obtain ⟨q, c, hv, hr⟩ := hO.rd
  subst hv
  have HBb : Hid (b = true ↔ CodeR xs) := hB
  have HB2 : Hid (Below w1.heap.size w1 w2) := hb2
  have HR2 : Hid (RdR w2 q xs) := hr
  have hright : RcOk s := by
    cases b
    · rw [hsf rfl]; exact rc_empty
    · rw [hst rfl]; exact (rc_code (hB.1 rfl)).1
  have HRc : Hid (RcOk s) := hright
  have HX : Hid (b = true → rcV s true = xs) := fun h => by rw [hst h]; exact (rc_code (hB.1 h)).2
  clear hO hb2 hr hB hright hst hsf
  go_wp2_with fail
  refine (codetextI q xs xs.length c b rfl (by omega) HBb.out _ HR2.out).mono ?_
  rintro e w3 ⟨rfl, hb3⟩
  rw [hs]
  have HB3 : Hid (Below w1.heap.size w1 w3) := bel_on (Nat.le_refl _) HB2.out hb3
  have HR3 : Hid (RdR w3 q xs) := HR2.out.on hb3
  clear hb3 hs HR2 HB2
  go_wp2_with fail
  refine (readcodeI s (by omega) true ⟨fun _ => HRc.out, fun _ => rfl⟩ _).mono ?_
  rintro e w4 ⟨vx, rfl, hox, hb4⟩
  obtain ⟨qx, cx, hvx, hrx⟩ := hox.rd
  subst hvx
  have HB4 : Hid (Below w1.heap.size w1 w4) := bel_on (Nat.le_refl _) HB3.out hb4
  have HR4 : Hid (RdR w4 q xs) := HR3.out.on hb4
  have HRX : Hid (RdR w4 qx (rcV s true)) := hrx
  clear hox hb4 hrx HR3 HB3
  obtain ⟨nx, HNX⟩ : ∃ nx, Hid ((rcV s true).length = nx) := ⟨_, rfl⟩
  rw [HNX.out]
  go_upto_region 6 with fail
  go_cut [51] (fun v wc => v = .bool false ∧ Hid (Below w1.heap.size w1 wc))
  case first =>
    go_wp2_with fail
    refine (codeokS q xs xs.length c b rfl (by omega) HBb.out _ HR4.out).mono ?_
    rintro e w5 ⟨rfl, rfl⟩
    have hbb : (b != b) = false := by cases b <;> rfl
    go_wp2_with fail
    refine (codeokI q xs xs.length c b rfl (by omega) HBb.out _ HR4.out).mono ?_
    rintro e w6 ⟨rfl, hb6⟩
    have HB6 : Hid (Below w1.heap.size w1 w6) := bel_on (Nat.le_refl _) HB4.out hb6
    have HR6 : Hid (RdR w6 q xs) := HR4.out.on hb6
    have HRX6 : Hid (RdR w6 qx (rcV s true)) := HRX.out.on hb6
    clear hb6 HR4 HB4 HRX
    cases b
    · go_wp2
      go_meet
      exact ⟨rfl, HB6⟩
    · have hxx := HX.out rfl
      have hRX := HRX6.out
      rw [hxx] at hRX
      have HRY : Hid (RdR w6 qx xs) := hRX
      have HNN : Hid (xs.length = nx) := by rw [← HNX.out, hxx]; rfl
      clear hRX hxx HRX6
      go_wp2_with fail
      refine (sameIn' qx q xs nx xs.length cx c HNN.out rfl (by have := HNN.out; omega) _ HRY.out HR6.out).mono ?_
      rintro e w7 ⟨rfl, hb7⟩
      have HB7 : Hid (Below w1.heap.size w1 w7) := bel_on (Nat.le_refl _) HB6.out hb7
      clear hb7 HR6 HRY HB6
      go_wp2
      go_meet
      exact ⟨rfl, HB7⟩
  case rest =>
  rename World => w8
  obtain ⟨rfl, HB8⟩ := hcut
  clear HR4 HRX HB4 HX HBb HRc HNX
  have HC8 : Hid (CodeOk w8 w8.heap.size a len) := by
    have h1 := code_below HC.out HB8.out
    refine ⟨h1.1, fun hp => ?_⟩
    obtain ⟨b', off, h2, h3, h4⟩ := h1.2 hp
    exact ⟨b', off, h2, Nat.lt_of_lt_of_le h3 HB8.out.size, h4⟩
  go_wp2_with fail
  refine (drawRC a len cap _ HC8.out).mono ?_
  rintro e w9 ⟨t, rfl, ht, hb9⟩
  have HB9 : Hid (Below w1.heap.size w1 w9) := bel_on (Nat.le_refl _) HB8.out hb9
  obtain ⟨r, hR⟩ := rc_bool t
  have HRr : Hid (r = true ↔ RcOk t) := hR
  have hok : CodeR (rcV t r) := by
    cases r
    · exact code_nil
    · exact (code_rc (hR.1 rfl)).1
  have HK : Hid (CodeR (rcV t r)) := hok
  have hlen := rcV_len hR
  clear hR hok hb9 HB8 HC8
  go_wp2_with fail
  refine (readcodeI t (by omega) r HRr.out _).mono ?_
  rintro e w10 ⟨vy, rfl, hoy, hb10⟩
  obtain ⟨qy, cy, hvy, hry⟩ := hoy.rd
  subst hvy
  have HB10 : Hid (Below w1.heap.size w1 w10) := bel_on (Nat.le_refl _) HB9.out hb10
  have HRY : Hid (RdR w10 qy (rcV t r)) := hry
  clear hoy hb10 hry HB9
  go_wp2_with fail
  refine (readcodeS t (by omega) r HRr.out _).mono ?_
  rintro e w11 ⟨vz, rfl, _, hb11⟩
  have HB11 : Hid (Below w1.heap.size w1 w11) := bel_on (Nat.le_refl _) HB10.out hb11
  have HRY11 : Hid (RdR w11 qy (rcV t r)) := HRY.out.on hb11
  clear hb11 HB10 HRY
  go_wp2_with fail
  refine (codetextI qy (rcV t r) (rcV t r).length cy true rfl (by omega) ⟨fun _ => HK.out, fun _ => rfl⟩ _ HRY11.out).mono ?_
  rintro e w12 ⟨rfl, hb12⟩
  have HB12 : Hid (Below w1.heap.size w1 w12) := bel_on (Nat.le_refl _) HB11.out hb12
  clear hb12 HB11 HRY11
  cases r
  · unfold ctV
    go_wp2
    go_ret
    exact ⟨by simp, HB12.out⟩
  · have hbk := code_back (HRr.out.1 rfl)
    unfold ctV
    rw [hbk]
    go_wp2
    go_ret
    exact ⟨by simp, HB12.out⟩
end Go.Proofs.Ytbcphgmcjickgaa
