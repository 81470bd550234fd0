/-
  Proved: the tied card of FnNumbers: for every list of bytes the call returns true: a drawn number comes back from VarText and Decimal, a drawn text from ShortText and Hex, and the argument reads as before. Conditions: the three listed tables of the library hold what their own initialisers lay (the card ties them to the program's text).
-/
import Derived.Test.YtjnfiefnehlgnaaDoorCards
import Derived.Test.YtjnfiefnehlgnaaDoorTie
import Derived.Test.YtjnfiefnehlgnaaDoorRow
import Derived.Test.YtjnfiefnehlgnaaDoorRound
import Derived.OpenShut
import Derived.ShutString
import Derived.ChangeOld
import Derived.Below
import Derived.Deep.DeepHandedRow
import Derived.Lib.LaidTab
namespace Go.Proofs.YtjnfiefnehlgnaaDoor.fnNumbers
open Go.ChangeShapes Go.WideShapes Go.ChangeAt Go.RowKit Plain
open Go.ChangeMaps (open_string shut_string)
set_option linter.unusedVariables false

theorem own : ownKnob Tryd.prog.godebug = none := by kernel_rfl
theorem laidOut : laidOutB Tryd.prog = true := by kernel_rfl
theorem table {W : World} (h : laidMetH Tryd.prog Rows.fnNumbersRow.laid W) : Tab W := table_of h

theorem big4 (a : Option Addr) (len cap : Nat) (hl : len ≤ 9223372036854775807) (w : World) :
    Calls Tryd.prog 4 #[.slice a len cap] w fun e w' => e = .returned (.bool (decide (1048576 < (len : Int)))) ∧ w' = w := by
  go_enter Tryd.func4, Tryd.ntmps4
  go_wp2
  go_ret
  exact ⟨rfl, rfl⟩

/-- a number's bytes between two others are read back -/
theorem rv_mid (n : Nat) (hn : n ≤ 1000000000) (w : World) :
    Calls Tryd.prog 7 #[.string ((⟨#[120]⟩ ++ ⟨(vt n).toArray⟩) ++ ⟨#[121]⟩), .int .i64 1] w fun e w' => e = .returned (.tuple #[.int .i64 n, .int .i64 ((vt n).length + 1 : Nat), .bool true]) ∧ Below w.heap.size w w' := by
  have hl := vt_five hn
  have hd : (((⟨#[120]⟩ ++ ⟨(vt n).toArray⟩) ++ ⟨#[121]⟩ : ByteArray)).data.toList = 120 :: (vt n ++ [121]) := by simp
  have hs : (((⟨#[120]⟩ ++ ⟨(vt n).toArray⟩) ++ ⟨#[121]⟩ : ByteArray)).size = (vt n).length + 2 := by rw [size_list, hd]; simp
  have h := rv12 ((⟨#[120]⟩ ++ ⟨(vt n).toArray⟩) ++ ⟨#[121]⟩) 1 (by omega) w
  have hr : rv ((⟨#[120]⟩ ++ ⟨(vt n).toArray⟩) ++ ⟨#[121]⟩) 1 = some ((n : Int), 1 + (vt n).length) := rv_at (a := 1) (post := [121]) hn (by rw [hd]; rfl) (by omega)
  rw [hr] at h
  rw [Nat.add_comm]
  exact h
theorem rd_text (n : Nat) (hn : n ≤ 1000000000) (w : World) (ht : Tab w) :
    Calls Tryd.prog 8 #[.string ⟨(Go.Lib.decDigits n).toArray⟩] w fun e w' => e = .returned (.tuple #[.int .i64 n, .bool true]) ∧ Below w.heap.size w w' := by
  have hl := dec_len10 hn
  refine (rd8 ⟨(Go.Lib.decDigits n).toArray⟩ (by rw [size_list]; simp; omega) w ht).mono ?_
  rintro e w' ⟨r, rfl, hr, hb⟩
  have h2 : Rd (ByteArray.data ⟨(Go.Lib.decDigits n).toArray⟩).toList (some n) := rd_yes hn (by rw [ByteArray.toList_eq]; simp)
  obtain rfl := rd_one h2 hr
  exact ⟨rfl, hb⟩
theorem rs_text (t : ByteArray) (h : t.size ≤ 300) (w : World) :
    Calls Tryd.prog 12 #[.string (⟨(vt t.size).toArray⟩ ++ t), .int .i64 0] w fun e w' => e = .returned (.tuple #[.string t, .int .i64 ((vt t.size).length + t.size : Nat), .bool true]) ∧ Below w.heap.size w w' := by
  have hl := vt_five (n := t.size) (by omega)
  have hd : ((⟨(vt t.size).toArray⟩ ++ t : ByteArray)).data.toList = vt t.size ++ t.data.toList := by simp
  have hs : ((⟨(vt t.size).toArray⟩ ++ t : ByteArray)).size = (vt t.size).length + t.size := by rw [size_list, hd, List.length_append, ← size_list]
  have hc := rs16 (⟨(vt t.size).toArray⟩ ++ t) 0 (by omega) w
  have hr : rv (⟨(vt t.size).toArray⟩ ++ t) 0 = some ((t.size : Int), 0 + (vt t.size).length) := rv_at (a := 0) (post := t.data.toList) (by omega) (by rw [hd]; rfl) (by omega)
  rw [hr, Nat.zero_add, short_yes (by omega) (by omega)] at hc
  have he : (⟨(vt t.size).toArray⟩ ++ t : ByteArray).extract (vt t.size).length ((vt t.size).length + t.size) = t := by
    apply ByteArray.ext
    apply Array.ext'
    rw [ext_list, hd, List.drop_left, Nat.add_sub_cancel_left, List.take_of_length_le (by rw [← size_list]; omega)]
  rw [he] at hc
  exact hc
theorem un_text (t : ByteArray) (h : t.size ≤ 300) (w : World) :
    Calls Tryd.prog 14 #[.string ⟨(hexL t.data.toList).toArray⟩] w fun e w' => e = .returned (.tuple #[.string t, .bool true]) ∧ Below w.heap.size w w' := by
  have hl := hexL_len t.data.toList
  rw [← size_list] at hl
  have hs : (ByteArray.mk (hexL t.data.toList).toArray).size = 2 * t.size := by rw [size_list]; simpa using hl
  have hc := un20 ⟨(hexL t.data.toList).toArray⟩ (by omega) (by omega) w
  rw [hs, show 2 * t.size / 2 = t.data.toList.length by rw [← size_list]; omega, un_back t.data.toList ⟨(hexL t.data.toList).toArray⟩ 0 (by simp)] at hc
  exact hc

theorem vt_size_le {t : ByteArray} (h : t.size ≤ 300) : (vt t.size).length ≤ 5 := vt_five (by omega)

set_option maxHeartbeats 4000000 in
theorem walk (a0 : Option Addr) (len0 cap0 : Nat) (z0 : List Int) (w : World) (w0 : IsRow .u8 w a0 len0 cap0 z0) (ht : Tab w) :
    Calls Tryd.prog 3 #[.slice a0 len0 cap0] w fun e w' => e = .returned (.bool true) ∧ Below w.heap.size w w' := by
  have hlen : len0 ≤ 9223372036854775807 := by
    rcases w0 with ⟨_, h, _⟩ | ⟨x, _, h1, h2, _⟩
    · omega
    · unfold maxLen at h2; omega
  have HT : Hid (Tab w) := ht
  clear ht
  by_cases hb : len0 ≤ 1048576
  · have HC : Hid (CodeOk w w.heap.size a0 len0) := code_of_row w0 hb
    clear w0
    go_enter Tryd.func3, Tryd.ntmps3
    go_wp2_with fail
    refine (big4 a0 len0 cap0 hlen _).mono ?_
    rintro e w1 ⟨rfl, rfl⟩
    rw [decide_eq_false (by omega)]
    go_wp2_with fail
    refine (draw5 w1.heap.size a0 len0 cap0 _ HC.out (Nat.le_refl _)).mono ?_
    rintro e w2 ⟨x, rfl, x0, x1, hb2⟩
    have HT2 : Hid (Tab w2) := tab_below HT.out hb2
    have HC2 : Hid (CodeOk w2 w1.heap.size a0 len0) := code_below HC.out hb2
    clear HT HC
    have s2 := hb2.size
    obtain ⟨n, hn, hcase⟩ : ∃ n : Nat, n ≤ 1000000000 ∧ (x = n ∨ (x < 0 ∧ Hid (n = 12345)) ∨ (1000000000 < x ∧ Hid (n = 12345))) := by
      by_cases hx : 0 ≤ x ∧ x ≤ 1000000000
      · exact ⟨x.toNat, by omega, .inl (by omega)⟩
      · by_cases hx0 : x < 0
        · exact ⟨12345, by omega, .inr (.inl ⟨hx0, rfl⟩)⟩
        · exact ⟨12345, by omega, .inr (.inr ⟨by omega, rfl⟩)⟩
    rcases hcase with rfl | ⟨hx, HN⟩ | ⟨hx, HN⟩
    all_goals
      go_wp2_with fail
      try rw [show (12345 : Int) = (n : Int) by have := HN.out; omega]
      try clear HN
      try clear hx
      refine (var10 n hn _).mono ?_
      rintro e w3 ⟨rfl, hb3⟩
      have hv5 := vt_five hn
      have hvs : (ByteArray.mk (vt n).toArray).size ≤ 5 := by rw [size_list]; simpa using hv5
      go_wp2_with fail
      refine (rv_mid n hn _).mono ?_
      rintro e w4 ⟨rfl, hb4⟩
      have hb24 : Below w2.heap.size w2 w4 := hb3.trans (hb4.mono hb3.size)
      have HT4 : Hid (Tab w4) := tab_below HT2.out hb24
      clear HT2 hb3 hb4
      go_wp2_with fail
      refine (dec6n n hn _ HT4.out).mono ?_
      rintro e w5 ⟨rfl, hb5⟩
      have HT5 : Hid (Tab w5) := tab_below HT4.out hb5
      clear HT4
      go_wp2_with fail
      refine (rd_text n hn _ HT5.out).mono ?_
      rintro e w6 ⟨rfl, hb6⟩
      have hb26 : Below w2.heap.size w2 w6 := (hb24.trans (hb5.mono hb24.size)).trans (hb6.mono (Nat.le_trans hb24.size hb5.size))
      have HC6 : Hid (CodeOk w6 w1.heap.size a0 len0) := code_below HC2.out (hb26.mono s2)
      have hb16 : Below w1.heap.size w1 w6 := hb2.trans (hb26.mono s2)
      have s6 := hb16.size
      clear HT5 hb5 hb6 hb24 hb26 HC2 hb2
      go_wp2_with fail
      refine (draw10 w1.heap.size a0 len0 cap0 _ HC6.out s6).mono ?_
      rintro e w7 ⟨t, rfl, ht, hb7⟩
      have hb17 : Below w1.heap.size w1 w7 := hb16.trans (hb7.mono s6)
      clear hb16 hb7 HC6
      obtain ⟨t', ht', hcase⟩ : ∃ t' : ByteArray, t'.size ≤ 300 ∧ ((t.size ≤ 300 ∧ t = t') ∨ (300 < t.size ∧ Hid (t' = ⟨#[97, 98, 99]⟩))) := by
        by_cases h3 : t.size ≤ 300
        · exact ⟨t, h3, .inl ⟨h3, rfl⟩⟩
        · exact ⟨⟨#[97, 98, 99]⟩, by decide, .inr ⟨by omega, rfl⟩⟩
      rcases hcase with ⟨h3, rfl⟩ | ⟨h3, HT3⟩
      all_goals
        go_wp2_with fail
        try rw [← HT3.out]
        try clear HT3
        refine (st14 _ (Nat.le_trans ht' (by decide)) _).mono ?_
        rintro e w8 ⟨rfl, hb8⟩
        have hv6 := vt_size_le ht'
        go_wp2_with fail
        refine (rs_text _ ht' _).mono ?_
        rintro e w9 ⟨rfl, hb9⟩
        go_wp2_with fail
        refine (hx18 _ (Nat.le_trans ht' (by decide)) _).mono ?_
        rintro e w10 ⟨rfl, hb10⟩
        go_wp2_with fail
        refine (un_text _ ht' _).mono ?_
        rintro e w11 ⟨rfl, hb11⟩
        have hfin : Below w1.heap.size w1 w11 := (((hb17.trans (hb8.mono hb17.size)).trans (hb9.mono (Nat.le_trans hb17.size hb8.size))).trans (hb10.mono (Nat.le_trans (Nat.le_trans hb17.size hb8.size) hb9.size))).trans (hb11.mono (Nat.le_trans (Nat.le_trans (Nat.le_trans hb17.size hb8.size) hb9.size) hb10.size))
        clear hb8 hb9 hb10 hb11 hb17
        go_wp2
        go_ret
        exact ⟨rfl, hfin⟩
  · have hb' : 1048576 < len0 := by omega
    go_enter Tryd.func3, Tryd.ntmps3
    go_wp2_with fail
    refine (big4 a0 len0 cap0 hlen _).mono ?_
    rintro e w1 ⟨rfl, rfl⟩
    rw [decide_eq_true (by omega)]
    go_wp2
    go_ret
    exact ⟨rfl, Below.refl _ _⟩

theorem contract (H : Type) (enc : TypeId × Value → H) (W : World) (base : Nat) (args : Array Value) (ds gs : List (DataW H)) (before : List MemPlace)
    (hval : ∀ (j : Nat) t v, Tryd.f3.params[j]? = some t → args[j]? = some v → Value.okWide Tryd.prog W .any base t v)
    (hW : DataW.Whole enc Tryd.prog Tryd.f3.params.toList Rows.fnNumbersSpec.vars false W args.toList ds gs before) (hL : laidMetH Tryd.prog Rows.fnNumbersRow.laid W) :
    Calls Tryd.prog 3 args W fun e W' => ∃ v, e = .returned v ∧ Rows.fnNumbersSpec.post enc Tryd.prog Tryd.f3 false true false false W args v W' := by
  have hW' := hW
  obtain ⟨p, q, hA0, hV, rfl, hfz, hnd⟩ := hW
  have hA : DataW.TrodAll enc Tryd.prog W 0 (fun _ => true) true Tryd.f3.params.toList args.toList ds p := hA0
  rw [Tryd.params3] at hA hval
  obtain ⟨v0, vs0, d0, ds0, p0, q0, hargs, rfl, rfl, h0, r0⟩ := trodAll_cons hA
  obtain ⟨rfl, rfl, rfl⟩ := trodAll_nil r0
  obtain rfl : args = #[v0] := by cases args; simp_all
  obtain ⟨rfl, rfl⟩ := trodVars_none hV
  obtain ⟨a0, len0, cap0, rfl⟩ := okWide_slice Tryd.underlying22 (hval 0 22 v0 rfl rfl)
  have k0 := h0
  have lt0 : ∀ x ∈ p0, x.block < W.heap.size := by obtain ⟨m, hm⟩ := k0; exact DataW.trod_lt m _ _ _ hm
  obtain ⟨z0, w0⟩ : ∃ zs, IsRow .u8 W a0 len0 cap0 zs := by
    obtain ⟨fuel, hf⟩ := h0
    rcases open_ints Tryd.underlying22 Tryd.underlying5 (by kernel_rfl) hf with ⟨hcs, _⟩ | ⟨x, l, c, zs, hcs, _, hl, hm, hz, _, hcell, hwz⟩
    · simp [Value.cells] at hcs
      obtain ⟨rfl, rfl, rfl⟩ := hcs
      exact ⟨[], .inl ⟨rfl, rfl, rfl, rfl⟩⟩
    · simp [Value.cells] at hcs
      obtain ⟨rfl, rfl, rfl⟩ := hcs
      exact ⟨zs, .inr ⟨_, rfl, hl, hm, by simpa using hz, hcell, hwz⟩⟩
  clear hA0
  refine (walk a0 len0 cap0 z0 W w0 (table hL)).mono fun e W' ⟨he, bel⟩ => ?_
  subst he
  exact ⟨_, rfl, _, _, _, [], _, [], hW', trodAll_mk1 (shut_bool Tryd.underlying4 _), (trodAll_cons_mk (Below.trod laidOut (by kernel_rfl) (of_decide_eq_true (by kernel_rfl)) k0 bel lt0) trodAll_mk0), rfl, bel.frame _, fun h => by cases h⟩

theorem laid_met (os : Os) : laidMet Tryd.prog Rows.fnNumbersRow.laid ((layW (World.holding Tryd.prog os ⟨#[], #[], []⟩)).forCall (fun _ _ => 0) ⟨#[], #[.slice none 0 0], []⟩).memory :=
  laidMet_of_run' 8 (by kernel_rfl) (by kernel_rfl)
theorem reads (os : Os) {H : Type} (enc : TypeId × Value → H) : ∃ places, DataW.whole enc Tryd.prog ((layW (World.holding Tryd.prog os ⟨#[], #[], []⟩)).forCall (fun _ _ => 0) ⟨#[], #[.slice none 0 0], []⟩).memory Tryd.f3.params.toList Rows.fnNumbersSpec.vars false #[Value.slice none 0 0].toList 8 = some ([.nil], [], places) :=
  ⟨[], by kernel_rfl⟩

set_option maxRecDepth 100000 in
theorem lifted (os : Os) (started : os.Started) (H : Type) (enc : TypeId × Value → H) (F : Stop.Interp) :
    ReturnsInHanded {} Tryd.checked os 3 .any ((OpenSpec.ofChange Rows.fnNumbersSpec).preRow enc Tryd.prog Tryd.f3 Rows.fnNumbersRow.domain false Rows.fnNumbersRow.laid) (((OpenSpec.ofChange Rows.fnNumbersSpec).at F).post enc Tryd.prog Tryd.f3 false true false false) := by
  obtain ⟨places, hx⟩ := reads os enc
  refine returnsInHanded_of_row (C := Tryd.checked) (s := OpenSpec.ofChange Rows.fnNumbersSpec) own started (by kernel_rfl) Tryd.func3
    (witness_row_at (enc := enc) (C := Tryd.checked) false (layW (World.holding Tryd.prog os ⟨#[], #[], []⟩)) #[.slice none 0 0] rfl (by kernel_rfl) (by kernel_rfl) (by kernel_rfl)
      (OpenSpec.preRow_of_cond 8 hx (by kernel_rfl) (fun k hk => by cases hk) (by kernel_rfl) (laid_met os))) ?_
  intro W base args ds gs before hval hW _ _ _ hL _ _
  exact contract H enc W base args ds gs before hval hW hL

theorem said : Rows.FnNumbersSaid :=
  OpenClaim.holds_of_cond 3 Tryd.f3 rfl rfl rfl rfl rfl rfl rfl ⟨rfl, rfl, rfl, rfl, rfl⟩ rfl rfl rfl rfl rfl (by kernel_rfl) Tryd.func3 (by kernel_rfl)
    (of_decide_eq_true (by kernel_rfl)) (by unfold Func.isWrapper; first | (rw [if_pos (by decide +kernel)]; kernel_rfl) | (rw [if_neg (by decide +kernel)]; exact ⟨rfl, rfl⟩))
    (fun os started H enc _ F => by rw [OpenClaim.pre_eq_preRow]; exact lifted os started H enc F)

theorem plain (f : FuncId) (fn : Func) (hf : Tryd.pinned.checked.prog.funcNamed Rows.fnNumbersRow.func = some f) (hfn : Tryd.pinned.checked.prog.funcs[f]? = some fn) :
    false = Tryd.pinned.checked.prog.looks [] ∧ ∀ (j : Nat) t, fn.params[j]? = some t → Tryd.pinned.checked.prog.wantsStandIn t = false := by
  obtain rfl : f = 3 := Option.some.inj ((show Tryd.prog.funcNamed Rows.fnNumbersRow.func = some 3 by kernel_rfl).symm.trans hf) |>.symm
  obtain rfl : fn = Tryd.f3 := (Option.some.inj (Tryd.func3.symm.trans hfn)).symm
  refine ⟨by kernel_rfl, fun j t ht => ?_⟩
  rw [Tryd.params3] at ht
  obtain rfl : t = 22 := by simpa using Array.mem_of_getElem? ht
  exact (show Tryd.prog.wantsStandIn 22 = false by kernel_rfl)

theorem card : Rows.FnNumbersCardSaid :=
  Claim7.holds_tied_plain_at .later [] _ _ _ _ said (fun _ h => by cases h) (by kernel_rfl) (fun _ h => by cases h) fnNumbers_row_tie rfl ⟨rfl, rfl⟩ (by kernel_rfl) rfl plain (by kernel_rfl)

end Go.Proofs.YtjnfiefnehlgnaaDoor.fnNumbers
namespace Go.Proofs.YtjnfiefnehlgnaaDoor
theorem fnNumbers_card : Rows.FnNumbersCardSaid :=
  fnNumbers.card
#print axioms fnNumbers_card
end Go.Proofs.YtjnfiefnehlgnaaDoor
