/-
  Plain helpers over this translation: bytes that are owned, texts read byte by byte.
-/
import Derived.Test.YtfhhnelffldggaaGreatDoorChecked
import Derived.Test.YtfhhnelffldggaaGreatDoorRqAA
import Derived.WalkKit
import Derived.ProofKit
import Derived.Handy
import Derived.LoopTactic
import Derived.Below
import Derived.Laws.IdiomStrings
import Derived.PlainAid
import Derived.Deep.RegionWith
import Derived.Deep.RegionHeld3
import Derived.Laws.DeepStrings4
import Derived.Deep.QuietTactic
import Derived.BigQuiet
import Derived.WalkSmall
import Derived.Deep.AppendLies
import Derived.Deep.RegionLaw
import Derived.Laws.BytesArg
import Derived.Deep.LoopGhost
import Derived.WalkMore
import Derived.Laws.BitsAllLaws
import Derived.Test.YtfhhnelffldggaaGreatDoorRqAB
set_option maxRecDepth 100000
set_option maxHeartbeats 16000000
namespace Go.Proofs.YtfhhnelffldggaaGreatDoor.Q
open Go.RowKit Go.PlainAid
set_option linter.unusedVariables false
def bytesV (l : List UInt8) : List Value := l.map (fun b => Value.int .u8 (b.toNat : Int))
theorem info5 : (Tryz.prog.info? 5).map (fun i => (i.zero, i.size, i.bytes)) = some (some (.int .u8 0), 1, 1) := by kernel_rfl
theorem own_empty (w : World) : (w.alloc (.cells #[] 5)).ownsRow w.heap.size 5 1 (.slice (some ⟨w.heap.size, 0, none⟩) 0 0) 0 (bytesV []) :=
  ⟨rfl, Or.inr ⟨_, 0, #[], rfl, Nat.le_refl _, by show (w.heap.push _)[w.heap.size]? = _; simp, Nat.le_refl _, by decide, rfl, rfl⟩⟩
theorem one_cell (wr : World) (x : Value) (a : Addr) (ha : a = ⟨wr.heap.size, 0, none⟩) : ∀ j u, [x][j]? = some u → (wr.alloc (.cells #[x] 5)).cell? (a.add j) = some u := by
  intro j u hj
  subst ha
  match j, hj with
  | 0, hj => simp at hj; subst hj; simp [Addr.add]
theorem own_string {wr : World} {B : Nat} {v : Value} {xs : List UInt8} (h : wr.ownsRow B 5 1 v xs.length (bytesV xs)) (h0 : 0 < xs.length) :
    ∃ g cap, v = .slice (some ⟨g, 0, none⟩) xs.length cap ∧ (convert 22 9 v).run Tryz.prog wr = .ok (.string ⟨xs.toArray⟩) wr := by
  have h' := h
  rcases h.2 with ⟨rfl, e⟩ | ⟨g, cap, cur, rfl, hg, hh, hnc, hcp, hcs, htake⟩
  · omega
  · refine ⟨g, cap, rfl, run_convert_bytes_back (P := Tryz.prog) wr 22 9 5 ⟨g, 0, none⟩ cap xs Tryz.underlying22 Tryz.underlying5 Tryz.underlying9 fun j hj => ?_⟩
    rw [Addr.add_lit, Nat.zero_add, h'.cellAt j (by omega)]
    simp [bytesV, hj]
theorem own_ge {wr : World} {B n : Nat} {v : Value} {xs : List Value} (h : wr.ownsRow B 5 1 v n xs) : ∀ k, v.ownBlock = some k → B ≤ k := by
  intro k hk
  rcases h.2 with ⟨rfl, e⟩ | ⟨g, cap, cur, rfl, hg, _⟩
  · simp [Value.ownBlock] at hk
  · simp [Value.ownBlock] at hk; omega
theorem take_all (s : ByteArray) (k : Nat) (h : ¬ k < s.size) : s.data.toList.take k = s.data.toList :=
  List.take_of_length_le (by rw [Array.length_toList]; show s.size ≤ k; omega)
theorem ix_run (s : ByteArray) (k : Nat) (h : k < s.size) (w : World) : (Instr.index 9 (.string s) (.int .i64 (k : Int))).run Tryz.prog w = .ok (.int .u8 (s[k].toNat : Int)) w := by
  have hx : 0 ≤ (k : Int) ∧ (k : Int) < s.size := by omega
  rw [run_index_string w 9 _ .i64 (k : Int) Tryz.underlying9, dif_pos hx]
  rfl
def Tab (w : World) : Prop := ∀ r : Nat, r < 16 → w.cell? ⟨0, r, none⟩ = some (.int .u32 (tab r : Nat))
theorem with14 (x : Nat) (hx : x < 4294967296) (c : UInt8) (w : World) (ht : Tab w) :
    Calls Tryz.prog 191 #[.int .u32 (x : Int), .int .u8 (c.toNat : Int)] w fun e w' => e = .returned (.int .u32 (eight (x ^^^ c.toNat) : Nat)) ∧ w' = w := by
  have hc := c.toNat_lt
  have e1 : bits .xor .u32 (x : Int) (c.toNat : Int) = ((x ^^^ c.toNat : Nat) : Int) := u32_xor_nat _ _ hx (by omega)
  have hy := byte_lt hx c
  unfold eight
  generalize x ^^^ c.toNat = y at *
  have e2 : bits .xor .u32 ((y : Int) / 16) (tab (y % 16) : Nat) = (fourH y : Nat) := by rw [show (y : Int) / 16 = ((y / 16 : Nat) : Int) from rfl]; rw [u32_xor_nat _ _ (by omega) (tab_lt _), ← fourH_tab]
  have c2 := ht (y % 16) (by omega)
  have hz := fourH_lt hy
  generalize fourH y = z at *
  have e3 : bits .xor .u32 ((z : Int) / 16) (tab (z % 16) : Nat) = (fourH z : Nat) := by rw [show (z : Int) / 16 = ((z / 16 : Nat) : Int) from rfl]; rw [u32_xor_nat _ _ (by omega) (tab_lt _), ← fourH_tab]
  have c3 := ht (z % 16) (by omega)
  generalize fourH z = u at *
  generalize c.toNat = cn at *
  clear ht
  go_enter Tryz.func191, Tryz.ntmps191
  go_wp2
  go_ret
  exact ⟨rfl, rfl⟩
end Go.Proofs.YtfhhnelffldggaaGreatDoor.Q
namespace Go.Proofs.YtfhhnelffldggaaGreatDoor.V
open Go.RowKit Plain Go.PlainAid
set_option linter.unusedVariables false
theorem rvF_fin {s : ByteArray} {a f k : Nat} {N S : Int} (h : k < s.size) (h' : bt s k < 128) : rvF s a (f + 1) k N S = fin s a (k + 1) (N + bt s k % 128 * S) := by
  rw [rvF, if_pos h, if_pos h']
theorem rvF_on {s : ByteArray} {a f k : Nat} {N S : Int} (h : k < s.size) (h' : ¬ bt s k < 128) : rvF s a (f + 1) k N S = rvF s a f (k + 1) (N + bt s k % 128 * S) (S * 128) := by
  rw [rvF, if_pos h, if_neg h']
theorem rvF_end {s : ByteArray} {a f k : Nat} {N S : Int} (h : ¬ k < s.size) : rvF s a f k N S = none := by
  cases f with
  | zero => rfl
  | succ f => rw [rvF, if_neg h]
theorem exact23' (N B : Int) (s : ByteArray) (a b : Nat) (hB : B = b) (hs : s.size ≤ 1048576) (hab : a ≤ b) (hb : b ≤ s.size) (h0 : 0 ≤ N) (hN : N ≤ 9223372036854775807) (w : World) :
    Calls Tryz.prog 190 #[.int .i64 N, .string s, .int .i64 a, .int .i64 B] w fun e w' => e = .returned (enc3 (fin s a b N)) ∧ Below w.heap.size w w' := by
  subst hB; exact exact23 N s a b hs hab hb h0 hN w
theorem rv12_in (s : ByteArray) (a : Nat) (hs : s.size ≤ 1048576) (ha : a ≤ s.size) (w : World) :
    Calls Tryz.prog 183 #[.string s, .int .i64 a] w fun e w' => e = .returned (enc3 (rvF s a 5 a 0 1)) ∧ Below w.heap.size w w' := by
  have hbt := get_bt s
  go_enter Tryz.func183, Tryz.ntmps183
  go_wp2
  go_loopw [7, 8, 9] (fun n v i wr => ∃ (N : Int) (j f : Nat), f + j = 5 ∧ a + j ≤ s.size ∧ n = .int .i64 N ∧ v = .int .i64 (sc j) ∧ i = .int .i64 (a + j : Nat) ∧ 0 ≤ N ∧ N < sc j ∧ Hid (rvF s a 5 a 0 1 = rvF s a f (a + j) N (sc j)) ∧ wr = w) (fun _ _ i _ => s.size - (intOf i).toNat)
  case atStart => exact ⟨0, 0, 5, rfl, ha, rfl, rfl, rfl, by decide, by decide, (show Hid _ from rfl), rfl⟩
  case round =>
    obtain ⟨N, j, f, hf, hk, rfl, rfl, rfl, h0, hN, H, rfl⟩ := hrel
    obtain ⟨k, hkk⟩ : ∃ k, k = a + j := ⟨_, rfl⟩
    rw [← hkk] at hk H ⊢
    have ha' : a ≤ k := by omega
    have hsc := sc_pos j
    by_cases h1 : k < s.size
    · have hb0 := bt_nonneg s k
      have hb1 := bt_le s k
      have hP := prod_bd (bt s k) (sc j) hsc
      by_cases h2 : j < 5
      · have hle := sc_le j h2
        obtain ⟨f, rfl⟩ : ∃ f', f = f' + 1 := ⟨f - 1, by omega⟩
        by_cases h3 : bt s k < 128
        · rw [rvF_fin h1 h3] at H
          have H2 : Hid (k = a + j) := hkk
          clear hkk
          go_wp2_with fail
          refine (exact23' (N + bt s k % 128 * sc j) (k + 1) s a (k + 1) (by omega) hs (by omega) (by omega) (by omega) (by omega) _).mono ?_
          rintro e w1 ⟨rfl, hb⟩
          rw [← H.out]
          rcases hR : rvF s a 5 a 0 1 with _ | ⟨M, c⟩
          · have HR : Hid (rvF s a 5 a 0 1 = none) := hR
            clear hR
            simp only [enc3]
            go_wp2
            go_ret3
            exact ⟨by rw [HR.out]; rfl, hb⟩
          · have HR : Hid (rvF s a 5 a 0 1 = some (M, c)) := hR
            clear hR
            simp only [enc3]
            go_wp2
            go_ret3
            exact ⟨by rw [HR.out]; rfl, hb⟩
        · rw [rvF_on h1 h3] at H
          have H2 : Hid (k = a + j) := hkk
          clear hkk
          go_wp2_with fail
          go_roundw
          case rel => exact ⟨N + bt s k % 128 * sc j, j + 1, f, by omega, by have := H2.out; omega, by go_num, by simp [sc], by have := H2.out; go_num, by omega, by simp only [sc]; omega, (by have e := H2.out; rw [show a + (j + 1) = k + 1 by omega]; exact H), trivial⟩
          case measure => simp [intOf]; omega
      · have h5 : j = 5 := by omega
        subst h5
        have hfz : f = 0 := by omega
        subst hfz
        rw [sc_five] at *
        have H2 : Hid (k = a + 5) := hkk
        clear hkk
        go_wp2
        go_ret3
        exact ⟨by rw [H.out]; rfl, Below.refl _ _⟩
    · rw [rvF_end h1] at H
      have H2 : Hid (k = a + j) := hkk
      clear hkk
      go_wp2
      go_ret3
      exact ⟨by rw [H.out]; rfl, Below.refl _ _⟩
theorem cut_run (s : ByteArray) (a k : Nat) (h : a ≤ k + 1) (h1 : k < s.size) (w : World) :
    (Instr.slice 9 (.string s) (some (.int .i64 (a : Int))) (some (.int .i64 ((k : Int) + 1))) none).run Tryz.prog w = .ok (.string (s.extract a (k + 1))) w := by
  rw [run_slice_string_if w 9 s .i64 .i64 (a : Int) ((k : Int) + 1) Tryz.underlying9, if_pos (by omega), if_pos (by omega)]
  rfl
theorem var22' (N : Int) (h0 : 0 ≤ N) (hN : N ≤ 1000000000) (w : World) :
    Calls Tryz.prog 160 #[.int .i64 N] w fun e w' => e = .returned (.string ⟨(vt N.toNat).toArray⟩) ∧ Below w.heap.size w w' := by
  obtain ⟨n, rfl⟩ := Int.eq_ofNat_of_zero_le h0
  exact var22 n (by omega) w
theorem rv11_in (s : ByteArray) (a : Nat) (hs : s.size ≤ 1048576) (ha : a ≤ s.size) (w : World) :
    Calls Tryz.prog 158 #[.string s, .int .i64 a] w fun e w' => e = .returned (enc3 (rvF s a 5 a 0 1)) ∧ Below w.heap.size w w' := by
  have hbt := get_bt s
  go_enter Tryz.func158, Tryz.ntmps158
  go_wp2_with fail
  refine (in21 _ _ _ _).mono ?_
  rintro e w' ⟨rfl, rfl⟩
  rw [decide_eq_true (by omega)]
  go_wp2
  go_loopw [7, 8, 9] (fun n v i wr => ∃ (N : Int) (j f : Nat), f + j = 5 ∧ a + j ≤ s.size ∧ n = .int .i64 N ∧ v = .int .i64 (sc j) ∧ i = .int .i64 (a + j : Nat) ∧ 0 ≤ N ∧ N < sc j ∧ Hid (rvF s a 5 a 0 1 = rvF s a f (a + j) N (sc j)) ∧ wr = w') (fun _ _ i _ => s.size - (intOf i).toNat)
  case atStart => exact ⟨0, 0, 5, rfl, ha, rfl, rfl, rfl, by decide, by decide, (show Hid _ from rfl), rfl⟩
  case round =>
    obtain ⟨N, j, f, hf, hk, rfl, rfl, rfl, h0, hN, H, rfl⟩ := hrel
    obtain ⟨k, hkk⟩ : ∃ k, k = a + j := ⟨_, rfl⟩
    rw [← hkk] at hk H ⊢
    have ha' : a ≤ k := by omega
    have hsc := sc_pos j
    have H2 : Hid (k = a + j) := hkk
    by_cases h1 : k < s.size
    · have hb0 := bt_nonneg s k
      have hb1 := bt_le s k
      have hP := prod_bd (bt s k) (sc j) hsc
      by_cases h2 : j < 5
      · have hle := sc_le j h2
        have hk5 : k < a + 5 := by omega
        clear hkk
        obtain ⟨f, rfl⟩ : ∃ f', f = f' + 1 := ⟨f - 1, by omega⟩
        by_cases h3 : bt s k < 128
        · rw [rvF_fin h1 h3] at H
          go_wp2
          have hM0 : 0 ≤ N + bt s k % 128 * sc j := by omega
          have hsl := cut_run s a k (by omega) h1
          have hwr : IntKind.i64.wrap ((k : Int) + 1) = (k : Int) + 1 := IntWalk.i64_in _ (by omega)
          generalize hM : N + bt s k % 128 * sc j = M at *
          clear hM hP hN h0 hsc hle hb0 hb1 h3 hf h2 hk5
          by_cases h4 : M ≤ 1000000000
          · have hd : decide (1000000000 < M) = false := by simp; omega
            cases e : vt M.toNat == (s.extract a (k + 1)).toList
            · rw [fin_no e] at H
              go_region_held3 (fun _ => True) (trivial) (first | (go_at_call 160; refine (var22' _ hM0 h4 _).mono ?_; rintro e w1 ⟨rfl, hb⟩))
              go_wp2
              go_ret3
              exact ⟨by rw [H.out]; rfl, (Below.refl _ _).drew.trans hb⟩
            · rw [fin_yes h4 e] at H
              go_region_held3 (fun _ => True) (trivial) (first | (go_at_call 160; refine (var22' _ hM0 h4 _).mono ?_; rintro e w1 ⟨rfl, hb⟩))
              go_wp2
              go_ret3
              exact ⟨by rw [H.out]; rfl, (Below.refl _ _).drew.trans hb⟩
          · rw [fin_big h4] at H
            have hd : decide (1000000000 < M) = true := by simp; omega
            go_quiet (fail)
            go_wp2
            go_ret3
            exact ⟨by rw [H.out]; rfl, below_drewN (Below.refl _ _) _⟩
        · rw [rvF_on h1 h3] at H
          go_wp2_with fail
          go_roundw
          case rel => exact ⟨N + bt s k % 128 * sc j, j + 1, f, by omega, by have := H2.out; omega, by go_num, by simp [sc], by have := H2.out; go_num, by omega, by simp only [sc]; omega, (by have e := H2.out; rw [show a + (j + 1) = k + 1 by omega]; exact H), trivial⟩
          case measure => simp [intOf]; omega
      · have hk5 : a + 5 ≤ k := by omega
        have hfz : f = 0 := by omega
        subst hfz
        clear hkk
        go_wp2
        go_ret3
        exact ⟨by rw [H.out]; rfl, Below.refl _ _⟩
    · rw [rvF_end h1] at H
      clear hkk
      go_wp2
      go_ret3
      exact ⟨by rw [H.out]; rfl, Below.refl _ _⟩
theorem rv11 (s : ByteArray) (a : Int) (hs : s.size ≤ 1048576) (w : World) :
    Calls Tryz.prog 158 #[.string s, .int .i64 a] w fun e w' => e = .returned (enc3 (rv s a)) ∧ Below w.heap.size w w' := by
  by_cases h : 0 ≤ a ∧ a ≤ s.size
  · obtain ⟨n, rfl⟩ := Int.eq_ofNat_of_zero_le h.1
    rw [rv, if_pos h]
    exact rv11_in s n hs (by omega) w
  · rw [rv, if_neg h]
    go_enter Tryz.func158, Tryz.ntmps158
    go_wp2_with fail
    refine (in21 _ _ _ _).mono ?_
    rintro e w' ⟨rfl, rfl⟩
    rw [decide_eq_false h]
    clear h
    go_wp2
    go_ret3
    exact ⟨rfl, Below.refl _ _⟩
theorem rv12 (s : ByteArray) (a : Int) (hs : s.size ≤ 1048576) (w : World) :
    Calls Tryz.prog 183 #[.string s, .int .i64 a] w fun e w' => e = .returned (enc3 (rv s a)) ∧ Below w.heap.size w w' := by
  by_cases h : 0 ≤ a ∧ a ≤ s.size
  · obtain ⟨n, rfl⟩ := Int.eq_ofNat_of_zero_le h.1
    rw [rv, if_pos h]
    exact rv12_in s n hs (by omega) w
  · rw [rv, if_neg h]
    by_cases h1 : a < 0
    · go_enter Tryz.func183, Tryz.ntmps183
      go_wp2
      go_ret3
      exact ⟨rfl, Below.refl _ _⟩
    · have h2 : s.size < a := by omega
      clear h
      go_enter Tryz.func183, Tryz.ntmps183
      go_wp2
      go_ret3
      exact ⟨rfl, Below.refl _ _⟩
theorem bt_drop {s : ByteArray} {k : Nat} {b : UInt8} {l : List UInt8} (h : s.data.toList.drop k = b :: l) : k < s.size ∧ bt s k = (b.toNat : Int) ∧ s.data.toList.drop (k + 1) = l := by
  have hk : k < s.data.toList.length := by
    rcases Nat.lt_or_ge k s.data.toList.length with h' | h'
    · exact h'
    · rw [List.drop_of_length_le h'] at h; cases h
  have hk' : k < s.size := by rw [Array.length_toList] at hk; exact hk
  have e := List.drop_eq_getElem_cons hk
  rw [h] at e
  injection e with e1 e2
  refine ⟨hk', ?_, e2.symm⟩
  rw [← get_bt s k hk', e1]
  rfl
theorem ext_list (s : ByteArray) (a b : Nat) : (s.extract a b).data.toList = (s.data.toList.drop a).take (b - a) := by
  rw [ByteArray.data_extract, Array.toList_extract]
theorem rv_back : ∀ (f : Nat) (s : ByteArray) (a k m : Nat) (N S : Int) (post : List UInt8), (vt m).length ≤ f → s.data.toList.drop k = vt m ++ post → rvF s a f k N S = fin s a (k + (vt m).length) (N + (m : Int) * S)
  | 0, s, a, k, m, N, S, post, hf, _ => absurd (vt_pos m) (by omega)
  | f + 1, s, a, k, m, N, S, post, hf, hd => by
    by_cases hb : 127 < m
    · have hv := vt_big hb
      rw [hv] at hd hf ⊢
      simp only [List.cons_append] at hd
      obtain ⟨h1, h2, h3⟩ := bt_drop hd
      rw [toNat_big] at h2
      have hn : ¬ bt s k < 128 := by omega
      have hm : bt s k % 128 = (m : Int) % 128 := by omega
      rw [rvF_on h1 hn, rv_back f s a (k + 1) (m / 128) _ _ post (by simpa using hf) h3, hm]
      congr 1
      · simp only [List.length_cons]; omega
      · have e : (m : Int) = (m : Int) % 128 + 128 * ((m / 128 : Nat) : Int) := by omega
        conv => rhs; rw [e, Int.add_mul]
        rw [Int.add_assoc, Int.mul_assoc, Int.mul_comm 128 _, Int.mul_assoc]
    · have hv := vt_small hb
      rw [hv] at hd ⊢
      simp only [List.cons_append, List.nil_append] at hd
      obtain ⟨h1, h2, h3⟩ := bt_drop hd
      rw [toNat_small hb] at h2
      have hn : bt s k < 128 := by omega
      have hm : bt s k % 128 = (m : Int) := by omega
      rw [rvF_fin h1 hn, hm]
      rfl
theorem vt_short : ∀ (f n : Nat), n < 128 ^ (f + 1) → (vt n).length ≤ f + 1
  | 0, n, h => by rw [vt_small (by simp at h; omega)]; simp
  | f + 1, n, h => by
    by_cases hb : 127 < n
    · rw [vt_big hb]
      have := vt_short f (n / 128) (by rw [Nat.pow_succ] at h; omega)
      simp only [List.length_cons]; omega
    · rw [vt_small hb]; simp
theorem vt_five {n : Nat} (h : n ≤ 1000000000) : (vt n).length ≤ 5 := by
  have e : (128 : Nat) ^ (4 + 1) = 34359738368 := by decide
  exact vt_short 4 n (by omega)
theorem rv_at {s : ByteArray} {a n : Nat} {post : List UInt8} (hn : n ≤ 1000000000) (hd : s.data.toList.drop a = vt n ++ post) (ha : a ≤ s.size) : rv s (a : Int) = some ((n : Int), a + (vt n).length) := by
  unfold rv
  rw [if_pos (by omega), show (a : Int).toNat = a from rfl, rv_back 5 s a a n 0 1 post (vt_five hn) hd]
  rw [show (0 : Int) + (n : Int) * 1 = (n : Int) by omega]
  refine fin_yes (by omega) ?_
  rw [ByteArray.toList_eq, ext_list, hd]
  simp
theorem size_list (s : ByteArray) : s.size = s.data.toList.length := (Array.length_toList ..).symm
end Go.Proofs.YtfhhnelffldggaaGreatDoor.V
namespace Go.Proofs.YtfhhnelffldggaaGreatDoor.Q
open Go.RowKit Go.PlainAid
set_option linter.unusedVariables false
theorem tab_below {w w' : World} (ht : Tab w) (hb : Below w.heap.size w w') : Tab w' := by
  intro r hr
  have h := ht r hr
  have hlt : 0 < w.heap.size := World.block_lt_of_cell? _ _ h
  unfold World.cell? at h ⊢
  rw [hb.block 0 hlt]
  exact h
theorem more12 (x : Nat) (hx : x < 4294967296) (s : ByteArray) (hs : s.size ≤ 1048577) (w : World) (ht : Tab w) :
    Calls Tryz.prog 189 #[.int .u32 (x : Int), .string s] w fun e w' => e = .returned (.int .u32 (crc x s.data.toList : Nat)) ∧ w' = w := by
  go_enter Tryz.func189, Tryz.ntmps189
  go_wp2
  go_loopw [5, 6] (fun v i wr => ∃ k : Nat, k ≤ s.size ∧ i = .int .i64 k ∧ v = .int .u32 (crc x (s.data.toList.take k) : Nat) ∧ wr = w) (fun _ i _ => s.size - (intOf i).toNat)
  case atStart => exact ⟨0, Nat.zero_le _, rfl, rfl, rfl⟩
  case round =>
    obtain ⟨k, hk, rfl, rfl, rfl⟩ := hrel
    have hlt' := crc_lt hx (s.data.toList.take k)
    by_cases hlt : k < s.size
    · have HR : Hid (crc x (s.data.toList.take (k + 1)) = eight (crc x (s.data.toList.take k) ^^^ s[k].toNat)) := crc_take x s k hlt
      have hix := ix_run s k hlt
      generalize crc x (s.data.toList.take k) = y at *
      obtain ⟨c, hc⟩ : ∃ c : UInt8, c = s[k] := ⟨_, rfl⟩
      rw [← hc] at hix HR
      clear hc
      go_wp2_with fail
      refine (with14 y hlt' c _ ht).mono ?_
      rintro e w2 ⟨rfl, rfl⟩
      go_wp2
      go_roundw
      case rel => exact ⟨k + 1, by omega, by go_num, by rw [HR.out], by trivial⟩
      case measure => simp [intOf]; omega
    · have HY : Hid (crc x (s.data.toList.take k) = crc x s.data.toList) := by show crc _ _ = _; rw [take_all s k hlt]
      generalize crc x (s.data.toList.take k) = y at *
      go_wp2
      go_ret
      exact ⟨by rw [← HY.out]; rfl, rfl⟩
theorem sum8 (s : ByteArray) (hs : s.size ≤ 1048577) (w : World) (ht : Tab w) :
    Calls Tryz.prog 181 #[.string s] w fun e w' => e = .returned (.int .u32 (crc 4294967295 s.data.toList : Nat)) ∧ w' = w := by
  go_enter Tryz.func181, Tryz.ntmps181
  go_wp2_with fail
  refine (more12 4294967295 (by omega) s hs _ ht).mono ?_
  rintro e w2 ⟨rfl, rfl⟩
  go_wp2
  go_ret
  exact ⟨rfl, rfl⟩
theorem fourB_at (x : Nat) (hx : x < 4294967296) : bytesV (fourB x) = [.int .u8 ((x : Int) / 16777216), .int .u8 ((x : Int) / 65536 % 256), .int .u8 ((x : Int) / 256 % 256), .int .u8 ((x : Int) % 256)] := by
  unfold fourB bytesV
  simp only [List.map_cons, List.map_nil, UInt8.toNat_ofNat', List.cons.injEq, Value.int.injEq, true_and, and_true]
  omega
theorem four_run (x : Nat) (hx : x < 4294967296) (w : World) : (convert 22 9 (.slice (some ⟨w.heap.size, 0, none⟩) 4 4)).run Tryz.prog (w.alloc (.cells #[.int .u8 ((x : Int) / 16777216), .int .u8 ((x : Int) / 65536 % 256), .int .u8 ((x : Int) / 256 % 256), .int .u8 ((x : Int) % 256)] 5)) = .ok (.string ⟨(fourB x).toArray⟩) (w.alloc (.cells #[.int .u8 ((x : Int) / 16777216), .int .u8 ((x : Int) / 65536 % 256), .int .u8 ((x : Int) / 256 % 256), .int .u8 ((x : Int) % 256)] 5)) := by
  refine run_convert_bytes_back (P := Tryz.prog) _ 22 9 5 ⟨w.heap.size, 0, none⟩ 4 (fourB x) Tryz.underlying22 Tryz.underlying5 Tryz.underlying9 ?_
  intro j hj
  have e := fourB_at x hx
  have hj' : j < 4 := hj
  have e' : (bytesV (fourB x))[j]? = some (.int .u8 ((fourB x)[j].toNat : Int)) := by
    unfold bytesV; rw [List.getElem?_map, List.getElem?_eq_getElem hj]; rfl
  refine Eq.trans ?_ e'
  rw [e, Addr.add_lit, Nat.zero_add, cell_of_row _ w.heap.size j _ 5 (0, 0) (heap_alloc_new w _)]
  match j, hj' with
  | 0, _ => rfl
  | 1, _ => rfl
  | 2, _ => rfl
  | 3, _ => rfl
theorem four9 (x : Nat) (hx : x < 4294967296) (w : World) :
    Calls Tryz.prog 182 #[.int .u32 (x : Int)] w fun e w' => e = .returned (.string ⟨(fourB x).toArray⟩) ∧ Below w.heap.size w w' := by
  have hcv := four_run x hx w
  obtain ⟨B, hB⟩ : ∃ B, B = fourB x := ⟨_, rfl⟩
  have HB : Hid (B = fourB x) := hB
  rw [← hB] at hcv
  clear hB
  go_enter Tryz.func182, Tryz.ntmps182
  go_wp2
  go_ret
  exact ⟨by rw [← HB.out]; rfl, (Below.refl _ _).alloc (Nat.le_refl _) _⟩
theorem smore11 (x : Nat) (hx : x < 4294967296) (s : ByteArray) (hs : s.size ≤ 1048577) (w : World) :
    Calls Tryz.prog 177 #[.int .u32 (x : Int), .string s] w fun e w' => e = .returned (.int .u32 (crc x s.data.toList : Nat)) ∧ w' = w := by
  go_enter Tryz.func177, Tryz.ntmps177
  go_wp2
  go_loopw [0, 5] (fun v i wr => ∃ k : Nat, k ≤ s.size ∧ i = .int .i64 k ∧ v = .int .u32 (crc x (s.data.toList.take k) : Nat) ∧ wr = w) (fun _ i _ => s.size - (intOf i).toNat)
  case atStart => exact ⟨0, Nat.zero_le _, rfl, rfl, rfl⟩
  case round =>
    obtain ⟨k, hk, rfl, rfl, rfl⟩ := hrel
    obtain ⟨wo, rfl⟩ : ∃ wo : World, wo = wr := ⟨_, rfl⟩
    have hlt' := crc_lt hx (s.data.toList.take k)
    by_cases hlt : k < s.size
    · have HR : Hid (crc x (s.data.toList.take (k + 1)) = eight (crc x (s.data.toList.take k) ^^^ s[k].toNat)) := crc_take x s k hlt
      have hix := ix_run s k hlt
      generalize crc x (s.data.toList.take k) = y at *
      obtain ⟨c, hc⟩ : ∃ c : UInt8, c = s[k] := ⟨_, rfl⟩
      rw [← hc] at hix HR
      clear hc
      have h256 := c.toNat_lt
      have e1 : bits .xor .u32 (y : Int) (c.toNat : Int) = ((y ^^^ c.toNat : Nat) : Int) := u32_xor_nat _ _ hlt' (by omega)
      have hy := byte_lt hlt' c
      generalize y ^^^ c.toNat = z at *
      generalize c.toNat = cn at *
      go_wp2
      go_loopw [0, 6] (fun v i wi => ∃ j : Nat, j ≤ 8 ∧ i = .int .i64 j ∧ v = .int .u32 (halves j z : Nat) ∧ wi = wo) (fun _ i _ => 8 - (intOf i).toNat)
      case atStart => exact ⟨0, Nat.zero_le _, rfl, rfl, rfl⟩
      case round =>
        obtain ⟨j, hj, rfl, rfl, rfl⟩ := hrel
        have hh := halves_lt hy j
        by_cases h8 : j < 8
        · rcases Nat.mod_two_eq_zero_or_one (halves j z) with ho | ho
          · have HE : Hid (halves (j + 1) z = halves j z / 2) := halves_even ho
            generalize halves j z = u at *
            have hd : (((u : Int) % 2) == 1) = false := by simp; omega
            go_wp2
            go_roundw
            case rel => exact ⟨j + 1, by omega, by go_num, by rw [HE.out]; rfl, by trivial⟩
            case measure => simp [intOf]; omega
          · have HE : Hid (halves (j + 1) z = halves j z / 2 ^^^ 3558460437) := halves_odd ho
            generalize halves j z = u at *
            have hd : (((u : Int) % 2) == 1) = true := by simp; omega
            have e2 : bits .xor .u32 ((u : Int) / 2) 3558460437 = ((u / 2 ^^^ 3558460437 : Nat) : Int) := u32_xor_nat (u / 2) 3558460437 (by omega) (by omega)
            go_wp2
            go_roundw
            case rel => exact ⟨j + 1, by omega, by go_num, by rw [HE.out], by trivial⟩
            case measure => simp [intOf]; omega
        · obtain rfl : j = 8 := by omega
          rw [halves_eight]
          go_wp2
          go_roundw
          case rel => exact ⟨k + 1, by omega, by go_num, by rw [HR.out], by trivial⟩
          case measure => simp [intOf]; omega
    · have HY : Hid (crc x (s.data.toList.take k) = crc x s.data.toList) := by show crc _ _ = _; rw [take_all s k hlt]
      generalize crc x (s.data.toList.take k) = y at *
      go_wp2
      go_ret
      exact ⟨by rw [← HY.out]; rfl, rfl⟩
theorem ssum7 (s : ByteArray) (hs : s.size ≤ 1048577) (w : World) :
    Calls Tryz.prog 157 #[.string s] w fun e w' => e = .returned (.int .u32 (crc 4294967295 s.data.toList : Nat)) ∧ w' = w := by
  go_enter Tryz.func157, Tryz.ntmps157
  go_wp2_with fail
  refine (smore11 4294967295 (by omega) s hs _).mono ?_
  rintro e w2 ⟨rfl, rfl⟩
  go_wp2
  go_ret
  exact ⟨rfl, rfl⟩
theorem sfour6 (x : Nat) (hx : x < 4294967296) (w : World) :
    Calls Tryz.prog 156 #[.int .u32 (x : Int)] w fun e w' => e = .returned (.string ⟨(fourB x).toArray⟩) ∧ Below w.heap.size w w' := by
  have hcv := four_run x hx w
  obtain ⟨B, hB⟩ : ∃ B, B = fourB x := ⟨_, rfl⟩
  have HB : Hid (B = fourB x) := hB
  rw [← hB] at hcv
  clear hB
  go_enter Tryz.func156, Tryz.ntmps156
  go_wp2
  go_ret
  exact ⟨by rw [← HB.out]; rfl, (Below.refl _ _).alloc (Nat.le_refl _) _⟩
end Go.Proofs.YtfhhnelffldggaaGreatDoor.Q
namespace Go.Proofs.YtfhhnelffldggaaGreatDoor
open Go.RowKit Go.PlainAid
set_option linter.unusedVariables false
set_option linter.unusedSimpArgs false
theorem pumpokS_s1 (n d r l b g k : Int)  (B : Bool) (hB : B = true ↔ Pm.ok ⟨1, n, d, r, l, b, g, k⟩) (w : World) : Calls Tryz.prog 94 #[PV 1 n d r l b g k] w fun e w' => e = .returned (.bool B) ∧ Below w.heap.size w w' := by
  have HB0 : Hid (Below w.heap.size w (w.alloc (PB 1 n d r l b g k))) := alP _ _
  have HK0 : Hid ((w.alloc (PB 1 n d r l b g k)).heap[w.heap.size]? = some (PB 1 n d r l b g k)) := heap_new w _
  have k0 := box8_cells HK0.out
  have HR : Hid (∀ w, Calls Tryz.prog 150 #[.agg #[.int .i64 n, .int .i64 d, .int .i64 r]] w fun e w' => e = .returned (.bool (rateOk n d r)) ∧ Below w.heap.size w w') := fun w => rateS n d r w
  have D1 : Hid (decide ((0 : Int) ≤ 1 ∧ (1 : Int) ≤ 3) = true) := rfl
  by_cases h2 : ratR n d r
  · have Dr : Hid (rateOk n d r = true) := rat_yes h2
    have h2' := h2
    unfold ratR at h2'
    have hw : IntKind.i64.wrap (3 * d) = 3 * d := by rw [IntKind.wrap_i64]; omega
    by_cases h3 : n ≤ 3 * d
    · have _t := trivial
      by_cases h4 : 0 ≤ l ∧ l ≤ 5000
      · have Dl : Hid (decide (0 ≤ l ∧ l ≤ 5000) = true) := decide_eq_true h4
        by_cases h5 : 0 < l
        · have _t := trivial
          by_cases h6 : 0 ≤ b ∧ b ≤ 100
          · have Db : Hid (decide (0 ≤ b ∧ b ≤ 100) = true) := decide_eq_true h6
            by_cases h7 : 0 ≤ g ∧ g ≤ 1000000000000
            · have Dg : Hid (decide (0 ≤ g ∧ g ≤ 1000000000000) = true) := decide_eq_true h7
              by_cases h8 : 0 ≤ k ∧ k ≤ 2
              · have Dk : Hid (decide (0 ≤ k ∧ k ≤ 2) = true) := decide_eq_true h8
                by_cases h9 : k = 0
                · have qk0 : (k == 0) = true := by simpa using h9
                  obtain rfl : B = true := pm_yes (p := ⟨1, n, d, r, l, b, g, k⟩) hB (by unfold Pm.ok; dsimp only; exact ⟨by omega, h2, by omega, by omega, by omega, by omega, by omega, by omega, by omega⟩)
                  clear hB h2 h2' h4 h6 h7 h8 h9
                  go_enter Tryz.func94, Tryz.ntmps94
                  go_wp2_with fail
                  refine (inS 0 3 1 true D1.out _).mono ?_
                  rintro e wq ⟨rfl, rfl⟩
                  go_wp2_with fail
                  refine (HR.out _).mono ?_
                  rintro e w1 ⟨rfl, hb1⟩
                  have HB1 := bq HB0 hb1
                  have HK1 : Hid (w1.heap[w.heap.size]? = some (PB 1 n d r l b g k)) := row_on HK0.out hb1
                  have k1 := box8_cells HK1.out
                  clear hb1 HB0 HK0 k0
                  rw [Dr.out]
                  go_wp2_with fail
                  refine (inS 0 5000 l true Dl.out _).mono ?_
                  rintro e wq ⟨rfl, rfl⟩
                  go_wp2_with fail
                  refine (inS 0 100 b true Db.out _).mono ?_
                  rintro e wq ⟨rfl, rfl⟩
                  go_wp2_with fail
                  refine (inS 0 1000000000000 g true Dg.out _).mono ?_
                  rintro e wq ⟨rfl, rfl⟩
                  go_wp2_with fail
                  refine (inS 0 2 k true Dk.out _).mono ?_
                  rintro e wq ⟨rfl, rfl⟩
                  go_wp2
                  go_ret
                  exact ⟨rfl, HB1.out⟩
                · have qk0 : (k == 0) = false := by simpa using h9
                  obtain rfl : B = false := pm_no (p := ⟨1, n, d, r, l, b, g, k⟩) hB (fun h => by unfold Pm.ok ratR at h; dsimp only at h; omega)
                  clear hB h2 h2' h4 h6 h7 h8 h9
                  go_enter Tryz.func94, Tryz.ntmps94
                  go_wp2_with fail
                  refine (inS 0 3 1 true D1.out _).mono ?_
                  rintro e wq ⟨rfl, rfl⟩
                  go_wp2_with fail
                  refine (HR.out _).mono ?_
                  rintro e w1 ⟨rfl, hb1⟩
                  have HB1 := bq HB0 hb1
                  have HK1 : Hid (w1.heap[w.heap.size]? = some (PB 1 n d r l b g k)) := row_on HK0.out hb1
                  have k1 := box8_cells HK1.out
                  clear hb1 HB0 HK0 k0
                  rw [Dr.out]
                  go_wp2_with fail
                  refine (inS 0 5000 l true Dl.out _).mono ?_
                  rintro e wq ⟨rfl, rfl⟩
                  go_wp2_with fail
                  refine (inS 0 100 b true Db.out _).mono ?_
                  rintro e wq ⟨rfl, rfl⟩
                  go_wp2_with fail
                  refine (inS 0 1000000000000 g true Dg.out _).mono ?_
                  rintro e wq ⟨rfl, rfl⟩
                  go_wp2_with fail
                  refine (inS 0 2 k true Dk.out _).mono ?_
                  rintro e wq ⟨rfl, rfl⟩
                  go_wp2
                  go_ret
                  exact ⟨rfl, HB1.out⟩
              · have Dk : Hid (decide (0 ≤ k ∧ k ≤ 2) = false) := decide_eq_false h8
                obtain rfl : B = false := pm_no (p := ⟨1, n, d, r, l, b, g, k⟩) hB (fun h => by unfold Pm.ok ratR at h; dsimp only at h; omega)
                clear hB h2 h2' h4 h6 h7 h8
                go_enter Tryz.func94, Tryz.ntmps94
                go_wp2_with fail
                refine (inS 0 3 1 true D1.out _).mono ?_
                rintro e wq ⟨rfl, rfl⟩
                go_wp2_with fail
                refine (HR.out _).mono ?_
                rintro e w1 ⟨rfl, hb1⟩
                have HB1 := bq HB0 hb1
                have HK1 : Hid (w1.heap[w.heap.size]? = some (PB 1 n d r l b g k)) := row_on HK0.out hb1
                have k1 := box8_cells HK1.out
                clear hb1 HB0 HK0 k0
                rw [Dr.out]
                go_wp2_with fail
                refine (inS 0 5000 l true Dl.out _).mono ?_
                rintro e wq ⟨rfl, rfl⟩
                go_wp2_with fail
                refine (inS 0 100 b true Db.out _).mono ?_
                rintro e wq ⟨rfl, rfl⟩
                go_wp2_with fail
                refine (inS 0 1000000000000 g true Dg.out _).mono ?_
                rintro e wq ⟨rfl, rfl⟩
                go_wp2_with fail
                refine (inS 0 2 k false Dk.out _).mono ?_
                rintro e wq ⟨rfl, rfl⟩
                go_wp2
                go_ret
                exact ⟨rfl, HB1.out⟩
            · have Dg : Hid (decide (0 ≤ g ∧ g ≤ 1000000000000) = false) := decide_eq_false h7
              obtain rfl : B = false := pm_no (p := ⟨1, n, d, r, l, b, g, k⟩) hB (fun h => by unfold Pm.ok ratR at h; dsimp only at h; omega)
              clear hB h2 h2' h4 h6 h7
              go_enter Tryz.func94, Tryz.ntmps94
              go_wp2_with fail
              refine (inS 0 3 1 true D1.out _).mono ?_
              rintro e wq ⟨rfl, rfl⟩
              go_wp2_with fail
              refine (HR.out _).mono ?_
              rintro e w1 ⟨rfl, hb1⟩
              have HB1 := bq HB0 hb1
              have HK1 : Hid (w1.heap[w.heap.size]? = some (PB 1 n d r l b g k)) := row_on HK0.out hb1
              have k1 := box8_cells HK1.out
              clear hb1 HB0 HK0 k0
              rw [Dr.out]
              go_wp2_with fail
              refine (inS 0 5000 l true Dl.out _).mono ?_
              rintro e wq ⟨rfl, rfl⟩
              go_wp2_with fail
              refine (inS 0 100 b true Db.out _).mono ?_
              rintro e wq ⟨rfl, rfl⟩
              go_wp2_with fail
              refine (inS 0 1000000000000 g false Dg.out _).mono ?_
              rintro e wq ⟨rfl, rfl⟩
              go_wp2
              go_ret
              exact ⟨rfl, HB1.out⟩
          · have Db : Hid (decide (0 ≤ b ∧ b ≤ 100) = false) := decide_eq_false h6
            obtain rfl : B = false := pm_no (p := ⟨1, n, d, r, l, b, g, k⟩) hB (fun h => by unfold Pm.ok ratR at h; dsimp only at h; omega)
            clear hB h2 h2' h4 h6
            go_enter Tryz.func94, Tryz.ntmps94
            go_wp2_with fail
            refine (inS 0 3 1 true D1.out _).mono ?_
            rintro e wq ⟨rfl, rfl⟩
            go_wp2_with fail
            refine (HR.out _).mono ?_
            rintro e w1 ⟨rfl, hb1⟩
            have HB1 := bq HB0 hb1
            have HK1 : Hid (w1.heap[w.heap.size]? = some (PB 1 n d r l b g k)) := row_on HK0.out hb1
            have k1 := box8_cells HK1.out
            clear hb1 HB0 HK0 k0
            rw [Dr.out]
            go_wp2_with fail
            refine (inS 0 5000 l true Dl.out _).mono ?_
            rintro e wq ⟨rfl, rfl⟩
            go_wp2_with fail
            refine (inS 0 100 b false Db.out _).mono ?_
            rintro e wq ⟨rfl, rfl⟩
            go_wp2
            go_ret
            exact ⟨rfl, HB1.out⟩
        · obtain rfl : l = 0 := by omega
          obtain rfl : B = false := pm_no (p := ⟨1, n, d, r, 0, b, g, k⟩) hB (fun h => by unfold Pm.ok ratR at h; dsimp only at h; omega)
          clear hB h2 h2' h4 h5
          go_enter Tryz.func94, Tryz.ntmps94
          go_wp2_with fail
          refine (inS 0 3 1 true D1.out _).mono ?_
          rintro e wq ⟨rfl, rfl⟩
          go_wp2_with fail
          refine (HR.out _).mono ?_
          rintro e w1 ⟨rfl, hb1⟩
          have HB1 := bq HB0 hb1
          have HK1 : Hid (w1.heap[w.heap.size]? = some (PB 1 n d r 0 b g k)) := row_on HK0.out hb1
          have k1 := box8_cells HK1.out
          clear hb1 HB0 HK0 k0
          rw [Dr.out]
          go_wp2_with fail
          refine (inS 0 5000 0 true Dl.out _).mono ?_
          rintro e wq ⟨rfl, rfl⟩
          go_wp2
          go_ret
          exact ⟨rfl, HB1.out⟩
      · have Dl : Hid (decide (0 ≤ l ∧ l ≤ 5000) = false) := decide_eq_false h4
        obtain rfl : B = false := pm_no (p := ⟨1, n, d, r, l, b, g, k⟩) hB (fun h => by unfold Pm.ok ratR at h; dsimp only at h; omega)
        clear hB h2 h2' h4
        go_enter Tryz.func94, Tryz.ntmps94
        go_wp2_with fail
        refine (inS 0 3 1 true D1.out _).mono ?_
        rintro e wq ⟨rfl, rfl⟩
        go_wp2_with fail
        refine (HR.out _).mono ?_
        rintro e w1 ⟨rfl, hb1⟩
        have HB1 := bq HB0 hb1
        have HK1 : Hid (w1.heap[w.heap.size]? = some (PB 1 n d r l b g k)) := row_on HK0.out hb1
        have k1 := box8_cells HK1.out
        clear hb1 HB0 HK0 k0
        rw [Dr.out]
        go_wp2_with fail
        refine (inS 0 5000 l false Dl.out _).mono ?_
        rintro e wq ⟨rfl, rfl⟩
        go_wp2
        go_ret
        exact ⟨rfl, HB1.out⟩
    · obtain rfl : B = false := pm_no (p := ⟨1, n, d, r, l, b, g, k⟩) hB (fun h => by unfold Pm.ok ratR at h; dsimp only at h; omega)
      clear hB h2 h2'
      go_enter Tryz.func94, Tryz.ntmps94
      go_wp2_with fail
      refine (inS 0 3 1 true D1.out _).mono ?_
      rintro e wq ⟨rfl, rfl⟩
      go_wp2_with fail
      refine (HR.out _).mono ?_
      rintro e w1 ⟨rfl, hb1⟩
      have HB1 := bq HB0 hb1
      have HK1 : Hid (w1.heap[w.heap.size]? = some (PB 1 n d r l b g k)) := row_on HK0.out hb1
      have k1 := box8_cells HK1.out
      clear hb1 HB0 HK0 k0
      rw [Dr.out]
      go_wp2
      go_ret
      exact ⟨rfl, HB1.out⟩
  · have Dr : Hid (rateOk n d r = false) := rat_no h2
    obtain rfl : B = false := pm_no (p := ⟨1, n, d, r, l, b, g, k⟩) hB (fun h => by unfold Pm.ok at h; dsimp only at h; exact h2 h.2.1)
    clear hB h2
    go_enter Tryz.func94, Tryz.ntmps94
    go_wp2_with fail
    refine (inS 0 3 1 true D1.out _).mono ?_
    rintro e wq ⟨rfl, rfl⟩
    go_wp2_with fail
    refine (HR.out _).mono ?_
    rintro e w1 ⟨rfl, hb1⟩
    have HB1 := bq HB0 hb1
    have HK1 : Hid (w1.heap[w.heap.size]? = some (PB 1 n d r l b g k)) := row_on HK0.out hb1
    have k1 := box8_cells HK1.out
    clear hb1 HB0 HK0 k0
    rw [Dr.out]
    go_wp2
    go_ret
    exact ⟨rfl, HB1.out⟩
end Go.Proofs.YtfhhnelffldggaaGreatDoor
