/-
  The draws' contracts.
-/
import Derived.Test.YtfhhnelffldggaaGreatDoorUqAB
import Derived.Laws.BitsLemmas
import Derived.Laws.Rows
import Derived.Test.YtfhhnelffldggaaGreatDoorUqAC
import Derived.Deep.RegionHeld3
set_option maxRecDepth 100000
set_option maxHeartbeats 16000000
namespace Go.Proofs.YtfhhnelffldggaaGreatDoor
open Go.RowKit Go.PlainAid
set_option linter.unusedVariables false
theorem and255 (n : Int) : bits .and .i64 n 255 = n % 256 := by
  have h : (BitVec.ofInt 64 255).toNat = 2 ^ 8 - 1 := by decide
  have key : (BitVec.ofInt 64 n &&& BitVec.ofInt 64 255).toNat = (n % ((2 ^ 64 : Nat) : Int)).toNat % 2 ^ 8 := by
    rw [BitVec.toNat_and, BitVec.toNat_ofInt, h, Nat.and_two_pow_sub_one_eq_mod]
  show IntKind.i64.wrap ((BitVec.ofInt 64 n &&& BitVec.ofInt 64 255).toNat : Nat) = n % 256
  rw [key, IntKind.wrap_i64]
  omega
theorem and30 (n : Int) : bits .and .i64 n 1073741823 = n % 1073741824 := by
  have h : (BitVec.ofInt 64 1073741823).toNat = 2 ^ 30 - 1 := by decide
  have key : (BitVec.ofInt 64 n &&& BitVec.ofInt 64 1073741823).toNat = (n % ((2 ^ 64 : Nat) : Int)).toNat % 2 ^ 30 := by
    rw [BitVec.toNat_and, BitVec.toNat_ofInt, h, Nat.and_two_pow_sub_one_eq_mod]
  show IntKind.i64.wrap ((BitVec.ofInt 64 n &&& BitVec.ofInt 64 1073741823).toNat : Nat) = n % 1073741824
  rw [key, IntKind.wrap_i64]
  omega
def CurAt (w : World) (C : Nat) (a : Option Addr) (len cap i : Nat) (h : Int) : Prop := w.heap[C]? = some (.cells #[.slice a len cap, .int .i64 (i : Int), .int .i64 h] 107 (0, 0))
def Cur (w : World) (C : Nat) (a : Option Addr) (len cap : Nat) : Prop := ∃ (i : Nat) (h : Int), i ≤ len ∧ CurAt w C a len cap i h
def CodeOk (w : World) (B : Nat) (a : Option Addr) (len : Nat) : Prop := len ≤ 1048576 ∧ (0 < len → ∃ b off, a = some ⟨b, off, none⟩ ∧ b < B ∧ ∀ j, j < len → ∃ x : Int, 0 ≤ x ∧ x ≤ 255 ∧ w.cell? ⟨b, off + j, none⟩ = some (.int .u8 x))
theorem code_below {w w' : World} {B : Nat} {a : Option Addr} {len : Nat} (h : CodeOk w B a len) (hb : Below B w w') : CodeOk w' B a len := by
  refine ⟨h.1, fun hp => ?_⟩
  obtain ⟨b, off, ha, hlt, hc⟩ := h.2 hp
  exact ⟨b, off, ha, hlt, fun j hj => by
    obtain ⟨x, h0, h1, hx⟩ := hc j hj
    exact ⟨x, h0, h1, (hb.cell (p := ⟨b, off + j, none⟩) hlt).trans hx⟩⟩
theorem code_grown {w w' : World} {B C : Nat} {a : Option Addr} {len : Nat} (h : CodeOk w B a len) (hb : w.grownBy w' (some C)) (hC : B ≤ C) (hB : B ≤ w.heap.size) : CodeOk w' B a len :=
  code_below h ((Below.refl B w).grown hb hB (fun k hk => by cases hk; exact hC))
theorem grown_trans {w w1 w2 : World} {r : Option Nat} (h : w.grownBy w1 r) (k : w1.grownBy w2 r) : w.grownBy w2 r :=
  ⟨k.os.trans h.os, k.tape.trans h.tape, k.output.trans h.output, Nat.le_trans h.size k.size, fun j hj hne => (k.block j (Nat.lt_of_lt_of_le hj h.size) hne).trans (h.block j hj hne)⟩
theorem grown_set (w : World) (C i : Nat) (v : Value) : w.grownBy (w.setCell ⟨C, i, none⟩ v) (some C) :=
  ⟨rfl, rfl, rfl, by simp, fun k _ hne => heap_setCell_other w _ k v (fun e => hne (by rw [e]))⟩
theorem grown_drewN (w : World) (n : Nat) (r : Option Nat) : w.grownBy (w.drewN n) r := ⟨rfl, rfl, rfl, Nat.le_refl _, fun _ _ _ => rfl⟩
theorem cur_lt {w : World} {C : Nat} {a : Option Addr} {len cap : Nat} (h : Cur w C a len cap) : C < w.heap.size := by
  obtain ⟨i, hh, _, hc⟩ := h
  rcases Nat.lt_or_ge C w.heap.size with h' | h'
  · exact h'
  · unfold CurAt at hc; rw [Array.getElem?_eq_none h'] at hc; cases hc
theorem cur_h {w : World} {C : Nat} {a : Option Addr} {len cap i : Nat} {h : Int} (hc : CurAt w C a len cap i h) (x : Int) : CurAt (w.setCell ⟨C, 2, none⟩ (.int .i64 x)) C a len cap i x :=
  heap_setCell_same w C 2 _ 107 (.int .i64 x) hc
theorem cur_i {w : World} {C : Nat} {a : Option Addr} {len cap i : Nat} {h : Int} (hc : CurAt w C a len cap i h) (j : Nat) : CurAt (w.setCell ⟨C, 1, none⟩ (.int .i64 (j : Int))) C a len cap j h :=
  heap_setCell_same w C 1 _ 107 (.int .i64 (j : Int)) hc
theorem cur_cells {w : World} {C : Nat} {a : Option Addr} {len cap i : Nat} {h : Int} (hc : CurAt w C a len cap i h) :
    w.cell? ⟨C, 0, none⟩ = some (.slice a len cap) ∧ w.cell? ⟨C, 1, none⟩ = some (.int .i64 (i : Int)) ∧ w.cell? ⟨C, 2, none⟩ = some (.int .i64 h) ∧ w.frozen? ⟨C, 1, none⟩ = false ∧ w.frozen? ⟨C, 2, none⟩ = false :=
  ⟨cell_of_row w C 0 _ 107 (0, 0) hc, cell_of_row w C 1 _ 107 (0, 0) hc, cell_of_row w C 2 _ 107 (0, 0) hc, frozen_of_row w C 1 _ 107 hc, frozen_of_row w C 2 _ 107 hc⟩
theorem cur_drewN {w : World} {C : Nat} {a : Option Addr} {len cap i : Nat} {h : Int} (hc : CurAt w C a len cap i h) (n : Nat) : CurAt (w.drewN n) C a len cap i h := hc
theorem mod_lo (x : Int) : 0 ≤ x % 256 := Int.emod_nonneg _ (by decide)
theorem mod_hi (x : Int) : x % 256 ≤ 255 := Int.le_of_lt_add_one (Int.emod_lt_of_pos _ (by decide))
theorem byte32 (C B : Nat) (a : Option Addr) (len cap : Nat) (w : World) (hC : Cur w C a len cap) (hB : B ≤ C) (hcode : CodeOk w B a len) :
    Calls Tryz.prog 178 #[.pointer (some ⟨C, 0, none⟩)] w fun e w' => ∃ x : Int, e = .returned (.int .i64 x) ∧ 0 ≤ x ∧ x ≤ 255 ∧ Cur w' C a len cap ∧ w.grownBy w' (some C) := by
  obtain ⟨i, h, hi, hc⟩ := hC
  obtain ⟨hlen, hbytes⟩ := hcode
  obtain ⟨c0, c1, c2, f1, f2⟩ := cur_cells hc
  have e255 := and255
  by_cases hlt : i < len
  · obtain ⟨b, off, rfl, hbB, hrow⟩ := hbytes (by omega)
    obtain ⟨z, z0, z1, hz⟩ := hrow i hlt
    have hne : b ≠ C := by omega
    have HC := hq hc
    have i0 : (0 : Int) ≤ (i : Int) := by omega
    have i1 : (i : Int) < (len : Int) := by omega
    clear hc hbytes hrow
    go_enter Tryz.func178, Tryz.ntmps178
    go_wp2
    go_quiet (fail)
    go_wp2
    go_quiet (fail)
    go_wp2
    go_quiet (fail)
    go_wp2
    go_ret
    exact ⟨_, rfl, mod_lo _, mod_hi _, ⟨i + 1, _, by omega, cur_i (cur_drewN (cur_h HC.out _) _) (i + 1)⟩, grown_trans (grown_trans (grown_set _ _ _ _) (grown_drewN _ _ _)) (grown_set _ _ _ _)⟩
  · have HC : Hid (CurAt w C a len cap i h) := hc
    have hle : ¬ ((i : Int) < (len : Int)) := by omega
    clear hc hbytes
    go_enter Tryz.func178, Tryz.ntmps178
    go_wp2
    go_quiet (fail)
    go_wp2
    go_quiet (fail)
    go_wp2
    go_ret
    exact ⟨_, rfl, mod_lo _, mod_hi _, ⟨i, _, by omega, cur_drewN (cur_drewN (cur_h HC.out _) _) _⟩, grown_trans (grown_trans (grown_set _ _ _ _) (grown_drewN _ _ _)) (grown_drewN _ _ _)⟩
def Drawn (w w' : World) (C B : Nat) (a : Option Addr) (len cap : Nat) : Prop := Cur w' C a len cap ∧ CodeOk w' B a len ∧ w.grownBy w' (some C)
theorem below28_small (C B : Nat) (a : Option Addr) (len cap : Nat) (n : Int) (h0 : 0 < n) (h1 : n ≤ 256) (w : World) (hC : Cur w C a len cap) (hB : B ≤ C) (hcode : CodeOk w B a len) :
    Calls Tryz.prog 162 #[.pointer (some ⟨C, 0, none⟩), .int .i64 n] w fun e w' => ∃ x : Int, e = .returned (.int .i64 x) ∧ 0 ≤ x ∧ x < n ∧ Drawn w w' C B a len cap := by
  have hlt := cur_lt hC
  go_enter Tryz.func162, Tryz.ntmps162
  go_wp2_with fail
  refine (byte32 C B a len cap _ hC hB hcode).mono ?_
  rintro e w1 ⟨x, rfl, x0, x1, hC1, hg1⟩
  have HD : Hid (Drawn w w1 C B a len cap) := ⟨hC1, code_grown hcode hg1 hB (by omega), hg1⟩
  clear hC1 hg1 hC hcode
  go_wp2
  go_ret
  exact ⟨_, rfl, Int.emod_nonneg _ (by omega), Int.emod_lt_of_pos _ h0, HD.out⟩
theorem drawn_trans {w w1 w2 : World} {C B : Nat} {a : Option Addr} {len cap : Nat} (h : Drawn w w1 C B a len cap) (k : Drawn w1 w2 C B a len cap) : Drawn w w2 C B a len cap := ⟨k.1, k.2.1, grown_trans h.2.2 k.2.2⟩
theorem below28_big (C B : Nat) (a : Option Addr) (len cap : Nat) (n : Int) (h0 : 256 < n) (h1 : n ≤ 9223372036854775807) (w : World) (hC : Cur w C a len cap) (hB : B ≤ C) (hcode : CodeOk w B a len) :
    Calls Tryz.prog 162 #[.pointer (some ⟨C, 0, none⟩), .int .i64 n] w fun e w' => ∃ x : Int, e = .returned (.int .i64 x) ∧ 0 ≤ x ∧ x < n ∧ Drawn w w' C B a len cap := by
  have hlt := cur_lt hC
  have HD0 : Hid (Drawn w w C B a len cap) := ⟨hC, hcode, World.grownBy.refl _ _⟩
  clear hC hcode
  go_enter Tryz.func162, Tryz.ntmps162
  go_wp2_with fail
  refine (byte32 C B a len cap _ HD0.out.1 hB HD0.out.2.1).mono ?_
  rintro e w1 ⟨x, rfl, x0, x1, hC1, hg1⟩
  have HD1 : Hid (Drawn w w1 C B a len cap) := ⟨hC1, code_grown HD0.out.2.1 hg1 hB (by omega), hg1⟩
  have s1 := hg1.size
  clear hC1 hg1 HD0
  go_wp2_with fail
  refine (byte32 C B a len cap _ HD1.out.1 hB HD1.out.2.1).mono ?_
  rintro e w2 ⟨y, rfl, y0, y1, hC1, hg1⟩
  have HD2 : Hid (Drawn w w2 C B a len cap) := drawn_trans HD1.out ⟨hC1, code_grown HD1.out.2.1 hg1 hB (by omega), hg1⟩
  have s2 := hg1.size
  clear hC1 hg1 HD1
  go_wp2_with fail
  refine (byte32 C B a len cap _ HD2.out.1 hB HD2.out.2.1).mono ?_
  rintro e w3 ⟨z, rfl, z0, z1, hC1, hg1⟩
  have HD3 : Hid (Drawn w w3 C B a len cap) := drawn_trans HD2.out ⟨hC1, code_grown HD2.out.2.1 hg1 hB (by omega), hg1⟩
  have s3 := hg1.size
  clear hC1 hg1 HD2
  go_wp2_with fail
  refine (byte32 C B a len cap _ HD3.out.1 hB HD3.out.2.1).mono ?_
  rintro e w4 ⟨u, rfl, u0, u1, hC1, hg1⟩
  have HD4 : Hid (Drawn w w4 C B a len cap) := drawn_trans HD3.out ⟨hC1, code_grown HD3.out.2.1 hg1 hB (by omega), hg1⟩
  clear hC1 hg1 HD3
  go_wp2
  go_ret
  exact ⟨_, rfl, Int.emod_nonneg _ (by omega), Int.emod_lt_of_pos _ (by omega), HD4.out⟩
theorem below28 (C B : Nat) (a : Option Addr) (len cap : Nat) (n : Int) (h0 : 0 < n) (h1 : n ≤ 9223372036854775807) (w : World) (hC : Cur w C a len cap) (hB : B ≤ C) (hcode : CodeOk w B a len) :
    Calls Tryz.prog 162 #[.pointer (some ⟨C, 0, none⟩), .int .i64 n] w fun e w' => ∃ x : Int, e = .returned (.int .i64 x) ∧ 0 ≤ x ∧ x < n ∧ Drawn w w' C B a len cap := by
  by_cases h : n ≤ 256
  · exact below28_small C B a len cap n h0 h w hC hB hcode
  · exact below28_big C B a len cap n (by omega) h1 w hC hB hcode
theorem grown_new {w W w1 : World} {C : Nat} {v : Value} (hg : w.grownBy W (some C)) (hk : W.grownBy w1 v.ownBlock) (hv : ∀ g, v.ownBlock = some g → w.heap.size ≤ g) : w.grownBy w1 (some C) :=
  ⟨hk.os.trans hg.os, hk.tape.trans hg.tape, hk.output.trans hg.output, Nat.le_trans hg.size hk.size, fun j hj hne =>
    (hk.block j (Nat.lt_of_lt_of_le hj hg.size) (fun e => by have := hv j e.symm; omega)).trans (hg.block j hj hne)⟩
theorem cur_new {W w1 : World} {C B : Nat} {a : Option Addr} {len cap : Nat} {v : Value} (h : Cur W C a len cap) (hk : W.grownBy w1 v.ownBlock) (hv : ∀ g, v.ownBlock = some g → C < g) : Cur w1 C a len cap := by
  have hlt := cur_lt h
  obtain ⟨i, x, hi, hc⟩ := h
  refine ⟨i, x, hi, ?_⟩
  unfold CurAt
  rw [hk.block C hlt (fun e => by have := hv C e.symm; omega)]
  exact hc
theorem grown_alloc {w W : World} {C : Nat} (hg : w.grownBy W (some C)) (o : Obj) : w.grownBy (W.alloc o) (some C) :=
  ⟨hg.os, hg.tape, hg.output, Nat.le_trans hg.size (by simp), fun j hj hne => (Below.heap_alloc W o j (Nat.lt_of_lt_of_le hj hg.size)).trans (hg.block j hj hne)⟩
theorem cur_alloc {W : World} {C : Nat} {a : Option Addr} {len cap : Nat} (h : Cur W C a len cap) (o : Obj) : Cur (W.alloc o) C a len cap := by
  have hlt := cur_lt h
  obtain ⟨i, x, hi, hc⟩ := h
  exact ⟨i, x, hi, (Below.heap_alloc W o C hlt).trans hc⟩
theorem drawn_alloc {w W : World} {C B : Nat} {a : Option Addr} {len cap : Nat} (h : Drawn w W C B a len cap) (hB : B ≤ W.heap.size) (o : Obj) : Drawn w (W.alloc o) C B a len cap :=
  ⟨cur_alloc h.1 o, code_below h.2.1 ((Below.refl _ _).alloc hB o), grown_alloc h.2.2 o⟩
theorem new23 (B : Nat) (a : Option Addr) (len cap : Nat) (w : World) (hcode : CodeOk w B a len) (hB : B ≤ w.heap.size) :
    Calls Tryz.prog 28 #[.slice a len cap] w fun e w' => ∃ C : Nat, e = .returned (.pointer (some ⟨C, 0, none⟩)) ∧ w.heap.size ≤ C ∧ Cur w' C a len cap ∧ CodeOk w' B a len ∧ Below w.heap.size w w' := by
  obtain ⟨hlen, hbytes⟩ := hcode
  have HC : Hid (CodeOk w B a len) := ⟨hlen, hbytes⟩
  have e30 := and30
  go_enter Tryz.func28, Tryz.ntmps28
  go_wp2
  go_loopw [3, 4] (fun hv i wr => ∃ (k : Nat) (h : Int), k ≤ len ∧ i = .int .i64 k ∧ hv = .int .i64 h ∧ wr = w) (fun _ i _ => len - (intOf i).toNat)
  case atStart => exact ⟨0, _, Nat.zero_le _, rfl, rfl, rfl⟩
  case round =>
    obtain ⟨k, h, hk, rfl, rfl, rfl⟩ := hrel
    by_cases hlt : k < len
    · by_cases h4 : (k : Int) < 4000
      · obtain ⟨b, off, rfl, hbB, hrow⟩ := hbytes (by omega)
        obtain ⟨z, z0, z1, hz⟩ := hrow k hlt
        clear hbytes hrow
        have i0 : (0 : Int) ≤ (k : Int) := by omega
        have i1 : (k : Int) < (len : Int) := by omega
        go_wp2
        go_roundw
        case rel => exact ⟨k + 1, _, by omega, by go_num, rfl, trivial⟩
        case measure => simp [intOf]; omega
      · clear hbytes
        go_wp2
        go_ret
        exact ⟨_, rfl, Nat.le_refl _, ⟨0, h, Nat.zero_le _, heap_alloc_new _ _⟩, code_below HC.out ((Below.refl _ _).alloc hB _), (Below.refl _ _).alloc (Nat.le_refl _) _⟩
    · clear hbytes
      go_wp2
      go_ret
      exact ⟨_, rfl, Nat.le_refl _, ⟨0, h, Nat.zero_le _, heap_alloc_new _ _⟩, code_below HC.out ((Below.refl _ _).alloc hB _), (Below.refl _ _).alloc (Nat.le_refl _) _⟩
theorem drawn_below {w w0 w' : World} {C B : Nat} {a : Option Addr} {len cap : Nat} (h0 : Below w.heap.size w w0) (hC : w.heap.size ≤ C) (h : Drawn w0 w' C B a len cap) : Below w.heap.size w w' :=
  h0.grown h.2.2 h0.size (fun k hk => by cases hk; exact hC)
theorem big5 (a : Option Addr) (len cap : Nat) (hl : len ≤ 9223372036854775807) (w : World) :
    Calls Tryz.prog 6 #[.slice a len cap] w fun e w' => e = .returned (.bool (decide (1048576 < (len : Int)))) ∧ w' = w := by
  go_enter Tryz.func6, Tryz.ntmps6
  go_wp2
  go_ret
  exact ⟨rfl, rfl⟩
end Go.Proofs.YtfhhnelffldggaaGreatDoor
namespace Go.Proofs.YtfhhnelffldggaaGreatDoor.V
open Go.RowKit Plain Go.PlainAid
set_option linter.unusedVariables false
theorem rvF_fin {s : ByteArray} {a f k : Nat} {N S : Int} (h : k < s.size) (h' : bt s k < 128) : rvF s a (f + 1) k N S = fin s a (k + 1) (N + bt s k % 128 * S) := by
  rw [rvF, if_pos h, if_pos h']
theorem rvF_on {s : ByteArray} {a f k : Nat} {N S : Int} (h : k < s.size) (h' : ¬ bt s k < 128) : rvF s a (f + 1) k N S = rvF s a f (k + 1) (N + bt s k % 128 * S) (S * 128) := by
  rw [rvF, if_pos h, if_neg h']
theorem rvF_end {s : ByteArray} {a f k : Nat} {N S : Int} (h : ¬ k < s.size) : rvF s a f k N S = none := by
  cases f with
  | zero => rfl
  | succ f => rw [rvF, if_neg h]
theorem exact23' (N B : Int) (s : ByteArray) (a b : Nat) (hB : B = b) (hs : s.size ≤ 1048576) (hab : a ≤ b) (hb : b ≤ s.size) (h0 : 0 ≤ N) (hN : N ≤ 9223372036854775807) (w : World) :
    Calls Tryz.prog 190 #[.int .i64 N, .string s, .int .i64 a, .int .i64 B] w fun e w' => e = .returned (enc3 (fin s a b N)) ∧ Below w.heap.size w w' := by
  subst hB; exact exact23 N s a b hs hab hb h0 hN w
theorem rv12_in (s : ByteArray) (a : Nat) (hs : s.size ≤ 1048576) (ha : a ≤ s.size) (w : World) :
    Calls Tryz.prog 183 #[.string s, .int .i64 a] w fun e w' => e = .returned (enc3 (rvF s a 5 a 0 1)) ∧ Below w.heap.size w w' := by
  have hbt := get_bt s
  go_enter Tryz.func183, Tryz.ntmps183
  go_wp2
  go_loopw [7, 8, 9] (fun n v i wr => ∃ (N : Int) (j f : Nat), f + j = 5 ∧ a + j ≤ s.size ∧ n = .int .i64 N ∧ v = .int .i64 (sc j) ∧ i = .int .i64 (a + j : Nat) ∧ 0 ≤ N ∧ N < sc j ∧ Hid (rvF s a 5 a 0 1 = rvF s a f (a + j) N (sc j)) ∧ wr = w) (fun _ _ i _ => s.size - (intOf i).toNat)
  case atStart => exact ⟨0, 0, 5, rfl, ha, rfl, rfl, rfl, by decide, by decide, (show Hid _ from rfl), rfl⟩
  case round =>
    obtain ⟨N, j, f, hf, hk, rfl, rfl, rfl, h0, hN, H, rfl⟩ := hrel
    obtain ⟨k, hkk⟩ : ∃ k, k = a + j := ⟨_, rfl⟩
    rw [← hkk] at hk H ⊢
    have ha' : a ≤ k := by omega
    have hsc := sc_pos j
    by_cases h1 : k < s.size
    · have hb0 := bt_nonneg s k
      have hb1 := bt_le s k
      have hP := prod_bd (bt s k) (sc j) hsc
      by_cases h2 : j < 5
      · have hle := sc_le j h2
        obtain ⟨f, rfl⟩ : ∃ f', f = f' + 1 := ⟨f - 1, by omega⟩
        by_cases h3 : bt s k < 128
        · rw [rvF_fin h1 h3] at H
          have H2 := hq hkk
          clear hkk
          go_wp2_with fail
          refine (exact23' (N + bt s k % 128 * sc j) (k + 1) s a (k + 1) (by omega) hs (by omega) (by omega) (by omega) (by omega) _).mono ?_
          rintro e w1 ⟨rfl, hb⟩
          rw [← H.out]
          rcases hR : rvF s a 5 a 0 1 with _ | ⟨M, c⟩
          · have HR : Hid (rvF s a 5 a 0 1 = none) := hR
            clear hR
            simp only [enc3]
            go_wp2
            go_ret3
            exact ⟨by rw [HR.out]; rfl, hb⟩
          · have HR : Hid (rvF s a 5 a 0 1 = some (M, c)) := hR
            clear hR
            simp only [enc3]
            go_wp2
            go_ret3
            exact ⟨by rw [HR.out]; rfl, hb⟩
        · rw [rvF_on h1 h3] at H
          have H2 := hq hkk
          clear hkk
          go_wp2_with fail
          go_roundw
          case rel => exact ⟨N + bt s k % 128 * sc j, j + 1, f, by omega, by have := H2.out; omega, by go_num, by simp [sc], by have := H2.out; go_num, by omega, by simp only [sc]; omega, (by have e := H2.out; rw [show a + (j + 1) = k + 1 by omega]; exact H), trivial⟩
          case measure => simp [intOf]; omega
      · have h5 : j = 5 := by omega
        subst h5
        have hfz : f = 0 := by omega
        subst hfz
        rw [sc_five] at *
        have H2 := hq hkk
        clear hkk
        go_wp2
        go_ret3
        exact ⟨by rw [H.out]; rfl, Below.refl _ _⟩
    · rw [rvF_end h1] at H
      have H2 := hq hkk
      clear hkk
      go_wp2
      go_ret3
      exact ⟨by rw [H.out]; rfl, Below.refl _ _⟩
theorem cut_run (s : ByteArray) (a k : Nat) (h : a ≤ k + 1) (h1 : k < s.size) (w : World) :
    (Instr.slice 9 (.string s) (some (.int .i64 (a : Int))) (some (.int .i64 ((k : Int) + 1))) none).run Tryz.prog w = .ok (.string (s.extract a (k + 1))) w := by
  rw [run_slice_string_if w 9 s .i64 .i64 (a : Int) ((k : Int) + 1) Tryz.underlying9, if_pos (by omega), if_pos (by omega)]
  rfl
theorem var22' (N : Int) (h0 : 0 ≤ N) (hN : N ≤ 1000000000) (w : World) :
    Calls Tryz.prog 160 #[.int .i64 N] w fun e w' => e = .returned (.string ⟨(vt N.toNat).toArray⟩) ∧ Below w.heap.size w w' := by
  obtain ⟨n, rfl⟩ := Int.eq_ofNat_of_zero_le h0
  exact var22 n (by omega) w
theorem rv11_in (s : ByteArray) (a : Nat) (hs : s.size ≤ 1048576) (ha : a ≤ s.size) (w : World) :
    Calls Tryz.prog 158 #[.string s, .int .i64 a] w fun e w' => e = .returned (enc3 (rvF s a 5 a 0 1)) ∧ Below w.heap.size w w' := by
  have hbt := get_bt s
  go_enter Tryz.func158, Tryz.ntmps158
  go_wp2_with fail
  refine (in21 _ _ _ _).mono ?_
  rintro e w' ⟨rfl, rfl⟩
  rw [decide_eq_true (by omega)]
  go_wp2
  go_loopw [7, 8, 9] (fun n v i wr => ∃ (N : Int) (j f : Nat), f + j = 5 ∧ a + j ≤ s.size ∧ n = .int .i64 N ∧ v = .int .i64 (sc j) ∧ i = .int .i64 (a + j : Nat) ∧ 0 ≤ N ∧ N < sc j ∧ Hid (rvF s a 5 a 0 1 = rvF s a f (a + j) N (sc j)) ∧ wr = w') (fun _ _ i _ => s.size - (intOf i).toNat)
  case atStart => exact ⟨0, 0, 5, rfl, ha, rfl, rfl, rfl, by decide, by decide, (show Hid _ from rfl), rfl⟩
  case round =>
    obtain ⟨N, j, f, hf, hk, rfl, rfl, rfl, h0, hN, H, rfl⟩ := hrel
    obtain ⟨k, hkk⟩ : ∃ k, k = a + j := ⟨_, rfl⟩
    rw [← hkk] at hk H ⊢
    have ha' : a ≤ k := by omega
    have hsc := sc_pos j
    have H2 := hq hkk
    by_cases h1 : k < s.size
    · have hb0 := bt_nonneg s k
      have hb1 := bt_le s k
      have hP := prod_bd (bt s k) (sc j) hsc
      by_cases h2 : j < 5
      · have hle := sc_le j h2
        have hk5 : k < a + 5 := by omega
        clear hkk
        obtain ⟨f, rfl⟩ : ∃ f', f = f' + 1 := ⟨f - 1, by omega⟩
        by_cases h3 : bt s k < 128
        · rw [rvF_fin h1 h3] at H
          go_wp2
          have hM0 : 0 ≤ N + bt s k % 128 * sc j := by omega
          have hsl := cut_run s a k (by omega) h1
          have hwr : IntKind.i64.wrap ((k : Int) + 1) = (k : Int) + 1 := IntWalk.i64_in _ (by omega)
          generalize hM : N + bt s k % 128 * sc j = M at *
          clear hM hP hN h0 hsc hle hb0 hb1 h3 hf h2 hk5
          by_cases h4 : M ≤ 1000000000
          · have hd : decide (1000000000 < M) = false := by simp; omega
            cases e : vt M.toNat == (s.extract a (k + 1)).toList
            · rw [fin_no e] at H
              go_region_held3 (fun _ => True) (trivial) (first | (go_at_call 160; refine (var22' _ hM0 h4 _).mono ?_; rintro e w1 ⟨rfl, hb⟩))
              go_wp2
              go_ret3
              exact ⟨by rw [H.out]; rfl, (Below.refl _ _).drew.trans hb⟩
            · rw [fin_yes h4 e] at H
              go_region_held3 (fun _ => True) (trivial) (first | (go_at_call 160; refine (var22' _ hM0 h4 _).mono ?_; rintro e w1 ⟨rfl, hb⟩))
              go_wp2
              go_ret3
              exact ⟨by rw [H.out]; rfl, (Below.refl _ _).drew.trans hb⟩
          · rw [fin_big h4] at H
            have hd : decide (1000000000 < M) = true := by simp; omega
            go_quiet (fail)
            go_wp2
            go_ret3
            exact ⟨by rw [H.out]; rfl, below_drewN (Below.refl _ _) _⟩
        · rw [rvF_on h1 h3] at H
          go_wp2_with fail
          go_roundw
          case rel => exact ⟨N + bt s k % 128 * sc j, j + 1, f, by omega, by have := H2.out; omega, by go_num, by simp [sc], by have := H2.out; go_num, by omega, by simp only [sc]; omega, (by have e := H2.out; rw [show a + (j + 1) = k + 1 by omega]; exact H), trivial⟩
          case measure => simp [intOf]; omega
      · have hk5 : a + 5 ≤ k := by omega
        have hfz : f = 0 := by omega
        subst hfz
        clear hkk
        go_wp2
        go_ret3
        exact ⟨by rw [H.out]; rfl, Below.refl _ _⟩
    · rw [rvF_end h1] at H
      clear hkk
      go_wp2
      go_ret3
      exact ⟨by rw [H.out]; rfl, Below.refl _ _⟩
theorem rv11 (s : ByteArray) (a : Int) (hs : s.size ≤ 1048576) (w : World) :
    Calls Tryz.prog 158 #[.string s, .int .i64 a] w fun e w' => e = .returned (enc3 (rv s a)) ∧ Below w.heap.size w w' := by
  by_cases h : 0 ≤ a ∧ a ≤ s.size
  · obtain ⟨n, rfl⟩ := Int.eq_ofNat_of_zero_le h.1
    rw [rv, if_pos h]
    exact rv11_in s n hs (by omega) w
  · rw [rv, if_neg h]
    go_enter Tryz.func158, Tryz.ntmps158
    go_wp2_with fail
    refine (in21 _ _ _ _).mono ?_
    rintro e w' ⟨rfl, rfl⟩
    rw [decide_eq_false h]
    clear h
    go_wp2
    go_ret3
    exact ⟨rfl, Below.refl _ _⟩
theorem rv12 (s : ByteArray) (a : Int) (hs : s.size ≤ 1048576) (w : World) :
    Calls Tryz.prog 183 #[.string s, .int .i64 a] w fun e w' => e = .returned (enc3 (rv s a)) ∧ Below w.heap.size w w' := by
  by_cases h : 0 ≤ a ∧ a ≤ s.size
  · obtain ⟨n, rfl⟩ := Int.eq_ofNat_of_zero_le h.1
    rw [rv, if_pos h]
    exact rv12_in s n hs (by omega) w
  · rw [rv, if_neg h]
    by_cases h1 : a < 0
    · go_enter Tryz.func183, Tryz.ntmps183
      go_wp2
      go_ret3
      exact ⟨rfl, Below.refl _ _⟩
    · have h2 : s.size < a := by omega
      clear h
      go_enter Tryz.func183, Tryz.ntmps183
      go_wp2
      go_ret3
      exact ⟨rfl, Below.refl _ _⟩
theorem bt_drop {s : ByteArray} {k : Nat} {b : UInt8} {l : List UInt8} (h : s.data.toList.drop k = b :: l) : k < s.size ∧ bt s k = (b.toNat : Int) ∧ s.data.toList.drop (k + 1) = l := by
  have hk : k < s.data.toList.length := by
    rcases Nat.lt_or_ge k s.data.toList.length with h' | h'
    · exact h'
    · rw [List.drop_of_length_le h'] at h; cases h
  have hk' : k < s.size := by rw [Array.length_toList] at hk; exact hk
  have e := List.drop_eq_getElem_cons hk
  rw [h] at e
  injection e with e1 e2
  refine ⟨hk', ?_, e2.symm⟩
  rw [← get_bt s k hk', e1]
  rfl
theorem ext_list (s : ByteArray) (a b : Nat) : (s.extract a b).data.toList = (s.data.toList.drop a).take (b - a) := by
  rw [ByteArray.data_extract, Array.toList_extract]
theorem rv_back : ∀ (f : Nat) (s : ByteArray) (a k m : Nat) (N S : Int) (post : List UInt8), (vt m).length ≤ f → s.data.toList.drop k = vt m ++ post → rvF s a f k N S = fin s a (k + (vt m).length) (N + (m : Int) * S)
  | 0, s, a, k, m, N, S, post, hf, _ => absurd (vt_pos m) (by omega)
  | f + 1, s, a, k, m, N, S, post, hf, hd => by
    by_cases hb : 127 < m
    · have hv := vt_big hb
      rw [hv] at hd hf ⊢
      simp only [List.cons_append] at hd
      obtain ⟨h1, h2, h3⟩ := bt_drop hd
      rw [toNat_big] at h2
      have hn : ¬ bt s k < 128 := by omega
      have hm : bt s k % 128 = (m : Int) % 128 := by omega
      rw [rvF_on h1 hn, rv_back f s a (k + 1) (m / 128) _ _ post (by simpa using hf) h3, hm]
      congr 1
      · simp only [List.length_cons]; omega
      · have e : (m : Int) = (m : Int) % 128 + 128 * ((m / 128 : Nat) : Int) := by omega
        conv => rhs; rw [e, Int.add_mul]
        rw [Int.add_assoc, Int.mul_assoc, Int.mul_comm 128 _, Int.mul_assoc]
    · have hv := vt_small hb
      rw [hv] at hd ⊢
      simp only [List.cons_append, List.nil_append] at hd
      obtain ⟨h1, h2, h3⟩ := bt_drop hd
      rw [toNat_small hb] at h2
      have hn : bt s k < 128 := by omega
      have hm : bt s k % 128 = (m : Int) := by omega
      rw [rvF_fin h1 hn, hm]
      rfl
theorem vt_short : ∀ (f n : Nat), n < 128 ^ (f + 1) → (vt n).length ≤ f + 1
  | 0, n, h => by rw [vt_small (by simp at h; omega)]; simp
  | f + 1, n, h => by
    by_cases hb : 127 < n
    · rw [vt_big hb]
      have := vt_short f (n / 128) (by rw [Nat.pow_succ] at h; omega)
      simp only [List.length_cons]; omega
    · rw [vt_small hb]; simp
theorem vt_five {n : Nat} (h : n ≤ 1000000000) : (vt n).length ≤ 5 := by
  have e : (128 : Nat) ^ (4 + 1) = 34359738368 := by decide
  exact vt_short 4 n (by omega)
theorem rv_at {s : ByteArray} {a n : Nat} {post : List UInt8} (hn : n ≤ 1000000000) (hd : s.data.toList.drop a = vt n ++ post) (ha : a ≤ s.size) : rv s (a : Int) = some ((n : Int), a + (vt n).length) := by
  unfold rv
  rw [if_pos (by omega), show (a : Int).toNat = a from rfl, rv_back 5 s a a n 0 1 post (vt_five hn) hd]
  rw [show (0 : Int) + (n : Int) * 1 = (n : Int) by omega]
  refine fin_yes (by omega) ?_
  rw [ByteArray.toList_eq, ext_list, hd]
  simp
theorem size_list (s : ByteArray) : s.size = s.data.toList.length := (Array.length_toList ..).symm
end Go.Proofs.YtfhhnelffldggaaGreatDoor.V
namespace Go.Proofs.YtfhhnelffldggaaGreatDoor
open Go.RowKit Go.PlainAid
set_option linter.unusedVariables false
theorem put_self (a : Act) (d : Nat) : a.put (some d) (a.tmps.getD d undef) = a := by
  cases a with
  | mk tmps defers =>
    simp only [Act.put]
    congr 1
    apply Array.ext_getElem?
    intro i
    rw [Array.getElem?_setIfInBounds]
    by_cases h : d = i
    · subst h
      by_cases h2 : d < tmps.size
      · simp [h2, Array.getD]
      · simp [h2]
    · simp [h]
section
variable {P : Program} {md : Region.Mode} {ops : Array Oper} {Q : Exit → Act → World → Prop} {S : World → Prop}
theorem wpAnyH_named {fuel : Nat} {listed : Array Bool} {a : Act} {w : World} (h : ∀ a0, a0 = a → wpAnyH P md ops Q S fuel listed a0 w) : wpAnyH P md ops Q S fuel listed a w := h a rfl
end
set_option linter.unusedSimpArgs false
def goodM (m : Mn) : Bool := !m.b || (decide (m.n = 0) && decide (m.d = 0))
theorem good_b {m : Mn} (h : goodM m = true) (hb : m.b = true) : m.n = 0 ∧ m.d = 0 := by
  unfold goodM at h
  rw [hb] at h
  simpa using h
theorem top_new {m : Mn} (h : okM m = true) (h1 : m.a = 1) : m = newM := by
  obtain ⟨a, b, n, d, s⟩ := m
  obtain ⟨h2, h3, h4, h5⟩ := ((okM_iff _).1 h).2.2 h1
  dsimp only at h1 h2 h3 h4 h5
  subst h1 h2 h3 h4 h5
  rfl
theorem endM_good (m : Mn) : goodM (endM m).m = true := by
  unfold endM noP
  repeat' split
  all_goals rfl
def SafM (m : Mn) : Prop := goodM m = true ∧ (m.a = 2 ∨ m.a = 3 → m.b = false)
theorem pressM_good {m : Mn} (hk : okM m = true) (h : SafM m) (key : Int) : SafM (pressM m key).m := by
  have h2 := h.2
  unfold pressM
  rw [if_neg (by rw [hk]; decide)]
  by_cases h1 : m.a = 1
  · rw [if_pos h1, top_new hk h1]
    unfold topM noP
    repeat' split
    all_goals exact And.intro rfl (by decide)
  rw [if_neg h1]
  by_cases h3 : 48 ≤ key ∧ key ≤ 57
  · rw [if_pos h3]
    split
    · exact And.intro h.1 h2
    · exact h
  rw [if_neg h3]
  split
  · exact And.intro rfl (by decide)
  split
  · exact h
  by_cases h4 : m.a = 2
  · rw [if_pos h4]
    have hb := h2 (Or.inl h4)
    refine And.intro ?_ (fun _ => hb)
    unfold goodM noP
    dsimp only
    rw [hb]
    rfl
  rw [if_neg h4]
  by_cases h5 : m.a = 3
  · rw [if_pos h5]
    have hb := h2 (Or.inr h5)
    refine And.intro ?_ (fun _ => hb)
    unfold goodM noP
    dsimp only
    rw [hb]
    rfl
  rw [if_neg h5]
  refine And.intro (endM_good m) ?_
  have : (endM m).m = newM := by
    unfold endM noP
    repeat' split
    all_goals rfl
  rw [this]
  decide
def GdM (m : Mn) : Prop := okM m = true ∧ SafM m
theorem GdM.new : GdM newM := ⟨newM_ok, And.intro rfl (by decide)⟩
theorem GdM.press {m : Mn} (h : GdM m) (key : Int) : GdM (pressM m key).m := ⟨pressM_ok h.1 key, pressM_good h.1 h.2 key⟩
theorem GdM.all : ∀ (k : List UInt8) {m : Mn}, GdM m → GdM (allM m k).1
  | [], _, h => h
  | x :: k, _, h => GdM.all k (h.press _)
theorem GdM.from {k : List UInt8} {m M : Mn} {l : List Od4} (h : allM m k = (M, l)) (hg : GdM m) : GdM M := by
  have := GdM.all k hg
  rw [h] at this
  exact this
theorem box8_cells {w : World} {k : Nat} {t : TypeId} {x0 x1 x2 x3 x4 x5 x6 x7 : Value} (h : w.heap[k]? = some (.cells #[x0, x1, x2, x3, x4, x5, x6, x7] t)) :
    (w.cell? ⟨k, 0, none⟩ = some x0 ∧ w.cell? ⟨k, 1, none⟩ = some x1 ∧ w.cell? ⟨k, 2, none⟩ = some x2 ∧ w.cell? ⟨k, 3, none⟩ = some x3 ∧ w.cell? ⟨k, 4, none⟩ = some x4 ∧ w.cell? ⟨k, 5, none⟩ = some x5 ∧ w.cell? ⟨k, 6, none⟩ = some x6 ∧ w.cell? ⟨k, 7, none⟩ = some x7) ∧ w.frozen? ⟨k, 0, none⟩ = false ∧ w.frozen? ⟨k, 1, none⟩ = false ∧ w.frozen? ⟨k, 2, none⟩ = false ∧ w.frozen? ⟨k, 3, none⟩ = false ∧ w.frozen? ⟨k, 4, none⟩ = false ∧ w.frozen? ⟨k, 5, none⟩ = false ∧ w.frozen? ⟨k, 6, none⟩ = false ∧ w.frozen? ⟨k, 7, none⟩ = false := by
  refine ⟨⟨?_, ?_, ?_, ?_, ?_, ?_, ?_, ?_⟩, ?_, ?_, ?_, ?_, ?_, ?_, ?_, ?_⟩ <;> simp [World.cell?, World.frozen?, h]
theorem alP (w : World) (o : Obj) : Below w.heap.size w (w.alloc o) := (Below.refl _ _).alloc (Nat.le_refl _) _
theorem pm_yes {p : Pm} {b : Bool} (hb : b = true ↔ p.ok) (h : p.ok) : b = true := hb.2 h
theorem pm_no {p : Pm} {b : Bool} (hb : b = true ↔ p.ok) (h : ¬ p.ok) : b = false := by
  cases b
  · rfl
  · exact absurd (hb.1 rfl) h
theorem rat_yes {n d r : Int} (h : ratR n d r) : rateOk n d r = true := decide_eq_true h
theorem rat_no {n d r : Int} (h : ¬ ratR n d r) : rateOk n d r = false := decide_eq_false h
theorem pumpokS_s1 (n d r l b g k : Int)  (B : Bool) (hB : B = true ↔ Pm.ok ⟨1, n, d, r, l, b, g, k⟩) (w : World) : Calls Tryz.prog 94 #[PV 1 n d r l b g k] w fun e w' => e = .returned (.bool B) ∧ Below w.heap.size w w' := by
  have HB0 : Hid (Below w.heap.size w (w.alloc (PB 1 n d r l b g k))) := alP _ _
  have HK0 : Hid ((w.alloc (PB 1 n d r l b g k)).heap[w.heap.size]? = some (PB 1 n d r l b g k)) := heap_new w _
  have k0 := box8_cells HK0.out
  have HR : Hid (∀ w, Calls Tryz.prog 150 #[.agg #[.int .i64 n, .int .i64 d, .int .i64 r]] w fun e w' => e = .returned (.bool (rateOk n d r)) ∧ Below w.heap.size w w') := fun w => rateS n d r w
  have D1 : Hid (decide ((0 : Int) ≤ 1 ∧ (1 : Int) ≤ 3) = true) := rfl
  by_cases h2 : ratR n d r
  · have Dr : Hid (rateOk n d r = true) := rat_yes h2
    have h2' := h2
    unfold ratR at h2'
    have hw : IntKind.i64.wrap (3 * d) = 3 * d := by rw [IntKind.wrap_i64]; omega
    by_cases h3 : n ≤ 3 * d
    · have _t := trivial
      by_cases h4 : 0 ≤ l ∧ l ≤ 5000
      · have Dl : Hid (decide (0 ≤ l ∧ l ≤ 5000) = true) := decide_eq_true h4
        by_cases h5 : 0 < l
        · have _t := trivial
          by_cases h6 : 0 ≤ b ∧ b ≤ 100
          · have Db : Hid (decide (0 ≤ b ∧ b ≤ 100) = true) := decide_eq_true h6
            by_cases h7 : 0 ≤ g ∧ g ≤ 1000000000000
            · have Dg : Hid (decide (0 ≤ g ∧ g ≤ 1000000000000) = true) := decide_eq_true h7
              by_cases h8 : 0 ≤ k ∧ k ≤ 2
              · have Dk : Hid (decide (0 ≤ k ∧ k ≤ 2) = true) := decide_eq_true h8
                by_cases h9 : k = 0
                · have qk0 : (k == 0) = true := by simpa using h9
                  obtain rfl : B = true := pm_yes (p := ⟨1, n, d, r, l, b, g, k⟩) hB (by unfold Pm.ok; dsimp only; exact ⟨by omega, h2, by omega, by omega, by omega, by omega, by omega, by omega, by omega⟩)
                  clear hB h2 h2' h4 h6 h7 h8 h9
                  go_enter Tryz.func94, Tryz.ntmps94
                  go_wp2_with fail
                  refine (inS 0 3 1 true D1.out _).mono ?_
                  rintro e wq ⟨rfl, rfl⟩
                  go_wp2_with fail
                  refine (HR.out _).mono ?_
                  rintro e w1 ⟨rfl, hb1⟩
                  have HB1 := bq HB0 hb1
                  have HK1 := rq HK0 hb1
                  have k1 := box8_cells HK1.out
                  clear hb1 HB0 HK0 k0
                  rw [Dr.out]
                  go_wp2_with fail
                  refine (inS 0 5000 l true Dl.out _).mono ?_
                  rintro e wq ⟨rfl, rfl⟩
                  go_wp2_with fail
                  refine (inS 0 100 b true Db.out _).mono ?_
                  rintro e wq ⟨rfl, rfl⟩
                  go_wp2_with fail
                  refine (inS 0 1000000000000 g true Dg.out _).mono ?_
                  rintro e wq ⟨rfl, rfl⟩
                  go_wp2_with fail
                  refine (inS 0 2 k true Dk.out _).mono ?_
                  rintro e wq ⟨rfl, rfl⟩
                  go_wp2
                  go_ret
                  exact ⟨rfl, HB1.out⟩
                · have qk0 : (k == 0) = false := by simpa using h9
                  obtain rfl : B = false := pm_no (p := ⟨1, n, d, r, l, b, g, k⟩) hB (fun h => by unfold Pm.ok ratR at h; dsimp only at h; omega)
                  clear hB h2 h2' h4 h6 h7 h8 h9
                  go_enter Tryz.func94, Tryz.ntmps94
                  go_wp2_with fail
                  refine (inS 0 3 1 true D1.out _).mono ?_
                  rintro e wq ⟨rfl, rfl⟩
                  go_wp2_with fail
                  refine (HR.out _).mono ?_
                  rintro e w1 ⟨rfl, hb1⟩
                  have HB1 := bq HB0 hb1
                  have HK1 := rq HK0 hb1
                  have k1 := box8_cells HK1.out
                  clear hb1 HB0 HK0 k0
                  rw [Dr.out]
                  go_wp2_with fail
                  refine (inS 0 5000 l true Dl.out _).mono ?_
                  rintro e wq ⟨rfl, rfl⟩
                  go_wp2_with fail
                  refine (inS 0 100 b true Db.out _).mono ?_
                  rintro e wq ⟨rfl, rfl⟩
                  go_wp2_with fail
                  refine (inS 0 1000000000000 g true Dg.out _).mono ?_
                  rintro e wq ⟨rfl, rfl⟩
                  go_wp2_with fail
                  refine (inS 0 2 k true Dk.out _).mono ?_
                  rintro e wq ⟨rfl, rfl⟩
                  go_wp2
                  go_ret
                  exact ⟨rfl, HB1.out⟩
              · have Dk : Hid (decide (0 ≤ k ∧ k ≤ 2) = false) := decide_eq_false h8
                obtain rfl : B = false := pm_no (p := ⟨1, n, d, r, l, b, g, k⟩) hB (fun h => by unfold Pm.ok ratR at h; dsimp only at h; omega)
                clear hB h2 h2' h4 h6 h7 h8
                go_enter Tryz.func94, Tryz.ntmps94
                go_wp2_with fail
                refine (inS 0 3 1 true D1.out _).mono ?_
                rintro e wq ⟨rfl, rfl⟩
                go_wp2_with fail
                refine (HR.out _).mono ?_
                rintro e w1 ⟨rfl, hb1⟩
                have HB1 := bq HB0 hb1
                have HK1 := rq HK0 hb1
                have k1 := box8_cells HK1.out
                clear hb1 HB0 HK0 k0
                rw [Dr.out]
                go_wp2_with fail
                refine (inS 0 5000 l true Dl.out _).mono ?_
                rintro e wq ⟨rfl, rfl⟩
                go_wp2_with fail
                refine (inS 0 100 b true Db.out _).mono ?_
                rintro e wq ⟨rfl, rfl⟩
                go_wp2_with fail
                refine (inS 0 1000000000000 g true Dg.out _).mono ?_
                rintro e wq ⟨rfl, rfl⟩
                go_wp2_with fail
                refine (inS 0 2 k false Dk.out _).mono ?_
                rintro e wq ⟨rfl, rfl⟩
                go_wp2
                go_ret
                exact ⟨rfl, HB1.out⟩
            · have Dg : Hid (decide (0 ≤ g ∧ g ≤ 1000000000000) = false) := decide_eq_false h7
              obtain rfl : B = false := pm_no (p := ⟨1, n, d, r, l, b, g, k⟩) hB (fun h => by unfold Pm.ok ratR at h; dsimp only at h; omega)
              clear hB h2 h2' h4 h6 h7
              go_enter Tryz.func94, Tryz.ntmps94
              go_wp2_with fail
              refine (inS 0 3 1 true D1.out _).mono ?_
              rintro e wq ⟨rfl, rfl⟩
              go_wp2_with fail
              refine (HR.out _).mono ?_
              rintro e w1 ⟨rfl, hb1⟩
              have HB1 := bq HB0 hb1
              have HK1 := rq HK0 hb1
              have k1 := box8_cells HK1.out
              clear hb1 HB0 HK0 k0
              rw [Dr.out]
              go_wp2_with fail
              refine (inS 0 5000 l true Dl.out _).mono ?_
              rintro e wq ⟨rfl, rfl⟩
              go_wp2_with fail
              refine (inS 0 100 b true Db.out _).mono ?_
              rintro e wq ⟨rfl, rfl⟩
              go_wp2_with fail
              refine (inS 0 1000000000000 g false Dg.out _).mono ?_
              rintro e wq ⟨rfl, rfl⟩
              go_wp2
              go_ret
              exact ⟨rfl, HB1.out⟩
          · have Db : Hid (decide (0 ≤ b ∧ b ≤ 100) = false) := decide_eq_false h6
            obtain rfl : B = false := pm_no (p := ⟨1, n, d, r, l, b, g, k⟩) hB (fun h => by unfold Pm.ok ratR at h; dsimp only at h; omega)
            clear hB h2 h2' h4 h6
            go_enter Tryz.func94, Tryz.ntmps94
            go_wp2_with fail
            refine (inS 0 3 1 true D1.out _).mono ?_
            rintro e wq ⟨rfl, rfl⟩
            go_wp2_with fail
            refine (HR.out _).mono ?_
            rintro e w1 ⟨rfl, hb1⟩
            have HB1 := bq HB0 hb1
            have HK1 := rq HK0 hb1
            have k1 := box8_cells HK1.out
            clear hb1 HB0 HK0 k0
            rw [Dr.out]
            go_wp2_with fail
            refine (inS 0 5000 l true Dl.out _).mono ?_
            rintro e wq ⟨rfl, rfl⟩
            go_wp2_with fail
            refine (inS 0 100 b false Db.out _).mono ?_
            rintro e wq ⟨rfl, rfl⟩
            go_wp2
            go_ret
            exact ⟨rfl, HB1.out⟩
        · obtain rfl : l = 0 := by omega
          obtain rfl : B = false := pm_no (p := ⟨1, n, d, r, 0, b, g, k⟩) hB (fun h => by unfold Pm.ok ratR at h; dsimp only at h; omega)
          clear hB h2 h2' h4 h5
          go_enter Tryz.func94, Tryz.ntmps94
          go_wp2_with fail
          refine (inS 0 3 1 true D1.out _).mono ?_
          rintro e wq ⟨rfl, rfl⟩
          go_wp2_with fail
          refine (HR.out _).mono ?_
          rintro e w1 ⟨rfl, hb1⟩
          have HB1 := bq HB0 hb1
          have HK1 := rq HK0 hb1
          have k1 := box8_cells HK1.out
          clear hb1 HB0 HK0 k0
          rw [Dr.out]
          go_wp2_with fail
          refine (inS 0 5000 0 true Dl.out _).mono ?_
          rintro e wq ⟨rfl, rfl⟩
          go_wp2
          go_ret
          exact ⟨rfl, HB1.out⟩
      · have Dl : Hid (decide (0 ≤ l ∧ l ≤ 5000) = false) := decide_eq_false h4
        obtain rfl : B = false := pm_no (p := ⟨1, n, d, r, l, b, g, k⟩) hB (fun h => by unfold Pm.ok ratR at h; dsimp only at h; omega)
        clear hB h2 h2' h4
        go_enter Tryz.func94, Tryz.ntmps94
        go_wp2_with fail
        refine (inS 0 3 1 true D1.out _).mono ?_
        rintro e wq ⟨rfl, rfl⟩
        go_wp2_with fail
        refine (HR.out _).mono ?_
        rintro e w1 ⟨rfl, hb1⟩
        have HB1 := bq HB0 hb1
        have HK1 := rq HK0 hb1
        have k1 := box8_cells HK1.out
        clear hb1 HB0 HK0 k0
        rw [Dr.out]
        go_wp2_with fail
        refine (inS 0 5000 l false Dl.out _).mono ?_
        rintro e wq ⟨rfl, rfl⟩
        go_wp2
        go_ret
        exact ⟨rfl, HB1.out⟩
    · obtain rfl : B = false := pm_no (p := ⟨1, n, d, r, l, b, g, k⟩) hB (fun h => by unfold Pm.ok ratR at h; dsimp only at h; omega)
      clear hB h2 h2'
      go_enter Tryz.func94, Tryz.ntmps94
      go_wp2_with fail
      refine (inS 0 3 1 true D1.out _).mono ?_
      rintro e wq ⟨rfl, rfl⟩
      go_wp2_with fail
      refine (HR.out _).mono ?_
      rintro e w1 ⟨rfl, hb1⟩
      have HB1 := bq HB0 hb1
      have HK1 := rq HK0 hb1
      have k1 := box8_cells HK1.out
      clear hb1 HB0 HK0 k0
      rw [Dr.out]
      go_wp2
      go_ret
      exact ⟨rfl, HB1.out⟩
  · have Dr : Hid (rateOk n d r = false) := rat_no h2
    obtain rfl : B = false := pm_no (p := ⟨1, n, d, r, l, b, g, k⟩) hB (fun h => by unfold Pm.ok at h; dsimp only at h; exact h2 h.2.1)
    clear hB h2
    go_enter Tryz.func94, Tryz.ntmps94
    go_wp2_with fail
    refine (inS 0 3 1 true D1.out _).mono ?_
    rintro e wq ⟨rfl, rfl⟩
    go_wp2_with fail
    refine (HR.out _).mono ?_
    rintro e w1 ⟨rfl, hb1⟩
    have HB1 := bq HB0 hb1
    have HK1 := rq HK0 hb1
    have k1 := box8_cells HK1.out
    clear hb1 HB0 HK0 k0
    rw [Dr.out]
    go_wp2
    go_ret
    exact ⟨rfl, HB1.out⟩
end Go.Proofs.YtfhhnelffldggaaGreatDoor
