/-
  The draws' contracts.
-/
import Derived.Test.YtdifmjcghaoilaaGreatDoorGaBL
import Derived.Laws.BitsLemmas
import Derived.Laws.Rows
namespace Go.Proofs.YtdifmjcghaoilaaGreatDoor
open Go.RowKit Go.PlainAid
set_option linter.unusedVariables false

theorem and255 (n : Int) : bits .and .i64 n 255 = n % 256 := by
  have h : (BitVec.ofInt 64 255).toNat = 2 ^ 8 - 1 := by decide
  have key : (BitVec.ofInt 64 n &&& BitVec.ofInt 64 255).toNat = (n % ((2 ^ 64 : Nat) : Int)).toNat % 2 ^ 8 := by
    rw [BitVec.toNat_and, BitVec.toNat_ofInt, h, Nat.and_two_pow_sub_one_eq_mod]
  show IntKind.i64.wrap ((BitVec.ofInt 64 n &&& BitVec.ofInt 64 255).toNat : Nat) = n % 256
  rw [key, IntKind.wrap_i64]
  omega

theorem and30 (n : Int) : bits .and .i64 n 1073741823 = n % 1073741824 := by
  have h : (BitVec.ofInt 64 1073741823).toNat = 2 ^ 30 - 1 := by decide
  have key : (BitVec.ofInt 64 n &&& BitVec.ofInt 64 1073741823).toNat = (n % ((2 ^ 64 : Nat) : Int)).toNat % 2 ^ 30 := by
    rw [BitVec.toNat_and, BitVec.toNat_ofInt, h, Nat.and_two_pow_sub_one_eq_mod]
  show IntKind.i64.wrap ((BitVec.ofInt 64 n &&& BitVec.ofInt 64 1073741823).toNat : Nat) = n % 1073741824
  rw [key, IntKind.wrap_i64]
  omega

/-- the cursor's block -/
def CurAt (w : World) (C : Nat) (a : Option Addr) (len cap i : Nat) (h : Int) : Prop := w.heap[C]? = some (.cells #[.slice a len cap, .int .i64 (i : Int), .int .i64 h] 106 (0, 0))

def Cur (w : World) (C : Nat) (a : Option Addr) (len cap : Nat) : Prop := ∃ (i : Nat) (h : Int), i ≤ len ∧ CurAt w C a len cap i h

/-- the bytes that were handed in, below block B -/
def CodeOk (w : World) (B : Nat) (a : Option Addr) (len : Nat) : Prop := len ≤ 1048576 ∧ (0 < len → ∃ b off, a = some ⟨b, off, none⟩ ∧ b < B ∧ ∀ j, j < len → ∃ x : Int, 0 ≤ x ∧ x ≤ 255 ∧ w.cell? ⟨b, off + j, none⟩ = some (.int .u8 x))

theorem code_below {w w' : World} {B : Nat} {a : Option Addr} {len : Nat} (h : CodeOk w B a len) (hb : Below B w w') : CodeOk w' B a len := by
  refine ⟨h.1, fun hp => ?_⟩
  obtain ⟨b, off, ha, hlt, hc⟩ := h.2 hp
  exact ⟨b, off, ha, hlt, fun j hj => by
    obtain ⟨x, h0, h1, hx⟩ := hc j hj
    exact ⟨x, h0, h1, (hb.cell (p := ⟨b, off + j, none⟩) hlt).trans hx⟩⟩

theorem code_grown {w w' : World} {B C : Nat} {a : Option Addr} {len : Nat} (h : CodeOk w B a len) (hb : w.grownBy w' (some C)) (hC : B ≤ C) (hB : B ≤ w.heap.size) : CodeOk w' B a len :=
  code_below h ((Below.refl B w).grown hb hB (fun k hk => by cases hk; exact hC))

theorem grown_trans {w w1 w2 : World} {r : Option Nat} (h : w.grownBy w1 r) (k : w1.grownBy w2 r) : w.grownBy w2 r :=
  ⟨k.os.trans h.os, k.tape.trans h.tape, k.output.trans h.output, Nat.le_trans h.size k.size, fun j hj hne => (k.block j (Nat.lt_of_lt_of_le hj h.size) hne).trans (h.block j hj hne)⟩

theorem grown_set (w : World) (C i : Nat) (v : Value) : w.grownBy (w.setCell ⟨C, i, none⟩ v) (some C) :=
  ⟨rfl, rfl, rfl, by simp, fun k _ hne => heap_setCell_other w _ k v (fun e => hne (by rw [e]))⟩

theorem grown_drewN (w : World) (n : Nat) (r : Option Nat) : w.grownBy (w.drewN n) r := ⟨rfl, rfl, rfl, Nat.le_refl _, fun _ _ _ => rfl⟩

theorem cur_lt {w : World} {C : Nat} {a : Option Addr} {len cap : Nat} (h : Cur w C a len cap) : C < w.heap.size := by
  obtain ⟨i, hh, _, hc⟩ := h
  rcases Nat.lt_or_ge C w.heap.size with h' | h'
  · exact h'
  · unfold CurAt at hc; rw [Array.getElem?_eq_none h'] at hc; cases hc

theorem cur_h {w : World} {C : Nat} {a : Option Addr} {len cap i : Nat} {h : Int} (hc : CurAt w C a len cap i h) (x : Int) : CurAt (w.setCell ⟨C, 2, none⟩ (.int .i64 x)) C a len cap i x :=
  heap_setCell_same w C 2 _ 106 (.int .i64 x) hc

theorem cur_i {w : World} {C : Nat} {a : Option Addr} {len cap i : Nat} {h : Int} (hc : CurAt w C a len cap i h) (j : Nat) : CurAt (w.setCell ⟨C, 1, none⟩ (.int .i64 (j : Int))) C a len cap j h :=
  heap_setCell_same w C 1 _ 106 (.int .i64 (j : Int)) hc

theorem cur_cells {w : World} {C : Nat} {a : Option Addr} {len cap i : Nat} {h : Int} (hc : CurAt w C a len cap i h) :
    w.cell? ⟨C, 0, none⟩ = some (.slice a len cap) ∧ w.cell? ⟨C, 1, none⟩ = some (.int .i64 (i : Int)) ∧ w.cell? ⟨C, 2, none⟩ = some (.int .i64 h) ∧ w.frozen? ⟨C, 1, none⟩ = false ∧ w.frozen? ⟨C, 2, none⟩ = false :=
  ⟨cell_of_row w C 0 _ 106 (0, 0) hc, cell_of_row w C 1 _ 106 (0, 0) hc, cell_of_row w C 2 _ 106 (0, 0) hc, frozen_of_row w C 1 _ 106 hc, frozen_of_row w C 2 _ 106 hc⟩

theorem cur_drewN {w : World} {C : Nat} {a : Option Addr} {len cap i : Nat} {h : Int} (hc : CurAt w C a len cap i h) (n : Nat) : CurAt (w.drewN n) C a len cap i h := hc

theorem mod_lo (x : Int) : 0 ≤ x % 256 := Int.emod_nonneg _ (by decide)

theorem mod_hi (x : Int) : x % 256 ≤ 255 := Int.le_of_lt_add_one (Int.emod_lt_of_pos _ (by decide))

set_option maxRecDepth 100000 in
set_option maxHeartbeats 1000000 in
theorem byte32 (C B : Nat) (a : Option Addr) (len cap : Nat) (w : World) (hC : Cur w C a len cap) (hB : B ≤ C) (hcode : CodeOk w B a len) :
    Calls Tryz.prog 125 #[.pointer (some ⟨C, 0, none⟩)] w fun e w' => ∃ x : Int, e = .returned (.int .i64 x) ∧ 0 ≤ x ∧ x ≤ 255 ∧ Cur w' C a len cap ∧ w.grownBy w' (some C) := by
  obtain ⟨i, h, hi, hc⟩ := hC
  obtain ⟨hlen, hbytes⟩ := hcode
  obtain ⟨c0, c1, c2, f1, f2⟩ := cur_cells hc
  have e255 := and255
  by_cases hlt : i < len
  · obtain ⟨b, off, rfl, hbB, hrow⟩ := hbytes (by omega)
    obtain ⟨z, z0, z1, hz⟩ := hrow i hlt
    have hne : b ≠ C := by omega
    have HC : Hid (CurAt w C (some ⟨b, off, none⟩) len cap i h) := hc
    have i0 : (0 : Int) ≤ (i : Int) := by omega
    have i1 : (i : Int) < (len : Int) := by omega
    clear hc hbytes hrow
    go_enter Tryz.func125, Tryz.ntmps125
    go_wp2
    go_quiet (fail)
    go_wp2
    go_quiet (fail)
    go_wp2
    go_quiet (fail)
    go_wp2
    go_ret
    exact ⟨_, rfl, mod_lo _, mod_hi _, ⟨i + 1, _, by omega, cur_i (cur_drewN (cur_h HC.out _) _) (i + 1)⟩, grown_trans (grown_trans (grown_set _ _ _ _) (grown_drewN _ _ _)) (grown_set _ _ _ _)⟩
  · have HC : Hid (CurAt w C a len cap i h) := hc
    have hle : ¬ ((i : Int) < (len : Int)) := by omega
    clear hc hbytes
    go_enter Tryz.func125, Tryz.ntmps125
    go_wp2
    go_quiet (fail)
    go_wp2
    go_quiet (fail)
    go_wp2
    go_ret
    exact ⟨_, rfl, mod_lo _, mod_hi _, ⟨i, _, by omega, cur_drewN (cur_drewN (cur_h HC.out _) _) _⟩, grown_trans (grown_trans (grown_set _ _ _ _) (grown_drewN _ _ _)) (grown_drewN _ _ _)⟩

/-- what a draw leaves: the cursor as a cursor, the bytes, nothing else turned -/
def Drawn (w w' : World) (C B : Nat) (a : Option Addr) (len cap : Nat) : Prop := Cur w' C a len cap ∧ CodeOk w' B a len ∧ w.grownBy w' (some C)

theorem below28_small (C B : Nat) (a : Option Addr) (len cap : Nat) (n : Int) (h0 : 0 < n) (h1 : n ≤ 256) (w : World) (hC : Cur w C a len cap) (hB : B ≤ C) (hcode : CodeOk w B a len) :
    Calls Tryz.prog 111 #[.pointer (some ⟨C, 0, none⟩), .int .i64 n] w fun e w' => ∃ x : Int, e = .returned (.int .i64 x) ∧ 0 ≤ x ∧ x < n ∧ Drawn w w' C B a len cap := by
  have hlt := cur_lt hC
  go_enter Tryz.func111, Tryz.ntmps111
  go_wp2_with fail
  refine (byte32 C B a len cap _ hC hB hcode).mono ?_
  rintro e w1 ⟨x, rfl, x0, x1, hC1, hg1⟩
  have HD : Hid (Drawn w w1 C B a len cap) := ⟨hC1, code_grown hcode hg1 hB (by omega), hg1⟩
  clear hC1 hg1 hC hcode
  go_wp2
  go_ret
  exact ⟨_, rfl, Int.emod_nonneg _ (by omega), Int.emod_lt_of_pos _ h0, HD.out⟩

theorem drawn_trans {w w1 w2 : World} {C B : Nat} {a : Option Addr} {len cap : Nat} (h : Drawn w w1 C B a len cap) (k : Drawn w1 w2 C B a len cap) : Drawn w w2 C B a len cap := ⟨k.1, k.2.1, grown_trans h.2.2 k.2.2⟩

set_option maxRecDepth 100000 in
set_option maxHeartbeats 400000 in
theorem below28_big (C B : Nat) (a : Option Addr) (len cap : Nat) (n : Int) (h0 : 256 < n) (h1 : n ≤ 9223372036854775807) (w : World) (hC : Cur w C a len cap) (hB : B ≤ C) (hcode : CodeOk w B a len) :
    Calls Tryz.prog 111 #[.pointer (some ⟨C, 0, none⟩), .int .i64 n] w fun e w' => ∃ x : Int, e = .returned (.int .i64 x) ∧ 0 ≤ x ∧ x < n ∧ Drawn w w' C B a len cap := by
  have hlt := cur_lt hC
  have HD0 : Hid (Drawn w w C B a len cap) := ⟨hC, hcode, World.grownBy.refl _ _⟩
  clear hC hcode
  go_enter Tryz.func111, Tryz.ntmps111
  go_wp2_with fail
  refine (byte32 C B a len cap _ HD0.out.1 hB HD0.out.2.1).mono ?_
  rintro e w1 ⟨x, rfl, x0, x1, hC1, hg1⟩
  have HD1 : Hid (Drawn w w1 C B a len cap) := ⟨hC1, code_grown HD0.out.2.1 hg1 hB (by omega), hg1⟩
  have s1 := hg1.size
  clear hC1 hg1 HD0
  go_wp2_with fail
  refine (byte32 C B a len cap _ HD1.out.1 hB HD1.out.2.1).mono ?_
  rintro e w2 ⟨y, rfl, y0, y1, hC1, hg1⟩
  have HD2 : Hid (Drawn w w2 C B a len cap) := drawn_trans HD1.out ⟨hC1, code_grown HD1.out.2.1 hg1 hB (by omega), hg1⟩
  have s2 := hg1.size
  clear hC1 hg1 HD1
  go_wp2_with fail
  refine (byte32 C B a len cap _ HD2.out.1 hB HD2.out.2.1).mono ?_
  rintro e w3 ⟨z, rfl, z0, z1, hC1, hg1⟩
  have HD3 : Hid (Drawn w w3 C B a len cap) := drawn_trans HD2.out ⟨hC1, code_grown HD2.out.2.1 hg1 hB (by omega), hg1⟩
  have s3 := hg1.size
  clear hC1 hg1 HD2
  go_wp2_with fail
  refine (byte32 C B a len cap _ HD3.out.1 hB HD3.out.2.1).mono ?_
  rintro e w4 ⟨u, rfl, u0, u1, hC1, hg1⟩
  have HD4 : Hid (Drawn w w4 C B a len cap) := drawn_trans HD3.out ⟨hC1, code_grown HD3.out.2.1 hg1 hB (by omega), hg1⟩
  clear hC1 hg1 HD3
  go_wp2
  go_ret
  exact ⟨_, rfl, Int.emod_nonneg _ (by omega), Int.emod_lt_of_pos _ (by omega), HD4.out⟩

theorem below28_none (C B : Nat) (a : Option Addr) (len cap : Nat) (n : Int) (h0 : n ≤ 0) (w : World) (hC : Cur w C a len cap) (hB : B ≤ C) (hcode : CodeOk w B a len) :
    Calls Tryz.prog 111 #[.pointer (some ⟨C, 0, none⟩), .int .i64 n] w fun e w' => ∃ x : Int, e = .returned (.int .i64 x) ∧ x = 0 ∧ Drawn w w' C B a len cap := by
  have HD0 : Hid (Drawn w w C B a len cap) := ⟨hC, hcode, World.grownBy.refl _ _⟩
  clear hC hcode
  go_enter Tryz.func111, Tryz.ntmps111
  go_wp2
  go_ret
  exact ⟨_, rfl, rfl, HD0.out⟩

/-- a number below n -/
theorem below28 (C B : Nat) (a : Option Addr) (len cap : Nat) (n : Int) (h0 : 0 < n) (h1 : n ≤ 9223372036854775807) (w : World) (hC : Cur w C a len cap) (hB : B ≤ C) (hcode : CodeOk w B a len) :
    Calls Tryz.prog 111 #[.pointer (some ⟨C, 0, none⟩), .int .i64 n] w fun e w' => ∃ x : Int, e = .returned (.int .i64 x) ∧ 0 ≤ x ∧ x < n ∧ Drawn w w' C B a len cap := by
  by_cases h : n ≤ 256
  · exact below28_small C B a len cap n h0 h w hC hB hcode
  · exact below28_big C B a len cap n (by omega) h1 w hC hB hcode

/-- what is appended to new memory turns nothing old -/
theorem grown_new {w W w1 : World} {C : Nat} {v : Value} (hg : w.grownBy W (some C)) (hk : W.grownBy w1 v.ownBlock) (hv : ∀ g, v.ownBlock = some g → w.heap.size ≤ g) : w.grownBy w1 (some C) :=
  ⟨hk.os.trans hg.os, hk.tape.trans hg.tape, hk.output.trans hg.output, Nat.le_trans hg.size hk.size, fun j hj hne =>
    (hk.block j (Nat.lt_of_lt_of_le hj hg.size) (fun e => by have := hv j e.symm; omega)).trans (hg.block j hj hne)⟩

theorem cur_new {W w1 : World} {C B : Nat} {a : Option Addr} {len cap : Nat} {v : Value} (h : Cur W C a len cap) (hk : W.grownBy w1 v.ownBlock) (hv : ∀ g, v.ownBlock = some g → C < g) : Cur w1 C a len cap := by
  have hlt := cur_lt h
  obtain ⟨i, x, hi, hc⟩ := h
  refine ⟨i, x, hi, ?_⟩
  unfold CurAt
  rw [hk.block C hlt (fun e => by have := hv C e.symm; omega)]
  exact hc

theorem grown_alloc {w W : World} {C : Nat} (hg : w.grownBy W (some C)) (o : Obj) : w.grownBy (W.alloc o) (some C) :=
  ⟨hg.os, hg.tape, hg.output, Nat.le_trans hg.size (by simp), fun j hj hne => (Below.heap_alloc W o j (Nat.lt_of_lt_of_le hj hg.size)).trans (hg.block j hj hne)⟩

theorem cur_alloc {W : World} {C : Nat} {a : Option Addr} {len cap : Nat} (h : Cur W C a len cap) (o : Obj) : Cur (W.alloc o) C a len cap := by
  have hlt := cur_lt h
  obtain ⟨i, x, hi, hc⟩ := h
  exact ⟨i, x, hi, (Below.heap_alloc W o C hlt).trans hc⟩

theorem drawn_alloc {w W : World} {C B : Nat} {a : Option Addr} {len cap : Nat} (h : Drawn w W C B a len cap) (hB : B ≤ W.heap.size) (o : Obj) : Drawn w (W.alloc o) C B a len cap :=
  ⟨cur_alloc h.1 o, code_below h.2.1 ((Below.refl _ _).alloc hB o), grown_alloc h.2.2 o⟩

set_option maxRecDepth 10000 in
set_option maxHeartbeats 1000000 in
theorem new23 (B : Nat) (a : Option Addr) (len cap : Nat) (w : World) (hcode : CodeOk w B a len) (hB : B ≤ w.heap.size) :
    Calls Tryz.prog 19 #[.slice a len cap] w fun e w' => ∃ C : Nat, e = .returned (.pointer (some ⟨C, 0, none⟩)) ∧ w.heap.size ≤ C ∧ Cur w' C a len cap ∧ CodeOk w' B a len ∧ Below w.heap.size w w' := by
  obtain ⟨hlen, hbytes⟩ := hcode
  have HC : Hid (CodeOk w B a len) := ⟨hlen, hbytes⟩
  have e30 := and30
  go_enter Tryz.func19, Tryz.ntmps19
  go_wp2
  go_loopw [3, 4] (fun hv i wr => ∃ (k : Nat) (h : Int), k ≤ len ∧ i = .int .i64 k ∧ hv = .int .i64 h ∧ wr = w) (fun _ i _ => len - (intOf i).toNat)
  case atStart => exact ⟨0, _, Nat.zero_le _, rfl, rfl, rfl⟩
  case round =>
    obtain ⟨k, h, hk, rfl, rfl, rfl⟩ := hrel
    by_cases hlt : k < len
    · by_cases h4 : (k : Int) < 4000
      · obtain ⟨b, off, rfl, hbB, hrow⟩ := hbytes (by omega)
        obtain ⟨z, z0, z1, hz⟩ := hrow k hlt
        clear hbytes hrow
        have i0 : (0 : Int) ≤ (k : Int) := by omega
        have i1 : (k : Int) < (len : Int) := by omega
        go_wp2
        go_roundw
        case rel => exact ⟨k + 1, _, by omega, by go_num, rfl, trivial⟩
        case measure => simp [intOf]; omega
      · clear hbytes
        go_wp2
        go_ret
        exact ⟨_, rfl, Nat.le_refl _, ⟨0, h, Nat.zero_le _, heap_alloc_new _ _⟩, code_below HC.out ((Below.refl _ _).alloc hB _), (Below.refl _ _).alloc (Nat.le_refl _) _⟩
    · clear hbytes
      go_wp2
      go_ret
      exact ⟨_, rfl, Nat.le_refl _, ⟨0, h, Nat.zero_le _, heap_alloc_new _ _⟩, code_below HC.out ((Below.refl _ _).alloc hB _), (Below.refl _ _).alloc (Nat.le_refl _) _⟩

/-- from what a draw leaves to 'nothing below has turned' -/
theorem drawn_below {w w0 w' : World} {C B : Nat} {a : Option Addr} {len cap : Nat} (h0 : Below w.heap.size w w0) (hC : w.heap.size ≤ C) (h : Drawn w0 w' C B a len cap) : Below w.heap.size w w' :=
  h0.grown h.2.2 h0.size (fun k hk => by cases hk; exact hC)

theorem big5 (a : Option Addr) (len cap : Nat) (hl : len ≤ 9223372036854775807) (w : World) :
    Calls Tryz.prog 5 #[.slice a len cap] w fun e w' => e = .returned (.bool (decide (1048576 < (len : Int)))) ∧ w' = w := by
  go_enter Tryz.func5, Tryz.ntmps5
  go_wp2
  go_ret
  exact ⟨rfl, rfl⟩
end Go.Proofs.YtdifmjcghaoilaaGreatDoor
