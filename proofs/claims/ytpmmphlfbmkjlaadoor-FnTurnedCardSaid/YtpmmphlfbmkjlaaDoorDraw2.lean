/-
  The contracts of the specification's draws, gone on: texts, the cursor's making.
-/
import Derived.Test.YtpmmphlfbmkjlaaDoorDraw
namespace Go.Proofs.YtpmmphlfbmkjlaaDoor
open Go.RowKit Go.PlainAid
set_option linter.unusedVariables false

theorem byte_nat {x : Int} (h0 : 0 ≤ x) (h1 : x ≤ 255) : ((UInt8.ofNat x.toNat).toNat : Int) = x := by
  rw [UInt8.toNat_ofNat']; omega

set_option maxHeartbeats 1000000 in
theorem text29 (C B : Nat) (a : Option Addr) (len cap : Nat) (n : Nat) (hn : n ≤ 5000) (w : World) (hC : Cur w C a len cap) (hB : B ≤ C) (hcode : CodeOk w B a len) :
    Calls Tryd.prog 29 #[.pointer (some ⟨C, 0, none⟩), .int .i64 n] w fun e w' => ∃ t : ByteArray, e = .returned (.string t) ∧ t.size = n ∧ Drawn w w' C B a len cap := by
  obtain ⟨i0, hi, hz0, hz1, hz2⟩ := info_parts info5
  have hlt := cur_lt hC
  have HD0 : Hid (Drawn w (w.alloc (.cells #[] 5)) C B a len cap) := drawn_alloc ⟨hC, hcode, World.grownBy.refl _ _⟩ (by omega) _
  have how := own_empty w
  clear hC hcode
  go_enter Tryd.func29, Tryd.ntmps29
  go_wp2
  go_loopw [5, 6] (fun v i wr => ∃ (k : Nat) (xs : List UInt8), k ≤ n ∧ i = .int .i64 k ∧ Hid (xs.length = k) ∧ xs.length ≤ 5000 ∧ Hid (Drawn w wr C B a len cap) ∧ wr.ownsRow w.heap.size 5 1 v xs.length (bytesV xs)) (fun _ i _ => n - (intOf i).toNat)
  case atStart => exact ⟨0, [], Nat.zero_le _, rfl, (show Hid _ from rfl), by simp, HD0, how⟩
  case round =>
    clear how HD0
    obtain ⟨k, xs, hk, rfl, HX, hx, HD, hown⟩ := hrel
    have hsz := HD.out.2.2.size
    by_cases hlt2 : k < n
    · go_wp2_with fail
      refine (byte32 C B a len cap _ HD.out.1 hB HD.out.2.1).mono ?_
      rintro e w1 ⟨x, rfl, x0, x1, hC1, hg1⟩
      have hown1 := own_grown hown hg1 hlt
      have HD1 : Hid (Drawn w w1 C B a len cap) := drawn_trans HD.out ⟨hC1, code_grown HD.out.2.1 hg1 hB (by omega), hg1⟩
      have s1 := HD1.out.2.2.size
      clear hC1 hg1 HD hown
      go_wp2_with (at_builtin; refine wpList_append_own _ rfl _ _ 22 rfl w.heap.size 5 i0 (.int .u8 0) 1 1 Tryd.underlying22 hi hz0 hz1 hz2 rfl (by decide) _ _ _ rfl (hown1.alloc _) ⟨w1.heap.size, 0, none⟩ 1 1 [.int .u8 x] rfl rfl ?c1 ?c2 ?c3 ?c4 ?c5 ?_)
      case c1 => exact one_cell w1 _ _ rfl
      case c2 => intro u hu; simp at hu; subst hu; rfl
      case c3 => unfold maxLen; omega
      case c4 => omega
      case c5 => simp; omega
      intro v' w2 hown2 hgrow _
      have HD2 : Hid (Drawn w w2 C B a len cap) := by
        have h1 := drawn_alloc HD1.out (by omega) (.cells #[.int .u8 x] 5)
        have hv := own_ge hown1
        refine ⟨cur_new (B := B) h1.1 hgrow (fun g hg => by have := hv g hg; omega), ?_, grown_new h1.2.2 hgrow hv⟩
        exact code_below h1.2.1 ((Below.refl _ _).grown hgrow (by simp; omega) (fun g hg => by have := hv g hg; omega))
      have hown3 : w2.ownsRow w.heap.size 5 1 v' (xs ++ [UInt8.ofNat x.toNat]).length (bytesV (xs ++ [UInt8.ofNat x.toNat])) := by
        rw [show bytesV (xs ++ [UInt8.ofNat x.toNat]) = bytesV xs ++ [.int .u8 x] by simp only [bytesV, List.map_append, List.map_cons, List.map_nil, byte_nat x0 x1], List.length_append]
        exact hown2
      clear hown2 hgrow hown1 HD1
      go_wp2
      go_roundw
      case rel => exact ⟨k + 1, xs ++ [UInt8.ofNat x.toNat], by omega, by go_num, (show Hid _ from by have := HX.out; simp [Hid]; omega), by have := HX.out; simp; omega, HD2, hown3⟩
      case measure => simp [intOf]; omega
    · obtain ⟨ao, cp, hv, hcv⟩ := own_text hown
      clear hown
      subst hv
      go_wp2
      go_ret
      exact ⟨_, rfl, by show xs.toArray.size = n; rw [List.size_toArray]; have := HX.out; omega, HD.out⟩

set_option maxHeartbeats 1000000 in
theorem long27 (n : Nat) (hn : n ≤ 1000000) (x : UInt8) (w : World) :
    Calls Tryd.prog 27 #[.int .i64 n, .int .u8 (x.toNat : Int)] w fun e w' => ∃ t : ByteArray, e = .returned (.string t) ∧ t.size = n ∧ Below w.heap.size w w' := by
  obtain ⟨i0, hi, hz0, hz1, hz2⟩ := info_parts info5
  go_enter Tryd.func27, Tryd.ntmps27
  go_wp2_with (at_make; refine wpList_make_full _ rfl _ _ 22 rfl w.heap.size 5 i0 (.int .u8 0) 1 Tryd.underlying22 hi hz0 hz1 .i64 .i64 _ _ n rfl rfl rfl rfl (by rw [hz2]; omega) (by unfold maxLen; omega) (Nat.le_refl _) ?_; intro w1 hown hgrow)
  have hb1 : Below w.heap.size w w1 := (Below.refl _ _).grown hgrow (Nat.le_refl _) (fun k h => by cases h)
  have hown0 : w1.ownsRow w.heap.size 5 1 (.slice (some ⟨w.heap.size, 0, none⟩) n n) n (bytesV (List.replicate n 0)) := by
    have e : (madeCells (Value.int .u8 0).cells (n * 1)).toList = bytesV (List.replicate n 0) := by
      rw [Nat.mul_one]
      show (madeCells #[.int .u8 0] n).toList = _
      rw [toList_madeCells_one]
      simp [bytesV]
    rw [← e]; exact hown
  clear hown hgrow
  go_loopw [6] (fun i wr => ∃ (k : Nat) (ys : List UInt8), k ≤ n ∧ i = .int .i64 k ∧ Hid (ys.length = n) ∧ wr.ownsRow w.heap.size 5 1 (.slice (some ⟨w.heap.size, 0, none⟩) n n) n (bytesV ys) ∧ Below w.heap.size w wr) (fun i _ => n - (intOf i).toNat)
  case atStart => exact ⟨0, _, Nat.zero_le _, rfl, (show Hid _ from List.length_replicate ..), hown0, hb1⟩
  case round =>
    clear hown0 hb1
    obtain ⟨k, ys, hk, rfl, HY, hown, hnx⟩ := hrel
    by_cases hlt : k < n
    · have hcell := hown.cellAt k (by omega)
      have hfr := hown.frozenAt k
      have hst := (hown.stored k (.int .u8 (x.toNat : Int))).1
      rw [show (bytesV ys).set k (.int .u8 (x.toNat : Int)) = bytesV (ys.set k x) by unfold bytesV; rw [List.map_set]] at hst
      rw [show (bytesV ys)[k]? = some (.int .u8 ((ys[k]'(by have := HY.out; omega)).toNat : Int)) by simp [bytesV, HY.out, hlt]] at hcell
      generalize ys[k]'(by have := HY.out; omega) = old at hcell
      clear hown
      go_wp2
      go_roundw
      case rel => exact ⟨k + 1, ys.set k x, by omega, by go_num, (show Hid _ from by have := HY.out; simp [Hid]; omega), hst, hnx.setCell (Nat.le_refl _) _⟩
      case measure => simp [intOf]; omega
    · obtain ⟨ao, cp, hv, hcv⟩ := own_text (by rw [HY.out]; exact hown)
      rw [HY.out] at hv
      rw [hv] at hcv
      cases hv
      clear hown
      go_wp2
      go_ret
      exact ⟨_, rfl, by show ys.toArray.size = n; rw [List.size_toArray]; exact HY.out, hnx⟩

theorem long27' (N X : Int) (n : Nat) (x : UInt8) (hN : N = n) (hX : X = (x.toNat : Int)) (hn : n ≤ 1000000) (w : World) :
    Calls Tryd.prog 27 #[.int .i64 N, .int .u8 X] w fun e w' => ∃ t : ByteArray, e = .returned (.string t) ∧ t.size = n ∧ Below w.heap.size w w' := by
  subst hN hX; exact long27 n hn x w

set_option maxRecDepth 10000 in
set_option maxHeartbeats 1000000 in
theorem new23 (B : Nat) (a : Option Addr) (len cap : Nat) (w : World) (hcode : CodeOk w B a len) (hB : B ≤ w.heap.size) :
    Calls Tryd.prog 23 #[.slice a len cap] w fun e w' => ∃ C : Nat, e = .returned (.pointer (some ⟨C, 0, none⟩)) ∧ w.heap.size ≤ C ∧ Cur w' C a len cap ∧ CodeOk w' B a len ∧ Below w.heap.size w w' := by
  obtain ⟨hlen, hbytes⟩ := hcode
  have HC : Hid (CodeOk w B a len) := ⟨hlen, hbytes⟩
  have e30 := and30
  go_enter Tryd.func23, Tryd.ntmps23
  go_wp2
  go_loopw [3, 4] (fun hv i wr => ∃ (k : Nat) (h : Int), k ≤ len ∧ i = .int .i64 k ∧ hv = .int .i64 h ∧ wr = w) (fun _ i _ => len - (intOf i).toNat)
  case atStart => exact ⟨0, _, Nat.zero_le _, rfl, rfl, rfl⟩
  case round =>
    obtain ⟨k, h, hk, rfl, rfl, rfl⟩ := hrel
    by_cases hlt : k < len
    · by_cases h4 : (k : Int) < 4000
      · obtain ⟨b, off, rfl, hbB, hrow⟩ := hbytes (by omega)
        obtain ⟨z, z0, z1, hz⟩ := hrow k hlt
        clear hbytes hrow
        have i0 : (0 : Int) ≤ (k : Int) := by omega
        have i1 : (k : Int) < (len : Int) := by omega
        go_wp2
        go_roundw
        case rel => exact ⟨k + 1, _, by omega, by go_num, rfl, trivial⟩
        case measure => simp [intOf]; omega
      · clear hbytes
        go_wp2
        go_ret
        exact ⟨_, rfl, Nat.le_refl _, ⟨0, h, Nat.zero_le _, heap_alloc_new _ _⟩, code_below HC.out ((Below.refl _ _).alloc hB _), (Below.refl _ _).alloc (Nat.le_refl _) _⟩
    · clear hbytes
      go_wp2
      go_ret
      exact ⟨_, rfl, Nat.le_refl _, ⟨0, h, Nat.zero_le _, heap_alloc_new _ _⟩, code_below HC.out ((Below.refl _ _).alloc hB _), (Below.refl _ _).alloc (Nat.le_refl _) _⟩

/-- from what a draw leaves to 'nothing below has turned' -/
theorem drawn_below {w w0 w' : World} {C B : Nat} {a : Option Addr} {len cap : Nat} (h0 : Below w.heap.size w w0) (hC : w.heap.size ≤ C) (h : Drawn w0 w' C B a len cap) : Below w.heap.size w w' :=
  h0.grown h.2.2 h0.size (fun k hk => by cases hk; exact hC)
end Go.Proofs.YtpmmphlfbmkjlaaDoor
