/-
  The contracts of the program's sums.
-/
import Derived.Test.YtfhhnelffldggaaGreatDoorTqAB
set_option maxRecDepth 100000
set_option maxHeartbeats 16000000
namespace Go.Proofs.YtfhhnelffldggaaGreatDoor.Q
open Go.RowKit Go.PlainAid
set_option linter.unusedVariables false
theorem tab_below {w w' : World} (ht : Tab w) (hb : Below w.heap.size w w') : Tab w' := by
  intro r hr
  have h := ht r hr
  have hlt : 0 < w.heap.size := World.block_lt_of_cell? _ _ h
  unfold World.cell? at h ⊢
  rw [hb.block 0 hlt]
  exact h
theorem more12 (x : Nat) (hx : x < 4294967296) (s : ByteArray) (hs : s.size ≤ 1048577) (w : World) (ht : Tab w) :
    Calls Tryz.prog 189 #[.int .u32 (x : Int), .string s] w fun e w' => e = .returned (.int .u32 (crc x s.data.toList : Nat)) ∧ w' = w := by
  go_enter Tryz.func189, Tryz.ntmps189
  go_wp2
  go_loopw [5, 6] (fun v i wr => ∃ k : Nat, k ≤ s.size ∧ i = .int .i64 k ∧ v = .int .u32 (crc x (s.data.toList.take k) : Nat) ∧ wr = w) (fun _ i _ => s.size - (intOf i).toNat)
  case atStart => exact ⟨0, Nat.zero_le _, rfl, rfl, rfl⟩
  case round =>
    obtain ⟨k, hk, rfl, rfl, rfl⟩ := hrel
    have hlt' := crc_lt hx (s.data.toList.take k)
    by_cases hlt : k < s.size
    · have HR : Hid (crc x (s.data.toList.take (k + 1)) = eight (crc x (s.data.toList.take k) ^^^ s[k].toNat)) := crc_take x s k hlt
      have hix := ix_run s k hlt
      generalize crc x (s.data.toList.take k) = y at *
      obtain ⟨c, hc⟩ : ∃ c : UInt8, c = s[k] := ⟨_, rfl⟩
      rw [← hc] at hix HR
      clear hc
      go_wp2_with fail
      refine (with14 y hlt' c _ ht).mono ?_
      rintro e w2 ⟨rfl, rfl⟩
      go_wp2
      go_roundw
      case rel => exact ⟨k + 1, by omega, by go_num, by rw [HR.out], by trivial⟩
      case measure => simp [intOf]; omega
    · have HY : Hid (crc x (s.data.toList.take k) = crc x s.data.toList) := by show crc _ _ = _; rw [take_all s k hlt]
      generalize crc x (s.data.toList.take k) = y at *
      go_wp2
      go_ret
      exact ⟨by rw [← HY.out]; rfl, rfl⟩
theorem sum8 (s : ByteArray) (hs : s.size ≤ 1048577) (w : World) (ht : Tab w) :
    Calls Tryz.prog 181 #[.string s] w fun e w' => e = .returned (.int .u32 (crc 4294967295 s.data.toList : Nat)) ∧ w' = w := by
  go_enter Tryz.func181, Tryz.ntmps181
  go_wp2_with fail
  refine (more12 4294967295 (by omega) s hs _ ht).mono ?_
  rintro e w2 ⟨rfl, rfl⟩
  go_wp2
  go_ret
  exact ⟨rfl, rfl⟩
theorem fourB_at (x : Nat) (hx : x < 4294967296) : bytesV (fourB x) = [.int .u8 ((x : Int) / 16777216), .int .u8 ((x : Int) / 65536 % 256), .int .u8 ((x : Int) / 256 % 256), .int .u8 ((x : Int) % 256)] := by
  unfold fourB bytesV
  simp only [List.map_cons, List.map_nil, UInt8.toNat_ofNat', List.cons.injEq, Value.int.injEq, true_and, and_true]
  omega
theorem four_run (x : Nat) (hx : x < 4294967296) (w : World) : (convert 22 9 (.slice (some ⟨w.heap.size, 0, none⟩) 4 4)).run Tryz.prog (w.alloc (.cells #[.int .u8 ((x : Int) / 16777216), .int .u8 ((x : Int) / 65536 % 256), .int .u8 ((x : Int) / 256 % 256), .int .u8 ((x : Int) % 256)] 5)) = .ok (.string ⟨(fourB x).toArray⟩) (w.alloc (.cells #[.int .u8 ((x : Int) / 16777216), .int .u8 ((x : Int) / 65536 % 256), .int .u8 ((x : Int) / 256 % 256), .int .u8 ((x : Int) % 256)] 5)) := by
  refine run_convert_bytes_back (P := Tryz.prog) _ 22 9 5 ⟨w.heap.size, 0, none⟩ 4 (fourB x) Tryz.underlying22 Tryz.underlying5 Tryz.underlying9 ?_
  intro j hj
  have e := fourB_at x hx
  have hj' : j < 4 := hj
  have e' : (bytesV (fourB x))[j]? = some (.int .u8 ((fourB x)[j].toNat : Int)) := by
    unfold bytesV; rw [List.getElem?_map, List.getElem?_eq_getElem hj]; rfl
  refine Eq.trans ?_ e'
  rw [e, Addr.add_lit, Nat.zero_add, cell_of_row _ w.heap.size j _ 5 (0, 0) (heap_alloc_new w _)]
  match j, hj' with
  | 0, _ => rfl
  | 1, _ => rfl
  | 2, _ => rfl
  | 3, _ => rfl
theorem four9 (x : Nat) (hx : x < 4294967296) (w : World) :
    Calls Tryz.prog 182 #[.int .u32 (x : Int)] w fun e w' => e = .returned (.string ⟨(fourB x).toArray⟩) ∧ Below w.heap.size w w' := by
  have hcv := four_run x hx w
  obtain ⟨B, hB⟩ : ∃ B, B = fourB x := ⟨_, rfl⟩
  have HB : Hid (B = fourB x) := hB
  rw [← hB] at hcv
  clear hB
  go_enter Tryz.func182, Tryz.ntmps182
  go_wp2
  go_ret
  exact ⟨by rw [← HB.out]; rfl, (Below.refl _ _).alloc (Nat.le_refl _) _⟩
theorem smore11 (x : Nat) (hx : x < 4294967296) (s : ByteArray) (hs : s.size ≤ 1048577) (w : World) :
    Calls Tryz.prog 177 #[.int .u32 (x : Int), .string s] w fun e w' => e = .returned (.int .u32 (crc x s.data.toList : Nat)) ∧ w' = w := by
  go_enter Tryz.func177, Tryz.ntmps177
  go_wp2
  go_loopw [0, 5] (fun v i wr => ∃ k : Nat, k ≤ s.size ∧ i = .int .i64 k ∧ v = .int .u32 (crc x (s.data.toList.take k) : Nat) ∧ wr = w) (fun _ i _ => s.size - (intOf i).toNat)
  case atStart => exact ⟨0, Nat.zero_le _, rfl, rfl, rfl⟩
  case round =>
    obtain ⟨k, hk, rfl, rfl, rfl⟩ := hrel
    obtain ⟨wo, rfl⟩ : ∃ wo : World, wo = wr := ⟨_, rfl⟩
    have hlt' := crc_lt hx (s.data.toList.take k)
    by_cases hlt : k < s.size
    · have HR : Hid (crc x (s.data.toList.take (k + 1)) = eight (crc x (s.data.toList.take k) ^^^ s[k].toNat)) := crc_take x s k hlt
      have hix := ix_run s k hlt
      generalize crc x (s.data.toList.take k) = y at *
      obtain ⟨c, hc⟩ : ∃ c : UInt8, c = s[k] := ⟨_, rfl⟩
      rw [← hc] at hix HR
      clear hc
      have h256 := c.toNat_lt
      have e1 : bits .xor .u32 (y : Int) (c.toNat : Int) = ((y ^^^ c.toNat : Nat) : Int) := u32_xor_nat _ _ hlt' (by omega)
      have hy := byte_lt hlt' c
      generalize y ^^^ c.toNat = z at *
      generalize c.toNat = cn at *
      go_wp2
      go_loopw [0, 6] (fun v i wi => ∃ j : Nat, j ≤ 8 ∧ i = .int .i64 j ∧ v = .int .u32 (halves j z : Nat) ∧ wi = wo) (fun _ i _ => 8 - (intOf i).toNat)
      case atStart => exact ⟨0, Nat.zero_le _, rfl, rfl, rfl⟩
      case round =>
        obtain ⟨j, hj, rfl, rfl, rfl⟩ := hrel
        have hh := halves_lt hy j
        by_cases h8 : j < 8
        · rcases Nat.mod_two_eq_zero_or_one (halves j z) with ho | ho
          · have HE : Hid (halves (j + 1) z = halves j z / 2) := halves_even ho
            generalize halves j z = u at *
            have hd : (((u : Int) % 2) == 1) = false := by simp; omega
            go_wp2
            go_roundw
            case rel => exact ⟨j + 1, by omega, by go_num, by rw [HE.out]; rfl, by trivial⟩
            case measure => simp [intOf]; omega
          · have HE : Hid (halves (j + 1) z = halves j z / 2 ^^^ 3558460437) := halves_odd ho
            generalize halves j z = u at *
            have hd : (((u : Int) % 2) == 1) = true := by simp; omega
            have e2 : bits .xor .u32 ((u : Int) / 2) 3558460437 = ((u / 2 ^^^ 3558460437 : Nat) : Int) := u32_xor_nat (u / 2) 3558460437 (by omega) (by omega)
            go_wp2
            go_roundw
            case rel => exact ⟨j + 1, by omega, by go_num, by rw [HE.out], by trivial⟩
            case measure => simp [intOf]; omega
        · obtain rfl : j = 8 := by omega
          rw [halves_eight]
          go_wp2
          go_roundw
          case rel => exact ⟨k + 1, by omega, by go_num, by rw [HR.out], by trivial⟩
          case measure => simp [intOf]; omega
    · have HY : Hid (crc x (s.data.toList.take k) = crc x s.data.toList) := by show crc _ _ = _; rw [take_all s k hlt]
      generalize crc x (s.data.toList.take k) = y at *
      go_wp2
      go_ret
      exact ⟨by rw [← HY.out]; rfl, rfl⟩
theorem ssum7 (s : ByteArray) (hs : s.size ≤ 1048577) (w : World) :
    Calls Tryz.prog 157 #[.string s] w fun e w' => e = .returned (.int .u32 (crc 4294967295 s.data.toList : Nat)) ∧ w' = w := by
  go_enter Tryz.func157, Tryz.ntmps157
  go_wp2_with fail
  refine (smore11 4294967295 (by omega) s hs _).mono ?_
  rintro e w2 ⟨rfl, rfl⟩
  go_wp2
  go_ret
  exact ⟨rfl, rfl⟩
theorem sfour6 (x : Nat) (hx : x < 4294967296) (w : World) :
    Calls Tryz.prog 156 #[.int .u32 (x : Int)] w fun e w' => e = .returned (.string ⟨(fourB x).toArray⟩) ∧ Below w.heap.size w w' := by
  have hcv := four_run x hx w
  obtain ⟨B, hB⟩ : ∃ B, B = fourB x := ⟨_, rfl⟩
  have HB : Hid (B = fourB x) := hB
  rw [← hB] at hcv
  clear hB
  go_enter Tryz.func156, Tryz.ntmps156
  go_wp2
  go_ret
  exact ⟨by rw [← HB.out]; rfl, (Below.refl _ _).alloc (Nat.le_refl _) _⟩
end Go.Proofs.YtfhhnelffldggaaGreatDoor.Q
