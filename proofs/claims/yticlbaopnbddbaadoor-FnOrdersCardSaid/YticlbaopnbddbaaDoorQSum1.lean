/-
  The contracts of the program's sums.
-/
import Derived.Test.YticlbaopnbddbaaDoorQSum
namespace Go.Proofs.YticlbaopnbddbaaDoor.Q
open Go.RowKit Go.PlainAid
set_option linter.unusedVariables false

theorem tab_below {w w' : World} (ht : Tab w) (hb : Below w.heap.size w w') : Tab w' := by
  intro r hr
  have h := ht r hr
  have hlt : 0 < w.heap.size := World.block_lt_of_cell? _ _ h
  unfold World.cell? at h ⊢
  rw [hb.block 0 hlt]
  exact h

theorem more12 (x : Nat) (hx : x < 4294967296) (s : ByteArray) (hs : s.size ≤ 1048577) (w : World) (ht : Tab w) :
    Calls Tryd.prog 46 #[.int .u32 (x : Int), .string s] w fun e w' => e = .returned (.int .u32 (crc x s.data.toList : Nat)) ∧ w' = w := by
  go_enter Tryd.func46, Tryd.ntmps46
  go_wp2
  go_loopw [5, 6] (fun v i wr => ∃ k : Nat, k ≤ s.size ∧ i = .int .i64 k ∧ v = .int .u32 (crc x (s.data.toList.take k) : Nat) ∧ wr = w) (fun _ i _ => s.size - (intOf i).toNat)
  case atStart => exact ⟨0, Nat.zero_le _, rfl, rfl, rfl⟩
  case round =>
    obtain ⟨k, hk, rfl, rfl, rfl⟩ := hrel
    have hlt' := crc_lt hx (s.data.toList.take k)
    by_cases hlt : k < s.size
    · have HR : Hid (crc x (s.data.toList.take (k + 1)) = eight (crc x (s.data.toList.take k) ^^^ s[k].toNat)) := crc_take x s k hlt
      have hix := ix_run s k hlt
      generalize crc x (s.data.toList.take k) = y at *
      obtain ⟨c, hc⟩ : ∃ c : UInt8, c = s[k] := ⟨_, rfl⟩
      rw [← hc] at hix HR
      clear hc
      go_wp2_with fail
      refine (with14 y hlt' c _ ht).mono ?_
      rintro e w2 ⟨rfl, rfl⟩
      go_wp2
      go_roundw
      case rel => exact ⟨k + 1, by omega, by go_num, by rw [HR.out], by trivial⟩
      case measure => simp [intOf]; omega
    · have HY : Hid (crc x (s.data.toList.take k) = crc x s.data.toList) := by show crc _ _ = _; rw [take_all s k hlt]
      generalize crc x (s.data.toList.take k) = y at *
      go_wp2
      go_ret
      exact ⟨by rw [← HY.out]; rfl, rfl⟩

theorem sum8 (s : ByteArray) (hs : s.size ≤ 1048577) (w : World) (ht : Tab w) :
    Calls Tryd.prog 38 #[.string s] w fun e w' => e = .returned (.int .u32 (crc 4294967295 s.data.toList : Nat)) ∧ w' = w := by
  go_enter Tryd.func38, Tryd.ntmps38
  go_wp2_with fail
  refine (more12 4294967295 (by omega) s hs _ ht).mono ?_
  rintro e w2 ⟨rfl, rfl⟩
  go_wp2
  go_ret
  exact ⟨rfl, rfl⟩

theorem fourB_at (x : Nat) (hx : x < 4294967296) : bytesV (fourB x) = [.int .u8 ((x : Int) / 16777216), .int .u8 ((x : Int) / 65536 % 256), .int .u8 ((x : Int) / 256 % 256), .int .u8 ((x : Int) % 256)] := by
  unfold fourB bytesV
  simp only [List.map_cons, List.map_nil, UInt8.toNat_ofNat', List.cons.injEq, Value.int.injEq, true_and, and_true]
  omega
theorem four_run (x : Nat) (hx : x < 4294967296) (w : World) : (convert 22 9 (.slice (some ⟨w.heap.size, 0, none⟩) 4 4)).run Tryd.prog (w.alloc (.cells #[.int .u8 ((x : Int) / 16777216), .int .u8 ((x : Int) / 65536 % 256), .int .u8 ((x : Int) / 256 % 256), .int .u8 ((x : Int) % 256)] 5)) = .ok (.string ⟨(fourB x).toArray⟩) (w.alloc (.cells #[.int .u8 ((x : Int) / 16777216), .int .u8 ((x : Int) / 65536 % 256), .int .u8 ((x : Int) / 256 % 256), .int .u8 ((x : Int) % 256)] 5)) := by
  refine run_convert_bytes_back (P := Tryd.prog) _ 22 9 5 ⟨w.heap.size, 0, none⟩ 4 (fourB x) Tryd.underlying22 Tryd.underlying5 Tryd.underlying9 ?_
  intro j hj
  have e := fourB_at x hx
  have hj' : j < 4 := hj
  have e' : (bytesV (fourB x))[j]? = some (.int .u8 ((fourB x)[j].toNat : Int)) := by
    unfold bytesV; rw [List.getElem?_map, List.getElem?_eq_getElem hj]; rfl
  refine Eq.trans ?_ e'
  rw [e, Addr.add_lit, Nat.zero_add, cell_of_row _ w.heap.size j _ 5 (0, 0) (heap_alloc_new w _)]
  match j, hj' with
  | 0, _ => rfl
  | 1, _ => rfl
  | 2, _ => rfl
  | 3, _ => rfl

theorem four9 (x : Nat) (hx : x < 4294967296) (w : World) :
    Calls Tryd.prog 39 #[.int .u32 (x : Int)] w fun e w' => e = .returned (.string ⟨(fourB x).toArray⟩) ∧ Below w.heap.size w w' := by
  have hcv := four_run x hx w
  obtain ⟨B, hB⟩ : ∃ B, B = fourB x := ⟨_, rfl⟩
  have HB : Hid (B = fourB x) := hB
  rw [← hB] at hcv
  clear hB
  go_enter Tryd.func39, Tryd.ntmps39
  go_wp2
  go_ret
  exact ⟨by rw [← HB.out]; rfl, (Below.refl _ _).alloc (Nat.le_refl _) _⟩
end Go.Proofs.YticlbaopnbddbaaDoor.Q
