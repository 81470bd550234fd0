/-
  Plain helpers over this translation: bytes that are owned, texts read byte by byte.
-/
import Derived.Test.YtdifmjcghaoilaaGreatDoorChecked
import Derived.Test.YtdifmjcghaoilaaGreatDoorGaBL
import Derived.WalkKit
import Derived.ProofKit
import Derived.Handy
import Derived.LoopTactic
import Derived.Below
import Derived.Laws.IdiomStrings
import Derived.PlainAid
import Derived.Deep.RegionWith
import Derived.Deep.RegionHeld3
import Derived.Laws.DeepStrings4
import Derived.Deep.QuietTactic
import Derived.BigQuiet
import Derived.WalkSmall
import Derived.Deep.AppendLies
import Derived.Deep.RegionLaw
import Derived.Laws.BytesArg
import Derived.Deep.LoopGhost
import Derived.WalkMore
import Derived.Laws.BitsAllLaws
namespace Go.Proofs.YtdifmjcghaoilaaGreatDoor.Q
open Go.RowKit Go.PlainAid
set_option linter.unusedVariables false

def bytesV (l : List UInt8) : List Value := l.map (fun b => Value.int .u8 (b.toNat : Int))

theorem info5 : (Tryz.prog.info? 5).map (fun i => (i.zero, i.size, i.bytes)) = some (some (.int .u8 0), 1, 1) := by kernel_rfl

theorem own_empty (w : World) : (w.alloc (.cells #[] 5)).ownsRow w.heap.size 5 1 (.slice (some ⟨w.heap.size, 0, none⟩) 0 0) 0 (bytesV []) :=
  ⟨rfl, Or.inr ⟨_, 0, #[], rfl, Nat.le_refl _, by show (w.heap.push _)[w.heap.size]? = _; simp, Nat.le_refl _, by decide, rfl, rfl⟩⟩

theorem one_cell (wr : World) (x : Value) (a : Addr) (ha : a = ⟨wr.heap.size, 0, none⟩) : ∀ j u, [x][j]? = some u → (wr.alloc (.cells #[x] 5)).cell? (a.add j) = some u := by
  intro j u hj
  subst ha
  match j, hj with
  | 0, hj => simp at hj; subst hj; simp [Addr.add]

/-- a slice of bytes that is owned, turned into a string -/
theorem own_string {wr : World} {B : Nat} {v : Value} {xs : List UInt8} (h : wr.ownsRow B 5 1 v xs.length (bytesV xs)) (h0 : 0 < xs.length) :
    ∃ g cap, v = .slice (some ⟨g, 0, none⟩) xs.length cap ∧ (convert 22 9 v).run Tryz.prog wr = .ok (.string ⟨xs.toArray⟩) wr := by
  have h' := h
  rcases h.2 with ⟨rfl, e⟩ | ⟨g, cap, cur, rfl, hg, hh, hnc, hcp, hcs, htake⟩
  · omega
  · refine ⟨g, cap, rfl, run_convert_bytes_back (P := Tryz.prog) wr 22 9 5 ⟨g, 0, none⟩ cap xs Tryz.underlying22 Tryz.underlying5 Tryz.underlying9 fun j hj => ?_⟩
    rw [Addr.add_lit, Nat.zero_add, h'.cellAt j (by omega)]
    simp [bytesV, hj]

theorem own_ge {wr : World} {B n : Nat} {v : Value} {xs : List Value} (h : wr.ownsRow B 5 1 v n xs) : ∀ k, v.ownBlock = some k → B ≤ k := by
  intro k hk
  rcases h.2 with ⟨rfl, e⟩ | ⟨g, cap, cur, rfl, hg, _⟩
  · simp [Value.ownBlock] at hk
  · simp [Value.ownBlock] at hk; omega

/-- a slice of bytes that is owned, turned into a string: nil or not -/
theorem own_text {wr : World} {B : Nat} {v : Value} {xs : List UInt8} (h : wr.ownsRow B 5 1 v xs.length (bytesV xs)) :
    ∃ a cap, v = .slice a xs.length cap ∧ (convert 22 9 v).run Tryz.prog wr = .ok (.string ⟨xs.toArray⟩) wr := by
  by_cases h0 : 0 < xs.length
  · obtain ⟨g, cap, hv, hr⟩ := own_string h h0
    exact ⟨_, cap, hv, hr⟩
  · obtain rfl : xs = [] := List.length_eq_zero_iff.1 (by omega)
    rcases h.2 with ⟨rfl, e⟩ | ⟨g, cap, cur, rfl, hg, hh, hnc, hcp, hcs, htake⟩
    · exact ⟨none, 0, rfl, run_convert_bytes_nil (P := Tryz.prog) (w := wr) 22 5 Tryz.underlying22 Tryz.underlying5 0 0 9 Tryz.underlying9⟩
    · exact ⟨_, cap, rfl, run_convert_bytes_back (P := Tryz.prog) wr 22 9 5 ⟨g, 0, none⟩ cap [] Tryz.underlying22 Tryz.underlying5 Tryz.underlying9 fun j hj => by simp at hj⟩

/-- what an append of some bytes leaves -/
theorem rel_app {w wr W1 w1 : World} {v v' : Value} {xs bs : List UInt8} {n : Nat} {news : List Value} (hW : Below w.heap.size w W1) (hB : w.heap.size ≤ W1.heap.size) (hown : wr.ownsRow w.heap.size 5 1 v xs.length (bytesV xs))
    (hown' : w1.ownsRow w.heap.size 5 1 v' n (bytesV xs ++ news)) (hgrow : W1.grownBy w1 v.ownBlock) (hn : n = (xs ++ bs).length := by simp) (hnews : news = bytesV bs := by rfl) :
    w1.ownsRow w.heap.size 5 1 v' (xs ++ bs).length (bytesV (xs ++ bs)) ∧ Below w.heap.size w w1 := by
  refine ⟨?_, hW.grown hgrow hB (own_ge hown)⟩
  subst hn hnews
  rw [show bytesV (xs ++ bs) = bytesV xs ++ bytesV bs by simp [bytesV]]
  exact hown'

theorem take_all (s : ByteArray) (k : Nat) (h : ¬ k < s.size) : s.data.toList.take k = s.data.toList :=
  List.take_of_length_le (by rw [Array.length_toList]; show s.size ≤ k; omega)

theorem ix_run (s : ByteArray) (k : Nat) (h : k < s.size) (w : World) : (Instr.index 9 (.string s) (.int .i64 (k : Int))).run Tryz.prog w = .ok (.int .u8 (s[k].toNat : Int)) w := by
  have hx : 0 ≤ (k : Int) ∧ (k : Int) < s.size := by omega
  rw [run_index_string w 9 _ .i64 (k : Int) Tryz.underlying9, dif_pos hx]
  rfl
end Go.Proofs.YtdifmjcghaoilaaGreatDoor.Q

namespace Go.Proofs.YtdifmjcghaoilaaGreatDoor.Q
open Go.RowKit Go.PlainAid
set_option linter.unusedVariables false

/-- the table lies where the program has it -/
def Tab (w : World) : Prop := ∀ r : Nat, r < 16 → w.cell? ⟨0, r, none⟩ = some (.int .u32 (tab r : Nat))

theorem with14 (x : Nat) (hx : x < 4294967296) (c : UInt8) (w : World) (ht : Tab w) :
    Calls Tryz.prog 131 #[.int .u32 (x : Int), .int .u8 (c.toNat : Int)] w fun e w' => e = .returned (.int .u32 (eight (x ^^^ c.toNat) : Nat)) ∧ w' = w := by
  have hc := c.toNat_lt
  have e1 : bits .xor .u32 (x : Int) (c.toNat : Int) = ((x ^^^ c.toNat : Nat) : Int) := u32_xor_nat _ _ hx (by omega)
  have hy := byte_lt hx c
  unfold eight
  generalize x ^^^ c.toNat = y at *
  have e2 : bits .xor .u32 ((y : Int) / 16) (tab (y % 16) : Nat) = (fourH y : Nat) := by rw [show (y : Int) / 16 = ((y / 16 : Nat) : Int) from rfl]; rw [u32_xor_nat _ _ (by omega) (tab_lt _), ← fourH_tab]
  have c2 := ht (y % 16) (by omega)
  have hz := fourH_lt hy
  generalize fourH y = z at *
  have e3 : bits .xor .u32 ((z : Int) / 16) (tab (z % 16) : Nat) = (fourH z : Nat) := by rw [show (z : Int) / 16 = ((z / 16 : Nat) : Int) from rfl]; rw [u32_xor_nat _ _ (by omega) (tab_lt _), ← fourH_tab]
  have c3 := ht (z % 16) (by omega)
  generalize fourH z = u at *
  generalize c.toNat = cn at *
  clear ht
  go_enter Tryz.func131, Tryz.ntmps131
  go_wp2
  go_ret
  exact ⟨rfl, rfl⟩
end Go.Proofs.YtdifmjcghaoilaaGreatDoor.Q

namespace Go.Proofs.YtdifmjcghaoilaaGreatDoor.Q
open Go.RowKit Go.PlainAid
set_option linter.unusedVariables false

theorem tab_below {w w' : World} (ht : Tab w) (hb : Below w.heap.size w w') : Tab w' := by
  intro r hr
  have h := ht r hr
  have hlt : 0 < w.heap.size := World.block_lt_of_cell? _ _ h
  unfold World.cell? at h ⊢
  rw [hb.block 0 hlt]
  exact h

theorem more12 (x : Nat) (hx : x < 4294967296) (s : ByteArray) (hs : s.size ≤ 1048577) (w : World) (ht : Tab w) :
    Calls Tryz.prog 128 #[.int .u32 (x : Int), .string s] w fun e w' => e = .returned (.int .u32 (crc x s.data.toList : Nat)) ∧ w' = w := by
  go_enter Tryz.func128, Tryz.ntmps128
  go_wp2
  go_loopw [5, 6] (fun v i wr => ∃ k : Nat, k ≤ s.size ∧ i = .int .i64 k ∧ v = .int .u32 (crc x (s.data.toList.take k) : Nat) ∧ wr = w) (fun _ i _ => s.size - (intOf i).toNat)
  case atStart => exact ⟨0, Nat.zero_le _, rfl, rfl, rfl⟩
  case round =>
    obtain ⟨k, hk, rfl, rfl, rfl⟩ := hrel
    have hlt' := crc_lt hx (s.data.toList.take k)
    by_cases hlt : k < s.size
    · have HR : Hid (crc x (s.data.toList.take (k + 1)) = eight (crc x (s.data.toList.take k) ^^^ s[k].toNat)) := crc_take x s k hlt
      have hix := ix_run s k hlt
      generalize crc x (s.data.toList.take k) = y at *
      obtain ⟨c, hc⟩ : ∃ c : UInt8, c = s[k] := ⟨_, rfl⟩
      rw [← hc] at hix HR
      clear hc
      go_wp2_with fail
      refine (with14 y hlt' c _ ht).mono ?_
      rintro e w2 ⟨rfl, rfl⟩
      go_wp2
      go_roundw
      case rel => exact ⟨k + 1, by omega, by go_num, by rw [HR.out], by trivial⟩
      case measure => simp [intOf]; omega
    · have HY : Hid (crc x (s.data.toList.take k) = crc x s.data.toList) := by show crc _ _ = _; rw [take_all s k hlt]
      generalize crc x (s.data.toList.take k) = y at *
      go_wp2
      go_ret
      exact ⟨by rw [← HY.out]; rfl, rfl⟩

theorem sum8 (s : ByteArray) (hs : s.size ≤ 1048577) (w : World) (ht : Tab w) :
    Calls Tryz.prog 119 #[.string s] w fun e w' => e = .returned (.int .u32 (crc 4294967295 s.data.toList : Nat)) ∧ w' = w := by
  go_enter Tryz.func119, Tryz.ntmps119
  go_wp2_with fail
  refine (more12 4294967295 (by omega) s hs _ ht).mono ?_
  rintro e w2 ⟨rfl, rfl⟩
  go_wp2
  go_ret
  exact ⟨rfl, rfl⟩

theorem fourB_at (x : Nat) (hx : x < 4294967296) : bytesV (fourB x) = [.int .u8 ((x : Int) / 16777216), .int .u8 ((x : Int) / 65536 % 256), .int .u8 ((x : Int) / 256 % 256), .int .u8 ((x : Int) % 256)] := by
  unfold fourB bytesV
  simp only [List.map_cons, List.map_nil, UInt8.toNat_ofNat', List.cons.injEq, Value.int.injEq, true_and, and_true]
  omega
theorem four_run (x : Nat) (hx : x < 4294967296) (w : World) : (convert 22 9 (.slice (some ⟨w.heap.size, 0, none⟩) 4 4)).run Tryz.prog (w.alloc (.cells #[.int .u8 ((x : Int) / 16777216), .int .u8 ((x : Int) / 65536 % 256), .int .u8 ((x : Int) / 256 % 256), .int .u8 ((x : Int) % 256)] 5)) = .ok (.string ⟨(fourB x).toArray⟩) (w.alloc (.cells #[.int .u8 ((x : Int) / 16777216), .int .u8 ((x : Int) / 65536 % 256), .int .u8 ((x : Int) / 256 % 256), .int .u8 ((x : Int) % 256)] 5)) := by
  refine run_convert_bytes_back (P := Tryz.prog) _ 22 9 5 ⟨w.heap.size, 0, none⟩ 4 (fourB x) Tryz.underlying22 Tryz.underlying5 Tryz.underlying9 ?_
  intro j hj
  have e := fourB_at x hx
  have hj' : j < 4 := hj
  have e' : (bytesV (fourB x))[j]? = some (.int .u8 ((fourB x)[j].toNat : Int)) := by
    unfold bytesV; rw [List.getElem?_map, List.getElem?_eq_getElem hj]; rfl
  refine Eq.trans ?_ e'
  rw [e, Addr.add_lit, Nat.zero_add, cell_of_row _ w.heap.size j _ 5 (0, 0) (heap_alloc_new w _)]
  match j, hj' with
  | 0, _ => rfl
  | 1, _ => rfl
  | 2, _ => rfl
  | 3, _ => rfl

theorem four9 (x : Nat) (hx : x < 4294967296) (w : World) :
    Calls Tryz.prog 120 #[.int .u32 (x : Int)] w fun e w' => e = .returned (.string ⟨(fourB x).toArray⟩) ∧ Below w.heap.size w w' := by
  have hcv := four_run x hx w
  obtain ⟨B, hB⟩ : ∃ B, B = fourB x := ⟨_, rfl⟩
  have HB : Hid (B = fourB x) := hB
  rw [← hB] at hcv
  clear hB
  go_enter Tryz.func120, Tryz.ntmps120
  go_wp2
  go_ret
  exact ⟨by rw [← HB.out]; rfl, (Below.refl _ _).alloc (Nat.le_refl _) _⟩
end Go.Proofs.YtdifmjcghaoilaaGreatDoor.Q

namespace Go.Proofs.YtdifmjcghaoilaaGreatDoor.Q
open Go.RowKit Go.PlainAid
set_option linter.unusedVariables false

set_option maxRecDepth 100000 in
set_option maxHeartbeats 1000000 in
theorem smore11 (x : Nat) (hx : x < 4294967296) (s : ByteArray) (hs : s.size ≤ 1048577) (w : World) :
    Calls Tryz.prog 114 #[.int .u32 (x : Int), .string s] w fun e w' => e = .returned (.int .u32 (crc x s.data.toList : Nat)) ∧ w' = w := by
  go_enter Tryz.func114, Tryz.ntmps114
  go_wp2
  go_loopw [0, 5] (fun v i wr => ∃ k : Nat, k ≤ s.size ∧ i = .int .i64 k ∧ v = .int .u32 (crc x (s.data.toList.take k) : Nat) ∧ wr = w) (fun _ i _ => s.size - (intOf i).toNat)
  case atStart => exact ⟨0, Nat.zero_le _, rfl, rfl, rfl⟩
  case round =>
    obtain ⟨k, hk, rfl, rfl, rfl⟩ := hrel
    obtain ⟨wo, rfl⟩ : ∃ wo : World, wo = wr := ⟨_, rfl⟩
    have hlt' := crc_lt hx (s.data.toList.take k)
    by_cases hlt : k < s.size
    · have HR : Hid (crc x (s.data.toList.take (k + 1)) = eight (crc x (s.data.toList.take k) ^^^ s[k].toNat)) := crc_take x s k hlt
      have hix := ix_run s k hlt
      generalize crc x (s.data.toList.take k) = y at *
      obtain ⟨c, hc⟩ : ∃ c : UInt8, c = s[k] := ⟨_, rfl⟩
      rw [← hc] at hix HR
      clear hc
      have h256 := c.toNat_lt
      have e1 : bits .xor .u32 (y : Int) (c.toNat : Int) = ((y ^^^ c.toNat : Nat) : Int) := u32_xor_nat _ _ hlt' (by omega)
      have hy := byte_lt hlt' c
      generalize y ^^^ c.toNat = z at *
      generalize c.toNat = cn at *
      go_wp2
      go_loopw [0, 6] (fun v i wi => ∃ j : Nat, j ≤ 8 ∧ i = .int .i64 j ∧ v = .int .u32 (halves j z : Nat) ∧ wi = wo) (fun _ i _ => 8 - (intOf i).toNat)
      case atStart => exact ⟨0, Nat.zero_le _, rfl, rfl, rfl⟩
      case round =>
        obtain ⟨j, hj, rfl, rfl, rfl⟩ := hrel
        have hh := halves_lt hy j
        by_cases h8 : j < 8
        · rcases Nat.mod_two_eq_zero_or_one (halves j z) with ho | ho
          · have HE : Hid (halves (j + 1) z = halves j z / 2) := halves_even ho
            generalize halves j z = u at *
            have hd : (((u : Int) % 2) == 1) = false := by simp; omega
            go_wp2
            go_roundw
            case rel => exact ⟨j + 1, by omega, by go_num, by rw [HE.out]; rfl, by trivial⟩
            case measure => simp [intOf]; omega
          · have HE : Hid (halves (j + 1) z = halves j z / 2 ^^^ 3558460437) := halves_odd ho
            generalize halves j z = u at *
            have hd : (((u : Int) % 2) == 1) = true := by simp; omega
            have e2 : bits .xor .u32 ((u : Int) / 2) 3558460437 = ((u / 2 ^^^ 3558460437 : Nat) : Int) := u32_xor_nat (u / 2) 3558460437 (by omega) (by omega)
            go_wp2
            go_roundw
            case rel => exact ⟨j + 1, by omega, by go_num, by rw [HE.out], by trivial⟩
            case measure => simp [intOf]; omega
        · obtain rfl : j = 8 := by omega
          rw [halves_eight]
          go_wp2
          go_roundw
          case rel => exact ⟨k + 1, by omega, by go_num, by rw [HR.out], by trivial⟩
          case measure => simp [intOf]; omega
    · have HY : Hid (crc x (s.data.toList.take k) = crc x s.data.toList) := by show crc _ _ = _; rw [take_all s k hlt]
      generalize crc x (s.data.toList.take k) = y at *
      go_wp2
      go_ret
      exact ⟨by rw [← HY.out]; rfl, rfl⟩

theorem ssum7 (s : ByteArray) (hs : s.size ≤ 1048577) (w : World) :
    Calls Tryz.prog 91 #[.string s] w fun e w' => e = .returned (.int .u32 (crc 4294967295 s.data.toList : Nat)) ∧ w' = w := by
  go_enter Tryz.func91, Tryz.ntmps91
  go_wp2_with fail
  refine (smore11 4294967295 (by omega) s hs _).mono ?_
  rintro e w2 ⟨rfl, rfl⟩
  go_wp2
  go_ret
  exact ⟨rfl, rfl⟩

theorem sfour6 (x : Nat) (hx : x < 4294967296) (w : World) :
    Calls Tryz.prog 90 #[.int .u32 (x : Int)] w fun e w' => e = .returned (.string ⟨(fourB x).toArray⟩) ∧ Below w.heap.size w w' := by
  have hcv := four_run x hx w
  obtain ⟨B, hB⟩ : ∃ B, B = fourB x := ⟨_, rfl⟩
  have HB : Hid (B = fourB x) := hB
  rw [← hB] at hcv
  clear hB
  go_enter Tryz.func90, Tryz.ntmps90
  go_wp2
  go_ret
  exact ⟨by rw [← HB.out]; rfl, (Below.refl _ _).alloc (Nat.le_refl _) _⟩
end Go.Proofs.YtdifmjcghaoilaaGreatDoor.Q
