/-
  The contracts of Sealed and Unsealed, the program's.
-/
import Derived.Test.YtfhhnelffldggaaGreatDoorUqAC
import Derived.Test.YtfhhnelffldggaaGreatDoorShelf
import Derived.Laws.Strings3
set_option maxRecDepth 100000
set_option maxHeartbeats 16000000
namespace Go.Proofs.YtfhhnelffldggaaGreatDoor.Q
open Go.RowKit Go.PlainAid
set_option linter.unusedVariables false
def sigil (s : ByteArray) : ByteArray := ⟨(fourB (crc 4294967295 s.data.toList)).toArray⟩
theorem sigil_size (s : ByteArray) : (sigil s).size = 4 := rfl
theorem sumof_lt (s : ByteArray) : crc 4294967295 s.data.toList < 4294967296 := crc_lt (by omega) _
theorem clone10 (s : ByteArray) (w : World) (hs : s.size ≤ 281474976710656) :
    Calls Tryz.prog 129 #[.string s] w fun e w' => e = .returned (.string s) ∧ Below w.heap.size w w' := by
  go_enter Tryz.func129, Tryz.ntmps129
  go_wp2_with fail
  refine (Tryz.stringslite_Clone s _ hs).mono ?_
  rintro e w1 ⟨rfl, hb⟩
  go_wp2
  go_ret
  exact ⟨rfl, hb⟩
theorem tab_heap {w W : World} (ht : Tab w) (e : W.heap = w.heap) : Tab W := by
  intro r hr
  have h := ht r hr
  unfold World.cell? at h ⊢
  rw [e]
  exact h
theorem to_run (s : ByteArray) (n : Nat) (h : n ≤ s.size) (w : World) :
    (Instr.slice 9 (.string s) none (some (.int .i64 (n : Int))) none).run Tryz.prog w = .ok (.string (s.extract 0 n)) w := by
  rw [run_slice_string_to_if w 9 s .i64 (n : Int) Tryz.underlying9, if_pos (by omega)]
  rfl
theorem from_run (s : ByteArray) (n : Nat) (h : n ≤ s.size) (w : World) :
    (Instr.slice 9 (.string s) (some (.int .i64 (n : Int))) none none).run Tryz.prog w = .ok (.string (s.extract n s.size)) w := by
  rw [run_slice_string_from_if w 9 s .i64 (n : Int) Tryz.underlying9, if_pos (by omega)]
  rfl
def okSum (s : ByteArray) (n : Nat) : Bool := fourB (crc 4294967295 (s.extract 0 n).data.toList) == (s.extract n s.size).toList
theorem un5_yes (s : ByteArray) (n : Nat) (hn : s.size = n + 4) (hs : n ≤ 20000) (e : okSum s n = true) (w : World) (ht : Tab w) :
    Calls Tryz.prog 167 #[.string s] w fun e w' => e = .returned (.tuple #[.string (s.extract 0 n), .bool true]) ∧ Below w.heap.size w w' := by
  unfold okSum at e
  have t1 := to_run s n (by omega)
  have t2 := from_run s n (by omega)
  have hp : (s.extract 0 n).size ≤ 1048577 := by rw [ByteArray.size_extract]; omega
  have hl := sumof_lt (s.extract 0 n)
  have hsub : IntKind.i64.wrap ((s.size : Int) - 4) = (n : Int) := by rw [hn]; exact (IntWalk.i64_in _ (by omega)).trans (by omega)
  have HT : Hid (∀ W : World, W.heap = w.heap → Tab W) := fun W e => tab_heap ht e
  clear ht
  generalize s.extract 0 n = p at *
  generalize s.extract n s.size = q at *
  have hd1 : decide ((n : Int) < 0) = false := by simp
  have hd2 : decide (20000 < (n : Int)) = false := by simp; omega
  go_enter Tryz.func167, Tryz.ntmps167
  go_wp2
  go_region_held3 (fun _ => True) (trivial) (first | (go_at_call 181; refine (sum8 _ hp _ (by exact HT.out _ rfl)).mono ?_; rintro e w1 ⟨rfl, rfl⟩) | (go_at_call 182; refine (four9 _ hl _).mono ?_; rintro e w1 ⟨rfl, hb⟩))
  go_wp2_with fail
  refine (clone10 _ _ (by omega)).mono ?_
  rintro e w2 ⟨rfl, hb2⟩
  go_wp2
  go_ret2
  exact ⟨rfl, ((Below.refl _ _).drew.trans hb).trans (hb2.mono hb.size)⟩
theorem un5_no (s : ByteArray) (n : Nat) (hn : s.size = n + 4) (hs : n ≤ 20000) (e : okSum s n = false) (w : World) (ht : Tab w) :
    Calls Tryz.prog 167 #[.string s] w fun e w' => e = .returned (.tuple #[.string ⟨#[]⟩, .bool false]) ∧ Below w.heap.size w w' := by
  unfold okSum at e
  have t1 := to_run s n (by omega)
  have t2 := from_run s n (by omega)
  have hp : (s.extract 0 n).size ≤ 1048577 := by rw [ByteArray.size_extract]; omega
  have hl := sumof_lt (s.extract 0 n)
  have hsub : IntKind.i64.wrap ((s.size : Int) - 4) = (n : Int) := by rw [hn]; exact (IntWalk.i64_in _ (by omega)).trans (by omega)
  have HT : Hid (∀ W : World, W.heap = w.heap → Tab W) := fun W e => tab_heap ht e
  clear ht
  generalize s.extract 0 n = p at *
  generalize s.extract n s.size = q at *
  have hd1 : decide ((n : Int) < 0) = false := by simp
  have hd2 : decide (20000 < (n : Int)) = false := by simp; omega
  go_enter Tryz.func167, Tryz.ntmps167
  go_wp2
  go_region_held3 (fun _ => True) (trivial) (first | (go_at_call 181; refine (sum8 _ hp _ (by exact HT.out _ rfl)).mono ?_; rintro e w1 ⟨rfl, rfl⟩) | (go_at_call 182; refine (four9 _ hl _).mono ?_; rintro e w1 ⟨rfl, hb⟩))
  go_wp2
  go_ret2
  exact ⟨rfl, (Below.refl _ _).drew.trans hb⟩
theorem un5_out (s : ByteArray) (hm : s.size ≤ 1048576) (hs : s.size < 4 ∨ 20004 < s.size) (w : World) :
    Calls Tryz.prog 167 #[.string s] w fun e w' => e = .returned (.tuple #[.string ⟨#[]⟩, .bool false]) ∧ Below w.heap.size w w' := by
  rcases hs with hs | hs
  · have hd1 : decide ((s.size : Int) - 4 < 0) = true := by simp; omega
    go_enter Tryz.func167, Tryz.ntmps167
    go_wp2
    go_quiet (fail)
    go_wp2
    go_ret2
    exact ⟨rfl, below_drewN (Below.refl _ _) _⟩
  · have hd1 : decide ((s.size : Int) - 4 < 0) = false := by simp; omega
    have hd2 : decide (20000 < (s.size : Int) - 4) = true := by simp; omega
    go_enter Tryz.func167, Tryz.ntmps167
    go_wp2
    go_quiet (fail)
    go_wp2
    go_ret2
    exact ⟨rfl, below_drewN (Below.refl _ _) _⟩
theorem sun4_yes (s : ByteArray) (n : Nat) (hn : s.size = n + 4) (hs : n ≤ 20000) (e : okSum s n = true) (w : World) :
    Calls Tryz.prog 103 #[.string s] w fun e w' => e = .returned (.tuple #[.string (s.extract 0 n), .bool true]) ∧ Below w.heap.size w w' := by
  unfold okSum at e
  rw [BEq.comm] at e
  have t1 := to_run s n (by omega)
  have t2 := from_run s n (by omega)
  have hp : (s.extract 0 n).size ≤ 1048577 := by rw [ByteArray.size_extract]; omega
  have hl := sumof_lt (s.extract 0 n)
  have hsub : IntKind.i64.wrap ((s.size : Int) - 4) = (n : Int) := by rw [hn]; exact (IntWalk.i64_in _ (by omega)).trans (by omega)
  generalize s.extract 0 n = p at *
  generalize s.extract n s.size = q at *
  have hd1 : decide ((n : Int) < 0) = false := by simp
  have hd2 : decide (20000 < (n : Int)) = false := by simp; omega
  go_enter Tryz.func103, Tryz.ntmps103
  go_wp2
  go_region_held3 (fun _ => True) (trivial) (first | (go_at_call 157; refine (ssum7 _ hp _).mono ?_; rintro e w1 ⟨rfl, rfl⟩) | (go_at_call 156; refine (sfour6 _ hl _).mono ?_; rintro e w1 ⟨rfl, hb⟩))
  go_wp2
  go_ret2
  exact ⟨rfl, (Below.refl _ _).drew.trans hb⟩
theorem sun4_no (s : ByteArray) (n : Nat) (hn : s.size = n + 4) (hs : n ≤ 20000) (e : okSum s n = false) (w : World) :
    Calls Tryz.prog 103 #[.string s] w fun e w' => e = .returned (.tuple #[.string ⟨#[]⟩, .bool false]) ∧ Below w.heap.size w w' := by
  unfold okSum at e
  rw [BEq.comm] at e
  have t1 := to_run s n (by omega)
  have t2 := from_run s n (by omega)
  have hp : (s.extract 0 n).size ≤ 1048577 := by rw [ByteArray.size_extract]; omega
  have hl := sumof_lt (s.extract 0 n)
  have hsub : IntKind.i64.wrap ((s.size : Int) - 4) = (n : Int) := by rw [hn]; exact (IntWalk.i64_in _ (by omega)).trans (by omega)
  generalize s.extract 0 n = p at *
  generalize s.extract n s.size = q at *
  have hd1 : decide ((n : Int) < 0) = false := by simp
  have hd2 : decide (20000 < (n : Int)) = false := by simp; omega
  go_enter Tryz.func103, Tryz.ntmps103
  go_wp2
  go_region_held3 (fun _ => True) (trivial) (first | (go_at_call 157; refine (ssum7 _ hp _).mono ?_; rintro e w1 ⟨rfl, rfl⟩) | (go_at_call 156; refine (sfour6 _ hl _).mono ?_; rintro e w1 ⟨rfl, hb⟩))
  go_wp2
  go_ret2
  exact ⟨rfl, (Below.refl _ _).drew.trans hb⟩
theorem sun4_out (s : ByteArray) (hm : s.size ≤ 1048576) (hs : s.size < 4 ∨ 20004 < s.size) (w : World) :
    Calls Tryz.prog 103 #[.string s] w fun e w' => e = .returned (.tuple #[.string ⟨#[]⟩, .bool false]) ∧ Below w.heap.size w w' := by
  rcases hs with hs | hs
  · have hd1 : decide ((s.size : Int) - 4 < 0) = true := by simp; omega
    go_enter Tryz.func103, Tryz.ntmps103
    go_wp2
    go_quiet (fail)
    go_wp2
    go_ret2
    exact ⟨rfl, below_drewN (Below.refl _ _) _⟩
  · have hd1 : decide ((s.size : Int) - 4 < 0) = false := by simp; omega
    have hd2 : decide (20000 < (s.size : Int) - 4) = true := by simp; omega
    go_enter Tryz.func103, Tryz.ntmps103
    go_wp2
    go_quiet (fail)
    go_wp2
    go_ret2
    exact ⟨rfl, below_drewN (Below.refl _ _) _⟩
def unsealed (s : ByteArray) : Option ByteArray := if 4 ≤ s.size ∧ s.size ≤ 20004 ∧ okSum s (s.size - 4) = true then some (s.extract 0 (s.size - 4)) else none
def encU : Option ByteArray → Value
  | none => .tuple #[.string ⟨#[]⟩, .bool false]
  | some p => .tuple #[.string p, .bool true]
theorem unsealed_yes {s : ByteArray} {n : Nat} (hn : s.size = n + 4) (hs : n ≤ 20000) (e : okSum s n = true) : unsealed s = some (s.extract 0 n) := by
  obtain rfl : n = s.size - 4 := by omega
  unfold unsealed; rw [if_pos ⟨by omega, by omega, e⟩]
theorem unsealed_no {s : ByteArray} {n : Nat} (hn : s.size = n + 4) (e : okSum s n = false) : unsealed s = none := by
  obtain rfl : n = s.size - 4 := by omega
  unfold unsealed; rw [if_neg (by rw [e]; simp)]
theorem unsealed_out {s : ByteArray} (hs : s.size < 4 ∨ 20004 < s.size) : unsealed s = none := by
  unfold unsealed; rw [if_neg (by omega)]
theorem sun4 (s : ByteArray) (hm : s.size ≤ 1048576) (w : World) :
    Calls Tryz.prog 103 #[.string s] w fun e w' => e = .returned (encU (unsealed s)) ∧ Below w.heap.size w w' := by
  by_cases hs : s.size < 4 ∨ 20004 < s.size
  · rw [unsealed_out hs]; exact sun4_out s hm hs w
  · obtain ⟨n, hn⟩ : ∃ n, s.size = n + 4 := ⟨s.size - 4, by omega⟩
    cases e : okSum s n
    · rw [unsealed_no hn e]; exact sun4_no s n hn (by omega) e w
    · rw [unsealed_yes hn (by omega) e]; exact sun4_yes s n hn (by omega) e w
theorem un5 (s : ByteArray) (hm : s.size ≤ 1048576) (w : World) (ht : Tab w) :
    Calls Tryz.prog 167 #[.string s] w fun e w' => e = .returned (encU (unsealed s)) ∧ Below w.heap.size w w' := by
  by_cases hs : s.size < 4 ∨ 20004 < s.size
  · rw [unsealed_out hs]; exact un5_out s hm hs w
  · obtain ⟨n, hn⟩ : ∃ n, s.size = n + 4 := ⟨s.size - 4, by omega⟩
    cases e : okSum s n
    · rw [unsealed_no hn e]; exact un5_no s n hn (by omega) e w ht
    · rw [unsealed_yes hn (by omega) e]; exact un5_yes s n hn (by omega) e w ht
theorem sealS (s : ByteArray) (hs : s.size ≤ 20000) (w : World) :
    Calls Tryz.prog 159 #[.string s] w fun e w' => e = .returned (.tuple #[.string (s ++ sigil s), .bool true]) ∧ Below w.heap.size w w' := by
  have HS : Hid (sigil s = ⟨(fourB (crc 4294967295 s.data.toList)).toArray⟩) := rfl
  have hl := sumof_lt s
  go_enter Tryz.func159, Tryz.ntmps159
  go_wp2_with fail
  refine (ssum7 s (by omega) _).mono ?_
  rintro e w1 ⟨rfl, rfl⟩
  go_wp2_with fail
  refine (sfour6 _ hl _).mono ?_
  rintro e w2 ⟨rfl, hb⟩
  rw [← HS.out]
  have hz := sigil_size s
  obtain ⟨g, hg⟩ : ∃ g, g = sigil s := ⟨_, rfl⟩
  have HG := hq hg
  rw [← hg] at hz ⊢
  clear hg HS
  go_wp2
  go_ret2
  exact ⟨by rw [← HG.out]; rfl, hb⟩
end Go.Proofs.YtfhhnelffldggaaGreatDoor.Q
