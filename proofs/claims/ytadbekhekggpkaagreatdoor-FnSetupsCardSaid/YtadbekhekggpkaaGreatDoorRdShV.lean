/-
  Short texts read: the specification.
-/
import Derived.Test.YtadbekhekggpkaaGreatDoorRoundV
namespace Go.Proofs.YtadbekhekggpkaaGreatDoor.V
open Go.RowKit Plain Go.PlainAid
set_option linter.unusedVariables false

def short (s : ByteArray) : Option (Int × Nat) → Value
  | none => .tuple #[.string ⟨#[]⟩, .int .i64 0, .bool false]
  | some (M, c) => if M ≤ 20000 ∧ M + c ≤ s.size then .tuple #[.string (s.extract c (c + M.toNat)), .int .i64 (c + M), .bool true] else .tuple #[.string ⟨#[]⟩, .int .i64 0, .bool false]
theorem short_yes {s : ByteArray} {m c : Nat} (h : m ≤ 20000) (h' : m + c ≤ s.size) : short s (some ((m : Int), c)) = .tuple #[.string (s.extract c (c + m)), .int .i64 (c + m), .bool true] := by
  simp only [short]; rw [if_pos (by omega)]; rfl
theorem short_no {s : ByteArray} {m c : Nat} (h : ¬ (m ≤ 20000 ∧ m + c ≤ s.size)) : short s (some ((m : Int), c)) = .tuple #[.string ⟨#[]⟩, .int .i64 0, .bool false] := by
  simp only [short]; rw [if_neg (by omega)]

set_option maxRecDepth 100000 in
set_option maxHeartbeats 400000 in
theorem rs15 (s : ByteArray) (a : Int) (hs : s.size ≤ 1048576) (w : World) :
    Calls Tryz.prog 73 #[.string s, .int .i64 a] w fun e w' => e = .returned (short s (rv s a)) ∧ Below w.heap.size w w' := by
  have K1 : Hid (∀ w, Calls Tryz.prog 72 #[.string s, .int .i64 a] w fun e w' => e = .returned (enc3 (rv s a)) ∧ Below w.heap.size w w') := rv11 s a hs
  rcases hR : rv s a with _ | ⟨M, c⟩
  · rw [hR] at K1
    clear hR
    go_enter Tryz.func73, Tryz.ntmps73
    go_wp2_with fail
    refine (K1.out _).mono ?_
    rintro e w1 ⟨rfl, hb1⟩
    simp only [enc3]
    go_wp2
    go_ret3
    exact ⟨rfl, hb1⟩
  · have hb := rv_some hR
    rw [hR] at K1
    clear hR
    obtain ⟨m, rfl⟩ := Int.eq_ofNat_of_zero_le hb.1
    have hm : m ≤ 1000000000 := by omega
    have hc := hb.2.2
    clear hb
    by_cases h1 : m ≤ 20000
    · by_cases h2 : m + c ≤ s.size
      · have H : Hid (short s (some ((m : Int), c)) = _) := short_yes h1 h2
        go_enter Tryz.func73, Tryz.ntmps73
        go_wp2_with fail
        refine (K1.out _).mono ?_
        rintro e w1 ⟨rfl, hb1⟩
        simp only [enc3]
        go_wp2
        go_ret3
        exact ⟨by rw [H.out]; rfl, hb1⟩
      · have H : Hid (short s (some ((m : Int), c)) = _) := short_no (by omega)
        go_enter Tryz.func73, Tryz.ntmps73
        go_wp2_with fail
        refine (K1.out _).mono ?_
        rintro e w1 ⟨rfl, hb1⟩
        simp only [enc3]
        go_wp2
        go_ret3
        exact ⟨by rw [H.out]; rfl, hb1⟩
    · have H : Hid (short s (some ((m : Int), c)) = _) := short_no (by omega)
      go_enter Tryz.func73, Tryz.ntmps73
      go_wp2_with fail
      refine (K1.out _).mono ?_
      rintro e w1 ⟨rfl, hb1⟩
      simp only [enc3]
      go_wp2
      go_ret3
      exact ⟨by rw [H.out]; rfl, hb1⟩
end Go.Proofs.YtadbekhekggpkaaGreatDoor.V
