/-
  What comes into a device: opened, sized, made; InOk of the specification.
-/
import Derived.Test.YtbcegpncledolaaOrd
import Derived.Test.YtbcegpncledolaaSnsH
import Derived.Deep.Strs
import Derived.OpenShut
import Derived.ChangeSame
import Derived.ChangeOld
namespace Go.Proofs.Ytbcegpncledolaa
open Go.ChangeShapes Go.WideShapes Go.ChangeAt Go.RowKit Go.Deep Go.PlainAid
set_option linter.unusedVariables false

theorem alI (w : World) (o : Obj) : Below w.heap.size w (w.alloc o) := (Below.refl _ _).alloc (Nat.le_refl _) _
theorem box3i_cells {w : World} {k : Nat} {t : TypeId} {x0 x1 x2 : Value} (h : w.heap[k]? = some (.cells #[x0, x1, x2] t)) :
    (w.cell? ⟨k, 0, none⟩ = some x0 ∧ w.cell? ⟨k, 1, none⟩ = some x1 ∧ w.cell? ⟨k, 2, none⟩ = some x2) ∧ w.frozen? ⟨k, 0, none⟩ = false ∧ w.frozen? ⟨k, 1, none⟩ = false ∧ w.frozen? ⟨k, 2, none⟩ = false := by
  refine ⟨⟨?_, ?_, ?_⟩, ?_, ?_, ?_⟩ <;> simp [World.cell?, World.frozen?, h]
theorem cells3n : Try.prog.cellsOf 3 = 1 := by kernel_rfl
theorem cells9n : Try.prog.cellsOf 9 = 1 := by kernel_rfl
theorem cellsIn : Try.prog.cellsOf 23 = 3 := by kernel_rfl
set_option maxRecDepth 100000 in
theorem open_in {H : Type} {enc : TypeId × Value → H} {W : World} {base : Nat} {held : Bool} {v : Value} {d : DataW H} {ps : List MemPlace} {bs : Nat}
    (hv : Value.okWide Try.prog W .any base 23 v) (h : DataW.Trod enc Try.prog W bs (fun _ => true) held 23 v d ps) :
    ∃ (b : Int) (K L : ByteArray), v = .agg #[.int .i64 b, .string K, .string L] ∧ K.size ≤ maxLen ∧ L.size ≤ maxLen := by
  obtain ⟨cs, rfl, hsz⟩ := okWide_struct Try.underlying23 hv
  rw [cellsIn] at hsz
  obtain ⟨l⟩ := cs
  match l, hsz with
  | [c0, c1, c2], _ =>
  obtain ⟨fuel, hf⟩ := h
  obtain ⟨xs, kk, hk, hxy, _, hxl, hf⟩ := DataW.trod_struct Try.underlying23 hf
  match xs, hxl with
  | [y0, y1, y2], _ =>
    have g0 := hf 0 _ rfl
    have g1 := hf 1 _ rfl
    have g2 := hf 2 _ rfl
    simp [Value.cells, cells3n, cells9n] at g0 g1 g2
    obtain ⟨z0, q0, _, u0⟩ := DataW.trod_int Try.underlying3 g0
    obtain ⟨z1, q1, _, u1⟩ := DataW.trod_string Try.underlying9 g1
    obtain ⟨z2, q2, _, u2⟩ := DataW.trod_string Try.underlying9 g2
    simp at q0 q1 q2
    subst q0 q1 q2
    exact ⟨z0, z1, z2, rfl, u1, u2⟩
set_option maxRecDepth 100000 in
set_option maxHeartbeats 1000000 in
theorem toIn (b : Int) (K L : ByteArray) (w : World) : Calls Try.prog 8 #[.agg #[.int .i64 b, .string K, .string L]] w fun e w' => e = .returned (.agg #[.int .i64 b, .string K, .string L]) ∧ Below w.heap.size w w' := by
  go_enter Try.func8, Try.ntmps8
  go_wp2
  refine bodyPost_ret (v := .agg #[.int .i64 b, .string K, .string L]) (by simp [results, Try.results8, go_sem]) rfl ⟨rfl, ?_⟩
  exact (((Below.refl _ _).alloc (Nat.le_refl _) _).alloc (by simp) _).alloc (by simp; omega) _
def leftI (k l : Nat) : Int := if (k : Int) + l ≤ 1048576 then 1048576 - (k : Int) - l else -1
set_option maxRecDepth 100000 in
set_option maxHeartbeats 1000000 in
theorem szIn (b : Int) (K L : ByteArray) (hk : K.size ≤ 9223372036854775807) (hl : L.size ≤ 9223372036854775807) (w : World) : Calls Try.prog 6 #[.agg #[.int .i64 b, .string K, .string L], .int .i64 1048576] w fun e w' => e = .returned (.int .i64 (leftI K.size L.size)) ∧ Below w.heap.size w w' := by
  have q : IntKind.i64.wrap (1048576 - (K.size : Int)) = 1048576 - (K.size : Int) := wrap_in (by omega) (by omega)
  by_cases h : K.size ≤ 1048576
  case neg =>
    have h' : (1048576 - (K.size : Int)) < 0 := by omega
    have HE : Hid (leftI K.size L.size = -1) := by show _ = _; unfold leftI; rw [if_neg (by omega)]
    go_enter Try.func6, Try.ntmps6
    go_wp2
    go_ret
    exact ⟨by rw [HE.out]; rfl, alI _ _⟩
  have h' : ¬ (1048576 - (K.size : Int)) < 0 := by omega
  have q2 : IntKind.i64.wrap (1048576 - (K.size : Int) - (L.size : Int)) = 1048576 - (K.size : Int) - (L.size : Int) := wrap_in (by omega) (by omega)
  by_cases h2 : K.size + L.size ≤ 1048576
  · have h3 : ¬ (1048576 - (K.size : Int) - (L.size : Int)) < 0 := by omega
    have HE : Hid (leftI K.size L.size = 1048576 - (K.size : Int) - (L.size : Int)) := by show _ = _; unfold leftI; rw [if_pos (by omega)]
    go_enter Try.func6, Try.ntmps6
    go_wp2
    go_ret
    exact ⟨by rw [HE.out]; rfl, alI _ _⟩
  · have h3 : (1048576 - (K.size : Int) - (L.size : Int)) < 0 := by omega
    have HE : Hid (leftI K.size L.size = -1) := by show _ = _; unfold leftI; rw [if_neg (by omega)]
    go_enter Try.func6, Try.ntmps6
    go_wp2
    go_ret
    exact ⟨by rw [HE.out]; rfl, alI _ _⟩
def inR (b : Int) (k l : Nat) : Prop := (0 ≤ b ∧ b ≤ 15) ∧ k ≤ 20 ∧ l ≤ 40
set_option maxRecDepth 100000 in
set_option maxHeartbeats 1000000 in
theorem inokS (b : Int) (K L : ByteArray) (B : Bool) (hB : decide ((0 ≤ b ∧ b ≤ 15) ∧ K.size ≤ 20 ∧ L.size ≤ 40) = B) (w : World) : Calls Try.prog 7 #[.agg #[.int .i64 b, .string K, .string L]] w fun e w' => e = .returned (.bool B) ∧ Below w.heap.size w w' := by
  have HB : Hid (decide ((0 ≤ b ∧ b ≤ 15) ∧ K.size ≤ 20 ∧ L.size ≤ 40) = B) := hB
  have HP : Hid ((w.alloc (.cells #[.int .i64 b, .string K, .string L] 26)).heap[w.heap.size]? = some (.cells #[.int .i64 b, .string K, .string L] 26)) := heap_new w _
  have HW : Hid (Below w.heap.size w (w.alloc (.cells #[.int .i64 b, .string K, .string L] 26))) := alI _ _
  obtain ⟨B1, hB1⟩ : ∃ B1, decide (0 ≤ b ∧ b ≤ 15) = B1 := ⟨_, rfl⟩
  have H1 : Hid (decide (0 ≤ b ∧ b ≤ 15) = B1) := hB1
  have p := box3i_cells HP.out
  clear hB hB1
  go_enter Try.func7, Try.ntmps7
  go_wp2_with fail
  refine (H.senseS b B1 H1.out _).mono ?_
  rintro e W ⟨rfl, hW⟩
  have HW1 : Hid (Below w.heap.size w W) := by rw [hW]; exact HW.out
  have p1 := p
  rw [← hW] at p1
  clear hW HW HP p
  cases B1
  · obtain rfl : false = B := by rw [← HB.out]; exact (decide_eq_false (fun h => absurd h.1 (of_decide_eq_false H1.out))).symm
    go_wp2
    go_ret
    exact ⟨rfl, HW1.out⟩
  have h1 := of_decide_eq_true H1.out
  by_cases hk : K.size ≤ 20
  case neg =>
    obtain rfl : false = B := by rw [← HB.out]; exact (decide_eq_false (fun h => hk h.2.1)).symm
    have hk' : ¬ (K.size : Int) ≤ 20 := by omega
    go_wp2
    go_ret
    exact ⟨rfl, HW1.out⟩
  have hk' : (K.size : Int) ≤ 20 := by omega
  by_cases hl : L.size ≤ 40
  · obtain rfl : true = B := by rw [← HB.out]; exact (decide_eq_true ⟨h1, hk, hl⟩).symm
    have hl' : (L.size : Int) ≤ 40 := by omega
    clear h1
    go_wp2
    go_ret
    exact ⟨rfl, HW1.out⟩
  · obtain rfl : false = B := by rw [← HB.out]; exact (decide_eq_false (fun h => hl h.2.2)).symm
    have hl' : ¬ (L.size : Int) ≤ 40 := by omega
    clear h1
    go_wp2
    go_ret
    exact ⟨by show Ending.returned (Value.bool (decide ((L.size : Int) ≤ 40))) = _; rw [decide_eq_false (by omega)], HW1.out⟩
end Go.Proofs.Ytbcegpncledolaa
