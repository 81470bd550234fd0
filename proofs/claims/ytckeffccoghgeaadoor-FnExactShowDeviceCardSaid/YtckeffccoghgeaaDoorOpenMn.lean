/-
  A menu that came in, opened; sized, made a menu of the program, two compared.
-/
import Derived.Test.YtckeffccoghgeaaDoorMnA
import Derived.Deep.Strs
import Derived.OpenShut
import Derived.ChangeSame
import Derived.ChangeOld
namespace Go.Proofs.YtckeffccoghgeaaDoor
open Go.ChangeShapes Go.WideShapes Go.ChangeAt Go.RowKit Go.Deep Go.PlainAid
set_option linter.unusedVariables false
set_option maxRecDepth 100000

theorem al2_b (w : World) (o p : Obj) : Below w.heap.size w ((w.alloc o).alloc p) := bel_on (Nat.le_refl _) (alM w o) (alM _ p)
theorem al2_1 (w : World) (o p : Obj) : ((w.alloc o).alloc p).heap[w.heap.size]? = some o := row_on (heap_new w o) (alM _ _)
theorem al2_2 (w : World) (o p : Obj) : ((w.alloc o).alloc p).heap[w.heap.size + 1]? = some p := by
  have h := heap_new (w.alloc o) p
  simpa using h
theorem al2_s (w : World) (o p : Obj) : ((w.alloc o).alloc p).heap.size = w.heap.size + 2 := by simp
theorem grown_row {w w' : World} {r : Option Nat} {k : Nat} {o : Obj} (hg : w.grownBy w' r) (h : w.heap[k]? = some o) (hne : r ≠ some k) : w'.heap[k]? = some o := (hg.block k (row_lt h) (Ne.symm hne)).trans h
theorem cells3m : Tryd.prog.cellsOf 3 = 1 := by kernel_rfl
theorem cells4m : Tryd.prog.cellsOf 4 = 1 := by kernel_rfl
theorem cells9m : Tryd.prog.cellsOf 9 = 1 := by kernel_rfl
theorem cellsMn : Tryd.prog.cellsOf 30 = 5 := by kernel_rfl
theorem txt_back (S : ByteArray) : (⟨S.data.toList.toArray⟩ : ByteArray) = S := by
  cases S
  simp
set_option maxRecDepth 100000 in
theorem open_menu {H : Type} {enc : TypeId × Value → H} {W : World} {base : Nat} {held : Bool} {v : Value} {d : DataW H} {ps : List MemPlace} {bs : Nat}
    (hv : Value.okWide Tryd.prog W .any base 30 v) (h : DataW.Trod enc Tryd.prog W bs (fun _ => true) held 30 v d ps) :
    ∃ m : Mn, v = mnV m ∧ m.s.length ≤ maxLen := by
  obtain ⟨cs, rfl, hsz⟩ := okWide_struct Tryd.underlying30 hv
  rw [cellsMn] at hsz
  obtain ⟨l⟩ := cs
  match l, hsz with
  | [c0, c1, c2, c3, c4], _ =>
  obtain ⟨fuel, hf⟩ := h
  obtain ⟨xs, kk, hk, hxy, _, hxl, hf⟩ := DataW.trod_struct Tryd.underlying30 hf
  match xs, hxl with
  | [y0, y1, y2, y3, y4], _ =>
    have g0 := hf 0 _ rfl
    have g1 := hf 1 _ rfl
    have g2 := hf 2 _ rfl
    have g3 := hf 3 _ rfl
    have g4 := hf 4 _ rfl
    simp [Value.cells, cells3m, cells4m, cells9m] at g0 g1 g2 g3 g4
    obtain ⟨z0, q0, _, u0⟩ := DataW.trod_int Tryd.underlying3 g0
    obtain ⟨z1, q1, _⟩ := DataW.trod_bool Tryd.underlying4 g1
    obtain ⟨z2, q2, _, u2⟩ := DataW.trod_int Tryd.underlying3 g2
    obtain ⟨z3, q3, _, u3⟩ := DataW.trod_int Tryd.underlying3 g3
    obtain ⟨z4, q4, _, u4⟩ := DataW.trod_string Tryd.underlying9 g4
    simp at q0 q1 q2 q3 q4
    subst q0 q1 q2 q3 q4
    refine ⟨⟨z0, z1, z2, z3, z4.data.toList⟩, ?_, ?_⟩
    · unfold mnV
      dsimp only
    · exact u4
set_option maxRecDepth 100000 in
set_option maxHeartbeats 1000000 in
theorem toMnu (m : Mn) (w : World) : Calls Tryd.prog 17 #[mnV m] w fun e w' => e = .returned (mnV m) ∧ Below w.heap.size w w' := by
  obtain ⟨a, b, n, d, s⟩ := m
  obtain ⟨S, hS⟩ : ∃ S : ByteArray, (⟨s.toArray⟩ : ByteArray) = S := ⟨_, rfl⟩
  unfold mnV
  dsimp only
  rw [hS]
  clear hS
  go_enter Tryd.func17, Tryd.ntmps17
  go_wp2
  refine bodyPost_ret (v := .agg #[.int .i64 a, .bool b, .int .i64 n, .int .i64 d, .string S]) (by simp [results, Tryd.results17, go_sem]) rfl ⟨rfl, ?_⟩
  exact (((Below.refl _ _).alloc (Nat.le_refl _) _).alloc (by simp) _).alloc (by simp; omega) _
set_option maxRecDepth 100000 in
set_option maxHeartbeats 1000000 in
theorem eqMnu (m : Mn) (w : World) : Calls Tryd.prog 25 #[mnV m, mnV m] w fun e w' => e = .returned (.bool true) ∧ Below w.heap.size w w' := by
  obtain ⟨a, b, n, d, s⟩ := m
  obtain ⟨S, hS⟩ : ∃ S : ByteArray, (⟨s.toArray⟩ : ByteArray) = S := ⟨_, rfl⟩
  unfold mnV
  dsimp only
  rw [hS]
  clear hS
  go_enter Tryd.func25, Tryd.ntmps25
  cases b <;>
  · go_wp2
    go_ret
    exact ⟨rfl, ((Below.refl _ _).alloc (Nat.le_refl _) _).alloc (by simp) _⟩
def leftM (n : Nat) : Int := if n ≤ 1048576 then 1048576 - (n : Int) else -1
set_option maxRecDepth 100000 in
set_option maxHeartbeats 1000000 in
theorem szMnu (m : Mn) (hl : m.s.length ≤ 9223372036854775807) (w : World) : Calls Tryd.prog 10 #[mnV m, .int .i64 1048576] w fun e w' => e = .returned (.int .i64 (leftM m.s.length)) ∧ Below w.heap.size w w' := by
  obtain ⟨a, b, n, d, s⟩ := m
  obtain ⟨S, hS⟩ : ∃ S : ByteArray, (⟨s.toArray⟩ : ByteArray) = S := ⟨_, rfl⟩
  have hsz := txt_size hS
  unfold mnV
  dsimp only at *
  rw [hS, ← hsz]
  rw [← hsz] at hl
  clear hS hsz
  have q : IntKind.i64.wrap (1048576 - (S.size : Int)) = 1048576 - (S.size : Int) := wrap_in (by omega) (by omega)
  by_cases h : S.size ≤ 1048576
  · have h' : ¬ (1048576 - (S.size : Int)) < 0 := by omega
    have HE : Hid (leftM S.size = 1048576 - (S.size : Int)) := by show _ = _; unfold leftM; rw [if_pos h]
    go_enter Tryd.func10, Tryd.ntmps10
    go_wp2
    go_ret
    exact ⟨by rw [HE.out]; rfl, (Below.refl _ _).alloc (Nat.le_refl _) _⟩
  · have h' : (1048576 - (S.size : Int)) < 0 := by omega
    have HE : Hid (leftM S.size = -1) := by show _ = _; unfold leftM; rw [if_neg h]
    go_enter Tryd.func10, Tryd.ntmps10
    go_wp2
    go_ret
    exact ⟨by rw [HE.out]; rfl, (Below.refl _ _).alloc (Nat.le_refl _) _⟩
end Go.Proofs.YtckeffccoghgeaaDoor
