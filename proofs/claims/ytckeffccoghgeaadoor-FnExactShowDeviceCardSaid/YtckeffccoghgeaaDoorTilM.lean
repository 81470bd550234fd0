/-
  Lists of ticks: marked and asked, sized, as they came in.
-/
import Derived.Test.YtckeffccoghgeaaDoorTil
import Derived.Test.YtckeffccoghgeaaDoorOrlM
namespace Go.Proofs.YtckeffccoghgeaaDoor
open Go.ChangeShapes Go.WideShapes Go.ChangeAt Go.RowKit Go.PlainAid
set_option linter.unusedVariables false

theorem cells3 : Tryd.prog.cellsOf 3 = 1 := by kernel_rfl
/-- n marks from k on, 3 each -/
def myM (k : Nat) : Nat → List (Int × Int × Int)
  | 0 => []
  | n + 1 => ((k : Int), (k : Int) + 1, (k : Int) + 2) :: myM (k + 3) n
theorem myM_len : ∀ (n k : Nat), (myM k n).length = n
  | 0, _ => rfl
  | n + 1, k => by simp [myM, myM_len n]
theorem myM_snoc : ∀ (j k : Nat), myM k (j + 1) = myM k j ++ [(((k : Int) + 3 * (j : Int)), ((k : Int) + 3 * (j : Int)) + 1, ((k : Int) + 3 * (j : Int)) + 2)]
  | 0, k => by simp [myM]
  | j + 1, k => by
    rw [myM, myM_snoc j (k + 3), myM, List.cons_append, show ((k + 3 : Nat) : Int) + 3 * (j : Int) = (k : Int) + 3 * ((j + 1 : Nat) : Int) by omega]
theorem myM_at : ∀ (n k j : Nat) (h : j < (myM k n).length), (myM k n)[j] = (((k : Int) + 3 * (j : Int)), ((k : Int) + 3 * (j : Int)) + 1, ((k : Int) + 3 * (j : Int)) + 2)
  | 0, k, j, h => by simp [myM] at h
  | n + 1, k, 0, h => by simp [myM]
  | n + 1, k, j + 1, h => by
    have h' : j < (myM (k + 3) n).length := by simpa [myM] using h
    have := myM_at n (k + 3) j h'
    simp only [myM, List.getElem_cons_succ]
    rw [this, show ((k + 3 : Nat) : Int) + 3 * (j : Int) = (k : Int) + 3 * ((j + 1 : Nat) : Int) by omega]
def myX (l : List (Int × Int × Int)) (k j : Nat) : List (Int × Int × Int) := myM k j ++ l.drop j
theorem myX_len {l : List (Int × Int × Int)} {k j : Nat} (h : j ≤ l.length) : (myX l k j).length = l.length := by
  unfold myX; rw [List.length_append, myM_len, List.length_drop]; omega
theorem myX_set {l : List (Int × Int × Int)} {k j : Nat} (h : j < l.length) : (myX l k j).set j (((k : Int) + 3 * (j : Int)), ((k : Int) + 3 * (j : Int)) + 1, ((k : Int) + 3 * (j : Int)) + 2) = myX l k (j + 1) := by
  unfold myX
  rw [List.set_append_right _ _ (by rw [myM_len]; omega), myM_len, Nat.sub_self, List.drop_eq_getElem_cons h, List.set_cons_zero, myM_snoc]
  simp
theorem myX_all (l : List (Int × Int × Int)) (k : Nat) : myX l k l.length = myM k l.length := by unfold myX; simp

theorem szY (a : Option Addr) (n cap : Nat) (m : Int) (m0 : 0 ≤ m) (m1 : m ≤ 1048576) (hn : n ≤ 9223372036854775807) (w : World) : Calls Tryd.prog 11 #[.slice a n cap, .int .i64 m] w fun e w' => e = .returned (.int .i64 (if (n : Int) ≤ m then m - (n : Int) else -1)) ∧ w' = w := by
  have hw : IntKind.i64.wrap (m - (n : Int)) = m - (n : Int) := wrap_in (by omega) (by omega)
  by_cases h : (n : Int) ≤ m
  · rw [if_pos h]
    have h0 : ¬ m - (n : Int) < 0 := by omega
    go_enter Tryd.func11, Tryd.ntmps11
    go_wp2
    go_ret
    exact ⟨rfl, rfl⟩
  · rw [if_neg h]
    have h0 : m - (n : Int) < 0 := by omega
    go_enter Tryd.func11, Tryd.ntmps11
    go_wp2
    go_ret
    exact ⟨rfl, rfl⟩
theorem openY_cells : Tryd.prog.cellsOf 76 = 3 := by kernel_rfl
set_option maxRecDepth 100000 in
theorem openY {H : Type} {enc : TypeId × Value → H} {W : World} {held : Bool} {v : Value} {x : DataW H × List MemPlace} {bs fuel : Nat}
    (hf : DataW.trod enc Tryd.prog W bs (fun _ => true) held fuel 31 [v] = some x) :
    ∃ a len cap, ∃ l : List (Int × Int × Int), v = .slice a len cap ∧ l.length = len ∧ len ≤ cap ∧ len ≤ 9223372036854775807 ∧ RdY W a l ∧ ∀ j (h : j < l.length), (Lit.int .i64 l[j].1).wf = true ∧ (Lit.int .i64 l[j].2.1).wf = true ∧ (Lit.int .i64 l[j].2.2).wf = true := by
  rcases Go.Deep.open_slice Tryd.underlying31 hf with ⟨hcs, _⟩ | ⟨ad, l, c, m, k, D, Pl, hcs, _, hl, hm, hmm, _, hcell⟩
  · simp at hcs
    subst hcs
    exact ⟨none, 0, 0, [], rfl, rfl, Nat.le_refl _, by omega, fun h => by simp at h, fun j h => by simp at h⟩
  · simp at hcs
    subst hcs
    simp at hmm
    subst hmm
    unfold maxLen at hm
    have each : ∀ i, i < l → ∃ r : Int × Int × Int, W.cell? (ad.add (i * 3)) = some (.int .i64 r.1) ∧ W.cell? (ad.add (i * 3 + 1)) = some (.int .i64 r.2.1) ∧ W.cell? (ad.add (i * 3 + 2)) = some (.int .i64 r.2.2) ∧ (Lit.int .i64 r.1).wf = true ∧ (Lit.int .i64 r.2.1).wf = true ∧ (Lit.int .i64 r.2.2).wf = true := by
      intro i hi
      obtain ⟨cs', h1, h2⟩ := hcell i (by omega)
      rw [openY_cells] at h1
      obtain ⟨_, hlen, hc⟩ := World.cells?_some h1
      obtain ⟨xs, kk, hk, hxy, _, hxl, hf⟩ := DataW.trod_struct Tryd.underlying76 h2
      match xs, hxl, cs', hlen with
      | [y0, y1, y2], _, [v0, v1, v2], _ =>
        have g0 := hf 0 _ rfl
        have g1 := hf 1 _ rfl
        have g2 := hf 2 _ rfl
        simp [cells3] at g0 g1 g2
        have e0 := hc 0 (by omega)
        have e1 := hc 1 (by omega)
        have e2 := hc 2 (by omega)
        rw [Go.Deep.add_add] at e0 e1 e2
        obtain ⟨z0, q0, _, u0⟩ := DataW.trod_int Tryd.underlying3 g0
        obtain ⟨z1, q1, _, u1⟩ := DataW.trod_int Tryd.underlying3 g1
        obtain ⟨z2, q2, _, u2⟩ := DataW.trod_int Tryd.underlying3 g2
        simp at q0 q1 q2
        subst q0 q1 q2
        exact ⟨(z0, z1, z2), by simpa using e0, by simpa using e1, by simpa using e2, u0, u1, u2⟩
    obtain ⟨q, hq⟩ := Go.Deep.choose_lt each
    refine ⟨some ad, l, _, (List.range l).map q, rfl, by simp, hl, by omega, fun h0 => ?_, fun j hj => ?_⟩
    · have h0' : 0 < l := by simpa using h0
      obtain ⟨b, off, spot⟩ := ad
      have hspot : spot = none := by simpa [Addr.add] using World.cell?_spot (hq 0 (by omega)).1
      subst hspot
      refine ⟨b, off, rfl, fun j hj => ?_⟩
      have hj' : j < l := by simpa using hj
      obtain ⟨h0, h1, h2, _⟩ := hq j hj'
      rw [add_at] at h0 h1 h2
      simp only [List.getElem_map, List.getElem_range]
      exact ⟨h0, h1, h2⟩
    · have hj' : j < l := by simpa using hj
      simp only [List.getElem_map, List.getElem_range]
      exact (hq j hj').2.2.2
end Go.Proofs.YtckeffccoghgeaaDoor
