/-
  Lists of ticks: marked and asked, sized, as they came in.
-/
import Derived.Test.YtbcegpncledolaaTil
import Derived.Test.YtbcegpncledolaaOrlM
namespace Go.Proofs.Ytbcegpncledolaa
open Go.ChangeShapes Go.WideShapes Go.ChangeAt Go.RowKit Go.PlainAid
set_option linter.unusedVariables false

theorem cells3 : Try.prog.cellsOf 3 = 1 := by kernel_rfl
/-- n marks from k on, 3 each -/
def myM (k : Nat) : Nat → List (Int × Int × Int)
  | 0 => []
  | n + 1 => ((k : Int), (k : Int) + 1, (k : Int) + 2) :: myM (k + 3) n
theorem myM_len : ∀ (n k : Nat), (myM k n).length = n
  | 0, _ => rfl
  | n + 1, k => by simp [myM, myM_len n]
theorem myM_snoc : ∀ (j k : Nat), myM k (j + 1) = myM k j ++ [(((k : Int) + 3 * (j : Int)), ((k : Int) + 3 * (j : Int)) + 1, ((k : Int) + 3 * (j : Int)) + 2)]
  | 0, k => by simp [myM]
  | j + 1, k => by
    rw [myM, myM_snoc j (k + 3), myM, List.cons_append, show ((k + 3 : Nat) : Int) + 3 * (j : Int) = (k : Int) + 3 * ((j + 1 : Nat) : Int) by omega]
theorem myM_at : ∀ (n k j : Nat) (h : j < (myM k n).length), (myM k n)[j] = (((k : Int) + 3 * (j : Int)), ((k : Int) + 3 * (j : Int)) + 1, ((k : Int) + 3 * (j : Int)) + 2)
  | 0, k, j, h => by simp [myM] at h
  | n + 1, k, 0, h => by simp [myM]
  | n + 1, k, j + 1, h => by
    have h' : j < (myM (k + 3) n).length := by simpa [myM] using h
    have := myM_at n (k + 3) j h'
    simp only [myM, List.getElem_cons_succ]
    rw [this, show ((k + 3 : Nat) : Int) + 3 * (j : Int) = (k : Int) + 3 * ((j + 1 : Nat) : Int) by omega]
def myX (l : List (Int × Int × Int)) (k j : Nat) : List (Int × Int × Int) := myM k j ++ l.drop j
theorem myX_len {l : List (Int × Int × Int)} {k j : Nat} (h : j ≤ l.length) : (myX l k j).length = l.length := by
  unfold myX; rw [List.length_append, myM_len, List.length_drop]; omega
theorem myX_set {l : List (Int × Int × Int)} {k j : Nat} (h : j < l.length) : (myX l k j).set j (((k : Int) + 3 * (j : Int)), ((k : Int) + 3 * (j : Int)) + 1, ((k : Int) + 3 * (j : Int)) + 2) = myX l k (j + 1) := by
  unfold myX
  rw [List.set_append_right _ _ (by rw [myM_len]; omega), myM_len, Nat.sub_self, List.drop_eq_getElem_cons h, List.set_cons_zero, myM_snoc]
  simp
theorem myX_all (l : List (Int × Int × Int)) (k : Nat) : myX l k l.length = myM k l.length := by unfold myX; simp

set_option maxRecDepth 100000 in
set_option maxHeartbeats 8000000 in
theorem myMark (l : List (Int × Int × Int)) (v : Value) (B n k : Nat) (K : Int) (hK : K = k) (hl : l.length = n) (hn : n ≤ 1048576) (hk : k ≤ 1000000) (w : World) (hown : OwnY w B v n l) (hB : B ≤ w.heap.size) :
    Calls Try.prog 30 #[v, .int .i64 K] w fun e w' => e = .returned (.int .i64 (K + 3 * n)) ∧ OwnY w' B v n (myM k n) ∧ Below B w w' ∧ w.grownBy w' v.ownBlock := by
  subst hK
  by_cases hp : 0 < n
  · obtain ⟨g, cap, rfl, hg⟩ : ∃ g cap, v = .slice (some ⟨g, 0, none⟩) n cap ∧ B ≤ g := by
      rcases hown.2 with ⟨rfl, e⟩ | ⟨g, cap, cur, rfl, hg, _⟩
      · omega
      · exact ⟨g, cap, rfl, hg⟩
    have HL : Hid (l.length = n) := hl
    have HO0 : Hid (w.ownsRow B 83 3 (.slice (some ⟨g, 0, none⟩) n cap) n (tkV l)) := hown
    clear hown hl
    go_enter Try.func30, Try.ntmps30
    go_wp2
    go_loopg [1, 5] n (fun gk kv i wr => ∃ j : Nat, j + gk = n ∧ kv = .int .i64 ((k : Int) + 3 * (j : Int)) ∧ i = .int .i64 j ∧ Hid (wr.ownsRow B 83 3 (.slice (some ⟨g, 0, none⟩) n cap) n (tkV (myX l k j))) ∧ Hid (Below B w wr) ∧ Hid (w.grownBy wr (some g)))
    case atStart => exact ⟨0, by omega, by simp, rfl, HO0, Below.refl _ _, World.grownBy.refl _ _⟩
    case round =>
      clear HO0
      obtain ⟨j, hj, rfl, rfl, HO, HW, HG⟩ := hrel
      by_cases hlt : j < n
      · have hjl : j < l.length := by have := HL.out; omega
        have hm : (myX l k j).length = n := by rw [myX_len (by omega)]; exact HL.out
        have hat := tkV_at (myX l k j) j (by omega)
        have h0 := HO.out
        have c0 := h0.cellAt (j * 3) (by omega)
        rw [hat.1] at c0
        have d0 := h0.frozenAt (j * 3)
        have h1 := (h0.stored (j * 3) (.int .i64 ((k : Int) + 3 * (j : Int)))).1
        have c1 := h1.cellAt (j * 3 + 1) (by omega)
        rw [List.getElem?_set_ne (by omega), hat.2.1] at c1
        have d1 := h1.frozenAt (j * 3 + 1)
        have h2 := (h1.stored (j * 3 + 1) (.int .i64 ((((k : Int) + 3 * (j : Int)) + 1)))).1
        have c2 := h2.cellAt (j * 3 + 2) (by omega)
        rw [List.getElem?_set_ne (by omega), List.getElem?_set_ne (by omega), hat.2.2] at c2
        have d2 := h2.frozenAt (j * 3 + 2)
        have h3 := (h2.stored (j * 3 + 2) (.int .i64 ((((k : Int) + 3 * (j : Int)) + 2)))).1
        have HS : Hid ((((wr.setCell ⟨g, j * 3, none⟩ (.int .i64 ((k : Int) + 3 * (j : Int)))).setCell ⟨g, j * 3 + 1, none⟩ (.int .i64 ((((k : Int) + 3 * (j : Int)) + 1)))).setCell ⟨g, j * 3 + 2, none⟩ (.int .i64 ((((k : Int) + 3 * (j : Int)) + 2)))).ownsRow B 83 3 (.slice (some ⟨g, 0, none⟩) n cap) n (tkV (myX l k (j + 1)))) := by
          have hh := h3
          rw [tkV_set, myX_set hjl] at hh
          exact hh
        have HW' : Hid (Below B w (((wr.setCell ⟨g, j * 3, none⟩ (.int .i64 ((k : Int) + 3 * (j : Int)))).setCell ⟨g, j * 3 + 1, none⟩ (.int .i64 ((((k : Int) + 3 * (j : Int)) + 1)))).setCell ⟨g, j * 3 + 2, none⟩ (.int .i64 ((((k : Int) + 3 * (j : Int)) + 2))))) := ((HW.out.setCell hg _).setCell hg _).setCell hg _
        have HG' : Hid (w.grownBy (((wr.setCell ⟨g, j * 3, none⟩ (.int .i64 ((k : Int) + 3 * (j : Int)))).setCell ⟨g, j * 3 + 1, none⟩ (.int .i64 ((((k : Int) + 3 * (j : Int)) + 1)))).setCell ⟨g, j * 3 + 2, none⟩ (.int .i64 ((((k : Int) + 3 * (j : Int)) + 2)))) (some g)) := (grown_setc (grown_setc (grown_setc HG.out _) _) _)
        generalize (myX l k j)[j].1 = q0 at *
        generalize (myX l k j)[j].2.1 = q1 at *
        generalize (myX l k j)[j].2.2 = q2 at *
        clear hat h0 h1 h2 h3 hm HO HW HG hjl
        go_wp2
        go_roundg (gk - 1)
        case measure => omega
        case rel => exact ⟨j + 1, by omega, by go_num, by go_num, HS, HW', HG'⟩
      · obtain rfl : j = n := by omega
        have HO' : Hid (OwnY wr B (.slice (some ⟨g, 0, none⟩) j cap) j (myM k j)) := by
          have h := HO.out
          have e := myX_all l k
          rw [HL.out] at e
          rw [e] at h
          exact h
        clear HO
        go_wp2
        go_ret
        exact ⟨by go_num, HO'.out, HW.out, HG.out⟩
  · obtain rfl : n = 0 := by omega
    obtain rfl : l = [] := List.length_eq_zero_iff.1 hl
    obtain ⟨a, cap, rfl⟩ := own_shapeW hown
    have HO : Hid (OwnY w B (.slice a 0 cap) 0 []) := hown
    clear hown
    go_enter Try.func30, Try.ntmps30
    go_wp2
    go_rounds 1
    go_ret
    exact ⟨by simp, HO.out, Below.refl _ _, World.grownBy.refl _ _⟩

set_option maxRecDepth 100000 in
set_option maxHeartbeats 1000000 in
theorem myHeld (a : Option Addr) (n k cap : Nat) (K : Int) (hK : K = k) (hn : n ≤ 1048576) (hk : k ≤ 1000000) (w : World) (hr : RdY w a (myM k n)) :
    Calls Try.prog 32 #[.slice a n cap, .int .i64 K] w fun e w' => e = .returned (.int .i64 (K + 3 * n)) ∧ w' = w := by
  subst hK
  by_cases hp : 0 < n
  · obtain ⟨g, off, rfl, hc⟩ := hr (by rw [myM_len]; exact hp)
    have HC : Hid (∀ j (h : j < (myM k n).length), w.cell? ⟨g, off + j * 3, none⟩ = some (.int .i64 (myM k n)[j].1) ∧ w.cell? ⟨g, off + j * 3 + 1, none⟩ = some (.int .i64 (myM k n)[j].2.1) ∧ w.cell? ⟨g, off + j * 3 + 2, none⟩ = some (.int .i64 (myM k n)[j].2.2)) := hc
    clear hr hc
    go_enter Try.func32, Try.ntmps32
    go_wp2
    go_loopg [1, 5] n (fun gk kv i wr => ∃ j : Nat, j + gk = n ∧ kv = .int .i64 ((k : Int) + 3 * (j : Int)) ∧ i = .int .i64 j ∧ wr = w)
    case atStart => exact ⟨0, by omega, by simp, rfl, rfl⟩
    case round =>
      obtain ⟨j, hj, rfl, rfl, rfl⟩ := hrel
      by_cases hlt : j < n
      · have hjl : j < (myM k n).length := by rw [myM_len]; exact hlt
        have c := HC.out j hjl
        rw [myM_at] at c
        obtain ⟨c0, c1, c2⟩ := c
        clear hjl
        go_wp2
        go_roundg (gk - 1)
        case measure => omega
        case rel => exact ⟨j + 1, by omega, by go_num, by go_num, rfl⟩
      · obtain rfl : j = n := by omega
        go_wp2
        go_ret
        exact ⟨by go_num, rfl⟩
  · obtain rfl : n = 0 := by omega
    clear hr
    go_enter Try.func32, Try.ntmps32
    go_wp2
    go_rounds 1
    go_ret
    exact ⟨by simp, rfl⟩
theorem szY (a : Option Addr) (n cap : Nat) (m : Int) (m0 : 0 ≤ m) (m1 : m ≤ 1048576) (hn : n ≤ 9223372036854775807) (w : World) : Calls Try.prog 35 #[.slice a n cap, .int .i64 m] w fun e w' => e = .returned (.int .i64 (if (n : Int) ≤ m then m - (n : Int) else -1)) ∧ w' = w := by
  have hw : IntKind.i64.wrap (m - (n : Int)) = m - (n : Int) := wrap_in (by omega) (by omega)
  by_cases h : (n : Int) ≤ m
  · rw [if_pos h]
    have h0 : ¬ m - (n : Int) < 0 := by omega
    go_enter Try.func35, Try.ntmps35
    go_wp2
    go_ret
    exact ⟨rfl, rfl⟩
  · rw [if_neg h]
    have h0 : m - (n : Int) < 0 := by omega
    go_enter Try.func35, Try.ntmps35
    go_wp2
    go_ret
    exact ⟨rfl, rfl⟩
theorem openY_cells : Try.prog.cellsOf 90 = 3 := by kernel_rfl
set_option maxRecDepth 100000 in
theorem openY {H : Type} {enc : TypeId × Value → H} {W : World} {held : Bool} {v : Value} {x : DataW H × List MemPlace} {bs fuel : Nat}
    (hf : DataW.trod enc Try.prog W bs (fun _ => true) held fuel 50 [v] = some x) :
    ∃ a len cap, ∃ l : List (Int × Int × Int), v = .slice a len cap ∧ l.length = len ∧ len ≤ cap ∧ len ≤ 9223372036854775807 ∧ RdY W a l ∧ ∀ j (h : j < l.length), (Lit.int .i64 l[j].1).wf = true ∧ (Lit.int .i64 l[j].2.1).wf = true ∧ (Lit.int .i64 l[j].2.2).wf = true := by
  rcases Go.Deep.open_slice Try.underlying50 hf with ⟨hcs, _⟩ | ⟨ad, l, c, m, k, D, Pl, hcs, _, hl, hm, hmm, _, hcell⟩
  · simp at hcs
    subst hcs
    exact ⟨none, 0, 0, [], rfl, rfl, Nat.le_refl _, by omega, fun h => by simp at h, fun j h => by simp at h⟩
  · simp at hcs
    subst hcs
    simp at hmm
    subst hmm
    unfold maxLen at hm
    have each : ∀ i, i < l → ∃ r : Int × Int × Int, W.cell? (ad.add (i * 3)) = some (.int .i64 r.1) ∧ W.cell? (ad.add (i * 3 + 1)) = some (.int .i64 r.2.1) ∧ W.cell? (ad.add (i * 3 + 2)) = some (.int .i64 r.2.2) ∧ (Lit.int .i64 r.1).wf = true ∧ (Lit.int .i64 r.2.1).wf = true ∧ (Lit.int .i64 r.2.2).wf = true := by
      intro i hi
      obtain ⟨cs', h1, h2⟩ := hcell i (by omega)
      rw [openY_cells] at h1
      obtain ⟨_, hlen, hc⟩ := World.cells?_some h1
      obtain ⟨xs, kk, hk, hxy, _, hxl, hf⟩ := DataW.trod_struct Try.underlying90 h2
      match xs, hxl, cs', hlen with
      | [y0, y1, y2], _, [v0, v1, v2], _ =>
        have g0 := hf 0 _ rfl
        have g1 := hf 1 _ rfl
        have g2 := hf 2 _ rfl
        simp [cells3] at g0 g1 g2
        have e0 := hc 0 (by omega)
        have e1 := hc 1 (by omega)
        have e2 := hc 2 (by omega)
        rw [Go.Deep.add_add] at e0 e1 e2
        obtain ⟨z0, q0, _, u0⟩ := DataW.trod_int Try.underlying3 g0
        obtain ⟨z1, q1, _, u1⟩ := DataW.trod_int Try.underlying3 g1
        obtain ⟨z2, q2, _, u2⟩ := DataW.trod_int Try.underlying3 g2
        simp at q0 q1 q2
        subst q0 q1 q2
        exact ⟨(z0, z1, z2), by simpa using e0, by simpa using e1, by simpa using e2, u0, u1, u2⟩
    obtain ⟨q, hq⟩ := Go.Deep.choose_lt each
    refine ⟨some ad, l, _, (List.range l).map q, rfl, by simp, hl, by omega, fun h0 => ?_, fun j hj => ?_⟩
    · have h0' : 0 < l := by simpa using h0
      obtain ⟨b, off, spot⟩ := ad
      have hspot : spot = none := by simpa [Addr.add] using World.cell?_spot (hq 0 (by omega)).1
      subst hspot
      refine ⟨b, off, rfl, fun j hj => ?_⟩
      have hj' : j < l := by simpa using hj
      obtain ⟨h0, h1, h2, _⟩ := hq j hj'
      rw [add_at] at h0 h1 h2
      simp only [List.getElem_map, List.getElem_range]
      exact ⟨h0, h1, h2⟩
    · have hj' : j < l := by simpa using hj
      simp only [List.getElem_map, List.getElem_range]
      exact (hq j hj').2.2.2
end Go.Proofs.Ytbcegpncledolaa
