/-
  Proved: the tied card: for every text the call of FnExactReadSetup returns true: ReadSetup of the program answers as that of the specification (texts of more than 1048576 bytes the law itself lets by), its lists are its own and stay so behind a second call, and the argument reads as before. Conditions: errors.errorType holds what its own initialiser lays, the handle of the type error (the card ties it to the text of the pruned copy of the project).
-/
import Derived.Test.YtadbekhekggpkaaGreatDoorLst11
import Derived.Test.YtadbekhekggpkaaGreatDoorRS11
import Derived.Test.YtadbekhekggpkaaGreatDoorAsX
import Derived.Test.YtadbekhekggpkaaGreatDoorRows
import Derived.Lib.LaidTab
import Derived.OpenShut
import Derived.LaidHandle
import Derived.LaidLaws
import Derived.Stop.Joined
import Derived.Test.YtadbekhekggpkaaGreatDoorZG
import Derived.Test.YtadbekhekggpkaaGreatDoorReadS
import Derived.Test.YtadbekhekggpkaaGreatDoorCards
import Derived.Test.YtadbekhekggpkaaGreatDoorTie
import Derived.OpenVars
import Derived.ChangeVars
import Derived.ShutString
import Derived.ChangeOld
import Derived.Below
import Derived.Deep.DeepHandedRow
namespace Go.Proofs.YtadbekhekggpkaaGreatDoor
open Go.ChangeShapes Go.WideShapes Go.ChangeAt Go.RowKit Go.PlainAid
set_option linter.unusedVariables false

/-- n marks from k on, 2 each -/
def mrM (k : Nat) : Nat → List (Int × Int)
  | 0 => []
  | n + 1 => ((k : Int), (k : Int) + 1) :: mrM (k + 2) n
theorem mrM_len : ∀ (n k : Nat), (mrM k n).length = n
  | 0, _ => rfl
  | n + 1, k => by simp [mrM, mrM_len n]
theorem mrM_snoc : ∀ (j k : Nat), mrM k (j + 1) = mrM k j ++ [(((k : Int) + 2 * (j : Int)), ((k : Int) + 2 * (j : Int)) + 1)]
  | 0, k => by simp [mrM]
  | j + 1, k => by
    rw [mrM, mrM_snoc j (k + 2), mrM, List.cons_append, show ((k + 2 : Nat) : Int) + 2 * (j : Int) = (k : Int) + 2 * ((j + 1 : Nat) : Int) by omega]
theorem mrM_at : ∀ (n k j : Nat) (h : j < (mrM k n).length), (mrM k n)[j] = (((k : Int) + 2 * (j : Int)), ((k : Int) + 2 * (j : Int)) + 1)
  | 0, k, j, h => by simp [mrM] at h
  | n + 1, k, 0, h => by simp [mrM]
  | n + 1, k, j + 1, h => by
    have h' : j < (mrM (k + 2) n).length := by simpa [mrM] using h
    have := mrM_at n (k + 2) j h'
    simp only [mrM, List.getElem_cons_succ]
    rw [this, show ((k + 2 : Nat) : Int) + 2 * (j : Int) = (k : Int) + 2 * ((j + 1 : Nat) : Int) by omega]
def mrX (l : List (Int × Int)) (k j : Nat) : List (Int × Int) := mrM k j ++ l.drop j
theorem mrX_len {l : List (Int × Int)} {k j : Nat} (h : j ≤ l.length) : (mrX l k j).length = l.length := by
  unfold mrX; rw [List.length_append, mrM_len, List.length_drop]; omega
theorem mrX_set {l : List (Int × Int)} {k j : Nat} (h : j < l.length) : (mrX l k j).set j (((k : Int) + 2 * (j : Int)), ((k : Int) + 2 * (j : Int)) + 1) = mrX l k (j + 1) := by
  unfold mrX
  rw [List.set_append_right _ _ (by rw [mrM_len]; omega), mrM_len, Nat.sub_self, List.drop_eq_getElem_cons h, List.set_cons_zero, mrM_snoc]
  simp
theorem mrX_all (l : List (Int × Int)) (k : Nat) : mrX l k l.length = mrM k l.length := by unfold mrX; simp

set_option maxRecDepth 100000 in
set_option maxHeartbeats 2000000 in
theorem mrMark (l : List (Int × Int)) (v : Value) (B n k : Nat) (K : Int) (hK : K = k) (hl : l.length = n) (hn : n ≤ 1048576) (hk : k ≤ 1000000) (w : World) (hown : OwnRn w B v n l) (hB : B ≤ w.heap.size) :
    Calls Tryz.prog 39 #[v, .int .i64 K] w fun e w' => e = .returned (.int .i64 (K + 2 * n)) ∧ OwnRn w' B v n (mrM k n) ∧ Below B w w' ∧ w.grownBy w' v.ownBlock := by
  subst hK
  by_cases hp : 0 < n
  · obtain ⟨g, cap, rfl, hg⟩ : ∃ g cap, v = .slice (some ⟨g, 0, none⟩) n cap ∧ B ≤ g := by
      rcases hown.2 with ⟨rfl, e⟩ | ⟨g, cap, cur, rfl, hg, _⟩
      · omega
      · exact ⟨g, cap, rfl, hg⟩
    have HL : Hid (l.length = n) := hl
    have HO0 : Hid (w.ownsRow B 48 2 (.slice (some ⟨g, 0, none⟩) n cap) n (R.regsV l)) := hown
    clear hown hl
    go_enter Tryz.func39, Tryz.ntmps39
    go_wp2
    go_loopg [1, 5] n (fun gk kv i wr => ∃ j : Nat, j + gk = n ∧ kv = .int .i64 ((k : Int) + 2 * (j : Int)) ∧ i = .int .i64 j ∧ Hid (wr.ownsRow B 48 2 (.slice (some ⟨g, 0, none⟩) n cap) n (R.regsV (mrX l k j))) ∧ Hid (Below B w wr) ∧ Hid (w.grownBy wr (some g)))
    case atStart => exact ⟨0, by omega, by simp, rfl, HO0, Below.refl _ _, World.grownBy.refl _ _⟩
    case round =>
      clear HO0
      obtain ⟨j, hj, rfl, rfl, HO, HW, HG⟩ := hrel
      by_cases hlt : j < n
      · have hjl : j < l.length := by have := HL.out; omega
        have hm : (mrX l k j).length = n := by rw [mrX_len (by omega)]; exact HL.out
        have hat := R.regsV_at (mrX l k j) j (by omega)
        have h0 := HO.out
        have c0 := h0.cellAt (j * 2) (by omega)
        rw [hat.1] at c0
        have d0 := h0.frozenAt (j * 2)
        have h1 := (h0.stored (j * 2) (.int .i64 ((k : Int) + 2 * (j : Int)))).1
        have c1 := h1.cellAt (j * 2 + 1) (by omega)
        rw [List.getElem?_set_ne (by omega), hat.2] at c1
        have d1 := h1.frozenAt (j * 2 + 1)
        have h2 := (h1.stored (j * 2 + 1) (.int .i64 ((((k : Int) + 2 * (j : Int)) + 1)))).1
        have HS : Hid (((wr.setCell ⟨g, j * 2, none⟩ (.int .i64 ((k : Int) + 2 * (j : Int)))).setCell ⟨g, j * 2 + 1, none⟩ (.int .i64 ((((k : Int) + 2 * (j : Int)) + 1)))).ownsRow B 48 2 (.slice (some ⟨g, 0, none⟩) n cap) n (R.regsV (mrX l k (j + 1)))) := by
          have hh := h2
          rw [R.regsV_set, mrX_set hjl] at hh
          exact hh
        have HW' : Hid (Below B w ((wr.setCell ⟨g, j * 2, none⟩ (.int .i64 ((k : Int) + 2 * (j : Int)))).setCell ⟨g, j * 2 + 1, none⟩ (.int .i64 ((((k : Int) + 2 * (j : Int)) + 1))))) := (HW.out.setCell hg _).setCell hg _
        have HG' : Hid (w.grownBy ((wr.setCell ⟨g, j * 2, none⟩ (.int .i64 ((k : Int) + 2 * (j : Int)))).setCell ⟨g, j * 2 + 1, none⟩ (.int .i64 ((((k : Int) + 2 * (j : Int)) + 1)))) (some g)) := (grown_setc (grown_setc HG.out _) _)
        generalize (mrX l k j)[j].1 = q0 at *
        generalize (mrX l k j)[j].2 = q1 at *
        clear hat h0 h1 h2 hm HO HW HG hjl
        go_wp2
        go_roundg (gk - 1)
        case measure => omega
        case rel => exact ⟨j + 1, by omega, by go_num, by go_num, HS, HW', HG'⟩
      · obtain rfl : j = n := by omega
        have HO' : Hid (OwnRn wr B (.slice (some ⟨g, 0, none⟩) j cap) j (mrM k j)) := by
          have h := HO.out
          have e := mrX_all l k
          rw [HL.out] at e
          rw [e] at h
          exact h
        clear HO
        go_wp2
        go_ret
        exact ⟨by go_num, HO'.out, HW.out, HG.out⟩
  · obtain rfl : n = 0 := by omega
    obtain rfl : l = [] := List.length_eq_zero_iff.1 hl
    obtain ⟨a, cap, rfl⟩ := own_shapeW hown
    have HO : Hid (OwnRn w B (.slice a 0 cap) 0 []) := hown
    clear hown
    go_enter Tryz.func39, Tryz.ntmps39
    go_wp2
    go_rounds 1
    go_ret
    exact ⟨by simp, HO.out, Below.refl _ _, World.grownBy.refl _ _⟩

set_option maxRecDepth 100000 in
set_option maxHeartbeats 1000000 in
theorem mrHeld (a : Option Addr) (n k cap : Nat) (K : Int) (hK : K = k) (hn : n ≤ 1048576) (hk : k ≤ 1000000) (w : World) (hr : R.RdR w a (mrM k n)) :
    Calls Tryz.prog 44 #[.slice a n cap, .int .i64 K] w fun e w' => e = .returned (.int .i64 (K + 2 * n)) ∧ w' = w := by
  subst hK
  by_cases hp : 0 < n
  · obtain ⟨g, off, rfl, hc⟩ := hr (by rw [mrM_len]; exact hp)
    have HC : Hid (∀ j (h : j < (mrM k n).length), w.cell? ⟨g, off + j * 2, none⟩ = some (.int .i64 (mrM k n)[j].1) ∧ w.cell? ⟨g, off + j * 2 + 1, none⟩ = some (.int .i64 (mrM k n)[j].2)) := hc
    clear hr hc
    go_enter Tryz.func44, Tryz.ntmps44
    go_wp2
    go_loopg [1, 5] n (fun gk kv i wr => ∃ j : Nat, j + gk = n ∧ kv = .int .i64 ((k : Int) + 2 * (j : Int)) ∧ i = .int .i64 j ∧ wr = w)
    case atStart => exact ⟨0, by omega, by simp, rfl, rfl⟩
    case round =>
      obtain ⟨j, hj, rfl, rfl, rfl⟩ := hrel
      by_cases hlt : j < n
      · have hjl : j < (mrM k n).length := by rw [mrM_len]; exact hlt
        have c := HC.out j hjl
        rw [mrM_at] at c
        obtain ⟨c0, c1⟩ := c
        clear hjl
        go_wp2
        go_roundg (gk - 1)
        case measure => omega
        case rel => exact ⟨j + 1, by omega, by go_num, by go_num, rfl⟩
      · obtain rfl : j = n := by omega
        go_wp2
        go_ret
        exact ⟨by go_num, rfl⟩
  · obtain rfl : n = 0 := by omega
    clear hr
    go_enter Tryz.func44, Tryz.ntmps44
    go_wp2
    go_rounds 1
    go_ret
    exact ⟨by simp, rfl⟩
/-- n marks from k on, 2 each -/
def mwM (k : Nat) : Nat → List (Int × Int)
  | 0 => []
  | n + 1 => ((k : Int), (k : Int) + 1) :: mwM (k + 2) n
theorem mwM_len : ∀ (n k : Nat), (mwM k n).length = n
  | 0, _ => rfl
  | n + 1, k => by simp [mwM, mwM_len n]
theorem mwM_snoc : ∀ (j k : Nat), mwM k (j + 1) = mwM k j ++ [(((k : Int) + 2 * (j : Int)), ((k : Int) + 2 * (j : Int)) + 1)]
  | 0, k => by simp [mwM]
  | j + 1, k => by
    rw [mwM, mwM_snoc j (k + 2), mwM, List.cons_append, show ((k + 2 : Nat) : Int) + 2 * (j : Int) = (k : Int) + 2 * ((j + 1 : Nat) : Int) by omega]
theorem mwM_at : ∀ (n k j : Nat) (h : j < (mwM k n).length), (mwM k n)[j] = (((k : Int) + 2 * (j : Int)), ((k : Int) + 2 * (j : Int)) + 1)
  | 0, k, j, h => by simp [mwM] at h
  | n + 1, k, 0, h => by simp [mwM]
  | n + 1, k, j + 1, h => by
    have h' : j < (mwM (k + 2) n).length := by simpa [mwM] using h
    have := mwM_at n (k + 2) j h'
    simp only [mwM, List.getElem_cons_succ]
    rw [this, show ((k + 2 : Nat) : Int) + 2 * (j : Int) = (k : Int) + 2 * ((j + 1 : Nat) : Int) by omega]
def mwX (l : List (Int × Int)) (k j : Nat) : List (Int × Int) := mwM k j ++ l.drop j
theorem mwX_len {l : List (Int × Int)} {k j : Nat} (h : j ≤ l.length) : (mwX l k j).length = l.length := by
  unfold mwX; rw [List.length_append, mwM_len, List.length_drop]; omega
theorem mwX_set {l : List (Int × Int)} {k j : Nat} (h : j < l.length) : (mwX l k j).set j (((k : Int) + 2 * (j : Int)), ((k : Int) + 2 * (j : Int)) + 1) = mwX l k (j + 1) := by
  unfold mwX
  rw [List.set_append_right _ _ (by rw [mwM_len]; omega), mwM_len, Nat.sub_self, List.drop_eq_getElem_cons h, List.set_cons_zero, mwM_snoc]
  simp
theorem mwX_all (l : List (Int × Int)) (k : Nat) : mwX l k l.length = mwM k l.length := by unfold mwX; simp

set_option maxRecDepth 100000 in
set_option maxHeartbeats 2000000 in
theorem mwMark (l : List (Int × Int)) (v : Value) (B n k : Nat) (K : Int) (hK : K = k) (hl : l.length = n) (hn : n ≤ 1048576) (hk : k ≤ 1000000) (w : World) (hown : OwnWn w B v n l) (hB : B ≤ w.heap.size) :
    Calls Tryz.prog 40 #[v, .int .i64 K] w fun e w' => e = .returned (.int .i64 (K + 2 * n)) ∧ OwnWn w' B v n (mwM k n) ∧ Below B w w' ∧ w.grownBy w' v.ownBlock := by
  subst hK
  by_cases hp : 0 < n
  · obtain ⟨g, cap, rfl, hg⟩ : ∃ g cap, v = .slice (some ⟨g, 0, none⟩) n cap ∧ B ≤ g := by
      rcases hown.2 with ⟨rfl, e⟩ | ⟨g, cap, cur, rfl, hg, _⟩
      · omega
      · exact ⟨g, cap, rfl, hg⟩
    have HL : Hid (l.length = n) := hl
    have HO0 : Hid (w.ownsRow B 50 2 (.slice (some ⟨g, 0, none⟩) n cap) n (regsV l)) := hown
    clear hown hl
    go_enter Tryz.func40, Tryz.ntmps40
    go_wp2
    go_loopg [1, 5] n (fun gk kv i wr => ∃ j : Nat, j + gk = n ∧ kv = .int .i64 ((k : Int) + 2 * (j : Int)) ∧ i = .int .i64 j ∧ Hid (wr.ownsRow B 50 2 (.slice (some ⟨g, 0, none⟩) n cap) n (regsV (mwX l k j))) ∧ Hid (Below B w wr) ∧ Hid (w.grownBy wr (some g)))
    case atStart => exact ⟨0, by omega, by simp, rfl, HO0, Below.refl _ _, World.grownBy.refl _ _⟩
    case round =>
      clear HO0
      obtain ⟨j, hj, rfl, rfl, HO, HW, HG⟩ := hrel
      by_cases hlt : j < n
      · have hjl : j < l.length := by have := HL.out; omega
        have hm : (mwX l k j).length = n := by rw [mwX_len (by omega)]; exact HL.out
        have hat := regsV_at (mwX l k j) j (by omega)
        have h0 := HO.out
        have c0 := h0.cellAt (j * 2) (by omega)
        rw [hat.1] at c0
        have d0 := h0.frozenAt (j * 2)
        have h1 := (h0.stored (j * 2) (.int .i64 ((k : Int) + 2 * (j : Int)))).1
        have c1 := h1.cellAt (j * 2 + 1) (by omega)
        rw [List.getElem?_set_ne (by omega), hat.2] at c1
        have d1 := h1.frozenAt (j * 2 + 1)
        have h2 := (h1.stored (j * 2 + 1) (.int .i64 ((((k : Int) + 2 * (j : Int)) + 1)))).1
        have HS : Hid (((wr.setCell ⟨g, j * 2, none⟩ (.int .i64 ((k : Int) + 2 * (j : Int)))).setCell ⟨g, j * 2 + 1, none⟩ (.int .i64 ((((k : Int) + 2 * (j : Int)) + 1)))).ownsRow B 50 2 (.slice (some ⟨g, 0, none⟩) n cap) n (regsV (mwX l k (j + 1)))) := by
          have hh := h2
          rw [regsV_set, mwX_set hjl] at hh
          exact hh
        have HW' : Hid (Below B w ((wr.setCell ⟨g, j * 2, none⟩ (.int .i64 ((k : Int) + 2 * (j : Int)))).setCell ⟨g, j * 2 + 1, none⟩ (.int .i64 ((((k : Int) + 2 * (j : Int)) + 1))))) := (HW.out.setCell hg _).setCell hg _
        have HG' : Hid (w.grownBy ((wr.setCell ⟨g, j * 2, none⟩ (.int .i64 ((k : Int) + 2 * (j : Int)))).setCell ⟨g, j * 2 + 1, none⟩ (.int .i64 ((((k : Int) + 2 * (j : Int)) + 1)))) (some g)) := (grown_setc (grown_setc HG.out _) _)
        generalize (mwX l k j)[j].1 = q0 at *
        generalize (mwX l k j)[j].2 = q1 at *
        clear hat h0 h1 h2 hm HO HW HG hjl
        go_wp2
        go_roundg (gk - 1)
        case measure => omega
        case rel => exact ⟨j + 1, by omega, by go_num, by go_num, HS, HW', HG'⟩
      · obtain rfl : j = n := by omega
        have HO' : Hid (OwnWn wr B (.slice (some ⟨g, 0, none⟩) j cap) j (mwM k j)) := by
          have h := HO.out
          have e := mwX_all l k
          rw [HL.out] at e
          rw [e] at h
          exact h
        clear HO
        go_wp2
        go_ret
        exact ⟨by go_num, HO'.out, HW.out, HG.out⟩
  · obtain rfl : n = 0 := by omega
    obtain rfl : l = [] := List.length_eq_zero_iff.1 hl
    obtain ⟨a, cap, rfl⟩ := own_shapeW hown
    have HO : Hid (OwnWn w B (.slice a 0 cap) 0 []) := hown
    clear hown
    go_enter Tryz.func40, Tryz.ntmps40
    go_wp2
    go_rounds 1
    go_ret
    exact ⟨by simp, HO.out, Below.refl _ _, World.grownBy.refl _ _⟩

set_option maxRecDepth 100000 in
set_option maxHeartbeats 1000000 in
theorem mwHeld (a : Option Addr) (n k cap : Nat) (K : Int) (hK : K = k) (hn : n ≤ 1048576) (hk : k ≤ 1000000) (w : World) (hr : RdR w a (mwM k n)) :
    Calls Tryz.prog 45 #[.slice a n cap, .int .i64 K] w fun e w' => e = .returned (.int .i64 (K + 2 * n)) ∧ w' = w := by
  subst hK
  by_cases hp : 0 < n
  · obtain ⟨g, off, rfl, hc⟩ := hr (by rw [mwM_len]; exact hp)
    have HC : Hid (∀ j (h : j < (mwM k n).length), w.cell? ⟨g, off + j * 2, none⟩ = some (.int .i64 (mwM k n)[j].1) ∧ w.cell? ⟨g, off + j * 2 + 1, none⟩ = some (.int .i64 (mwM k n)[j].2)) := hc
    clear hr hc
    go_enter Tryz.func45, Tryz.ntmps45
    go_wp2
    go_loopg [1, 5] n (fun gk kv i wr => ∃ j : Nat, j + gk = n ∧ kv = .int .i64 ((k : Int) + 2 * (j : Int)) ∧ i = .int .i64 j ∧ wr = w)
    case atStart => exact ⟨0, by omega, by simp, rfl, rfl⟩
    case round =>
      obtain ⟨j, hj, rfl, rfl, rfl⟩ := hrel
      by_cases hlt : j < n
      · have hjl : j < (mwM k n).length := by rw [mwM_len]; exact hlt
        have c := HC.out j hjl
        rw [mwM_at] at c
        obtain ⟨c0, c1⟩ := c
        clear hjl
        go_wp2
        go_roundg (gk - 1)
        case measure => omega
        case rel => exact ⟨j + 1, by omega, by go_num, by go_num, rfl⟩
      · obtain rfl : j = n := by omega
        go_wp2
        go_ret
        exact ⟨by go_num, rfl⟩
  · obtain rfl : n = 0 := by omega
    clear hr
    go_enter Tryz.func45, Tryz.ntmps45
    go_wp2
    go_rounds 1
    go_ret
    exact ⟨by simp, rfl⟩
/-- n marks from k on, 3 each -/
def muM (k : Nat) : Nat → List (Int × Int × Int)
  | 0 => []
  | n + 1 => ((k : Int), (k : Int) + 1, (k : Int) + 2) :: muM (k + 3) n
theorem muM_len : ∀ (n k : Nat), (muM k n).length = n
  | 0, _ => rfl
  | n + 1, k => by simp [muM, muM_len n]
theorem muM_snoc : ∀ (j k : Nat), muM k (j + 1) = muM k j ++ [(((k : Int) + 3 * (j : Int)), ((k : Int) + 3 * (j : Int)) + 1, ((k : Int) + 3 * (j : Int)) + 2)]
  | 0, k => by simp [muM]
  | j + 1, k => by
    rw [muM, muM_snoc j (k + 3), muM, List.cons_append, show ((k + 3 : Nat) : Int) + 3 * (j : Int) = (k : Int) + 3 * ((j + 1 : Nat) : Int) by omega]
theorem muM_at : ∀ (n k j : Nat) (h : j < (muM k n).length), (muM k n)[j] = (((k : Int) + 3 * (j : Int)), ((k : Int) + 3 * (j : Int)) + 1, ((k : Int) + 3 * (j : Int)) + 2)
  | 0, k, j, h => by simp [muM] at h
  | n + 1, k, 0, h => by simp [muM]
  | n + 1, k, j + 1, h => by
    have h' : j < (muM (k + 3) n).length := by simpa [muM] using h
    have := muM_at n (k + 3) j h'
    simp only [muM, List.getElem_cons_succ]
    rw [this, show ((k + 3 : Nat) : Int) + 3 * (j : Int) = (k : Int) + 3 * ((j + 1 : Nat) : Int) by omega]
def muX (l : List (Int × Int × Int)) (k j : Nat) : List (Int × Int × Int) := muM k j ++ l.drop j
theorem muX_len {l : List (Int × Int × Int)} {k j : Nat} (h : j ≤ l.length) : (muX l k j).length = l.length := by
  unfold muX; rw [List.length_append, muM_len, List.length_drop]; omega
theorem muX_set {l : List (Int × Int × Int)} {k j : Nat} (h : j < l.length) : (muX l k j).set j (((k : Int) + 3 * (j : Int)), ((k : Int) + 3 * (j : Int)) + 1, ((k : Int) + 3 * (j : Int)) + 2) = muX l k (j + 1) := by
  unfold muX
  rw [List.set_append_right _ _ (by rw [muM_len]; omega), muM_len, Nat.sub_self, List.drop_eq_getElem_cons h, List.set_cons_zero, muM_snoc]
  simp
theorem muX_all (l : List (Int × Int × Int)) (k : Nat) : muX l k l.length = muM k l.length := by unfold muX; simp

set_option maxRecDepth 100000 in
set_option maxHeartbeats 2000000 in
theorem muMark (l : List (Int × Int × Int)) (v : Value) (B n k : Nat) (K : Int) (hK : K = k) (hl : l.length = n) (hn : n ≤ 1048576) (hk : k ≤ 1000000) (w : World) (hown : OwnU w B v n l) (hB : B ≤ w.heap.size) :
    Calls Tryz.prog 42 #[v, .int .i64 K] w fun e w' => e = .returned (.int .i64 (K + 3 * n)) ∧ OwnU w' B v n (muM k n) ∧ Below B w w' ∧ w.grownBy w' v.ownBlock := by
  subst hK
  by_cases hp : 0 < n
  · obtain ⟨g, cap, rfl, hg⟩ : ∃ g cap, v = .slice (some ⟨g, 0, none⟩) n cap ∧ B ≤ g := by
      rcases hown.2 with ⟨rfl, e⟩ | ⟨g, cap, cur, rfl, hg, _⟩
      · omega
      · exact ⟨g, cap, rfl, hg⟩
    have HL : Hid (l.length = n) := hl
    have HO0 : Hid (w.ownsRow B 54 3 (.slice (some ⟨g, 0, none⟩) n cap) n (rulV l)) := hown
    clear hown hl
    go_enter Tryz.func42, Tryz.ntmps42
    go_wp2
    go_loopg [1, 5] n (fun gk kv i wr => ∃ j : Nat, j + gk = n ∧ kv = .int .i64 ((k : Int) + 3 * (j : Int)) ∧ i = .int .i64 j ∧ Hid (wr.ownsRow B 54 3 (.slice (some ⟨g, 0, none⟩) n cap) n (rulV (muX l k j))) ∧ Hid (Below B w wr) ∧ Hid (w.grownBy wr (some g)))
    case atStart => exact ⟨0, by omega, by simp, rfl, HO0, Below.refl _ _, World.grownBy.refl _ _⟩
    case round =>
      clear HO0
      obtain ⟨j, hj, rfl, rfl, HO, HW, HG⟩ := hrel
      by_cases hlt : j < n
      · have hjl : j < l.length := by have := HL.out; omega
        have hm : (muX l k j).length = n := by rw [muX_len (by omega)]; exact HL.out
        have hat := rulV_at (muX l k j) j (by omega)
        have h0 := HO.out
        have c0 := h0.cellAt (j * 3) (by omega)
        rw [hat.1] at c0
        have d0 := h0.frozenAt (j * 3)
        have h1 := (h0.stored (j * 3) (.int .i64 ((k : Int) + 3 * (j : Int)))).1
        have c1 := h1.cellAt (j * 3 + 1) (by omega)
        rw [List.getElem?_set_ne (by omega), hat.2.1] at c1
        have d1 := h1.frozenAt (j * 3 + 1)
        have h2 := (h1.stored (j * 3 + 1) (.int .i64 ((((k : Int) + 3 * (j : Int)) + 1)))).1
        have c2 := h2.cellAt (j * 3 + 2) (by omega)
        rw [List.getElem?_set_ne (by omega), List.getElem?_set_ne (by omega), hat.2.2] at c2
        have d2 := h2.frozenAt (j * 3 + 2)
        have h3 := (h2.stored (j * 3 + 2) (.int .i64 ((((k : Int) + 3 * (j : Int)) + 2)))).1
        have HS : Hid ((((wr.setCell ⟨g, j * 3, none⟩ (.int .i64 ((k : Int) + 3 * (j : Int)))).setCell ⟨g, j * 3 + 1, none⟩ (.int .i64 ((((k : Int) + 3 * (j : Int)) + 1)))).setCell ⟨g, j * 3 + 2, none⟩ (.int .i64 ((((k : Int) + 3 * (j : Int)) + 2)))).ownsRow B 54 3 (.slice (some ⟨g, 0, none⟩) n cap) n (rulV (muX l k (j + 1)))) := by
          have hh := h3
          rw [rulV_set, muX_set hjl] at hh
          exact hh
        have HW' : Hid (Below B w (((wr.setCell ⟨g, j * 3, none⟩ (.int .i64 ((k : Int) + 3 * (j : Int)))).setCell ⟨g, j * 3 + 1, none⟩ (.int .i64 ((((k : Int) + 3 * (j : Int)) + 1)))).setCell ⟨g, j * 3 + 2, none⟩ (.int .i64 ((((k : Int) + 3 * (j : Int)) + 2))))) := ((HW.out.setCell hg _).setCell hg _).setCell hg _
        have HG' : Hid (w.grownBy (((wr.setCell ⟨g, j * 3, none⟩ (.int .i64 ((k : Int) + 3 * (j : Int)))).setCell ⟨g, j * 3 + 1, none⟩ (.int .i64 ((((k : Int) + 3 * (j : Int)) + 1)))).setCell ⟨g, j * 3 + 2, none⟩ (.int .i64 ((((k : Int) + 3 * (j : Int)) + 2)))) (some g)) := (grown_setc (grown_setc (grown_setc HG.out _) _) _)
        generalize (muX l k j)[j].1 = q0 at *
        generalize (muX l k j)[j].2.1 = q1 at *
        generalize (muX l k j)[j].2.2 = q2 at *
        clear hat h0 h1 h2 h3 hm HO HW HG hjl
        go_wp2
        go_roundg (gk - 1)
        case measure => omega
        case rel => exact ⟨j + 1, by omega, by go_num, by go_num, HS, HW', HG'⟩
      · obtain rfl : j = n := by omega
        have HO' : Hid (OwnU wr B (.slice (some ⟨g, 0, none⟩) j cap) j (muM k j)) := by
          have h := HO.out
          have e := muX_all l k
          rw [HL.out] at e
          rw [e] at h
          exact h
        clear HO
        go_wp2
        go_ret
        exact ⟨by go_num, HO'.out, HW.out, HG.out⟩
  · obtain rfl : n = 0 := by omega
    obtain rfl : l = [] := List.length_eq_zero_iff.1 hl
    obtain ⟨a, cap, rfl⟩ := own_shapeW hown
    have HO : Hid (OwnU w B (.slice a 0 cap) 0 []) := hown
    clear hown
    go_enter Tryz.func42, Tryz.ntmps42
    go_wp2
    go_rounds 1
    go_ret
    exact ⟨by simp, HO.out, Below.refl _ _, World.grownBy.refl _ _⟩

set_option maxRecDepth 100000 in
set_option maxHeartbeats 1000000 in
theorem muHeld (a : Option Addr) (n k cap : Nat) (K : Int) (hK : K = k) (hn : n ≤ 1048576) (hk : k ≤ 1000000) (w : World) (hr : RdU w a (muM k n)) :
    Calls Tryz.prog 47 #[.slice a n cap, .int .i64 K] w fun e w' => e = .returned (.int .i64 (K + 3 * n)) ∧ w' = w := by
  subst hK
  by_cases hp : 0 < n
  · obtain ⟨g, off, rfl, hc⟩ := hr (by rw [muM_len]; exact hp)
    have HC : Hid (∀ j (h : j < (muM k n).length), w.cell? ⟨g, off + j * 3, none⟩ = some (.int .i64 (muM k n)[j].1) ∧ w.cell? ⟨g, off + j * 3 + 1, none⟩ = some (.int .i64 (muM k n)[j].2.1) ∧ w.cell? ⟨g, off + j * 3 + 2, none⟩ = some (.int .i64 (muM k n)[j].2.2)) := hc
    clear hr hc
    go_enter Tryz.func47, Tryz.ntmps47
    go_wp2
    go_loopg [1, 5] n (fun gk kv i wr => ∃ j : Nat, j + gk = n ∧ kv = .int .i64 ((k : Int) + 3 * (j : Int)) ∧ i = .int .i64 j ∧ wr = w)
    case atStart => exact ⟨0, by omega, by simp, rfl, rfl⟩
    case round =>
      obtain ⟨j, hj, rfl, rfl, rfl⟩ := hrel
      by_cases hlt : j < n
      · have hjl : j < (muM k n).length := by rw [muM_len]; exact hlt
        have c := HC.out j hjl
        rw [muM_at] at c
        obtain ⟨c0, c1, c2⟩ := c
        clear hjl
        go_wp2
        go_roundg (gk - 1)
        case measure => omega
        case rel => exact ⟨j + 1, by omega, by go_num, by go_num, rfl⟩
      · obtain rfl : j = n := by omega
        go_wp2
        go_ret
        exact ⟨by go_num, rfl⟩
  · obtain rfl : n = 0 := by omega
    clear hr
    go_enter Tryz.func47, Tryz.ntmps47
    go_wp2
    go_rounds 1
    go_ret
    exact ⟨by simp, rfl⟩
end Go.Proofs.YtadbekhekggpkaaGreatDoor

namespace Go.Proofs.YtadbekhekggpkaaGreatDoor
open Go.ChangeShapes Go.WideShapes Go.ChangeAt Go.RowKit Go.PlainAid
set_option linter.unusedVariables false

/-- n marks from k on, 5 each -/
def moM (k : Nat) : Nat → List (Int × Int × Int × Int × Int)
  | 0 => []
  | n + 1 => ((k : Int), (k : Int) + 1, (k : Int) + 2, (k : Int) + 3, (k : Int) + 4) :: moM (k + 5) n
theorem moM_len : ∀ (n k : Nat), (moM k n).length = n
  | 0, _ => rfl
  | n + 1, k => by simp [moM, moM_len n]
theorem moM_snoc : ∀ (j k : Nat), moM k (j + 1) = moM k j ++ [(((k : Int) + 5 * (j : Int)), ((k : Int) + 5 * (j : Int)) + 1, ((k : Int) + 5 * (j : Int)) + 2, ((k : Int) + 5 * (j : Int)) + 3, ((k : Int) + 5 * (j : Int)) + 4)]
  | 0, k => by simp [moM]
  | j + 1, k => by
    rw [moM, moM_snoc j (k + 5), moM, List.cons_append, show ((k + 5 : Nat) : Int) + 5 * (j : Int) = (k : Int) + 5 * ((j + 1 : Nat) : Int) by omega]
theorem moM_at : ∀ (n k j : Nat) (h : j < (moM k n).length), (moM k n)[j] = (((k : Int) + 5 * (j : Int)), ((k : Int) + 5 * (j : Int)) + 1, ((k : Int) + 5 * (j : Int)) + 2, ((k : Int) + 5 * (j : Int)) + 3, ((k : Int) + 5 * (j : Int)) + 4)
  | 0, k, j, h => by simp [moM] at h
  | n + 1, k, 0, h => by simp [moM]
  | n + 1, k, j + 1, h => by
    have h' : j < (moM (k + 5) n).length := by simpa [moM] using h
    have := moM_at n (k + 5) j h'
    simp only [moM, List.getElem_cons_succ]
    rw [this, show ((k + 5 : Nat) : Int) + 5 * (j : Int) = (k : Int) + 5 * ((j + 1 : Nat) : Int) by omega]
def moX (l : List (Int × Int × Int × Int × Int)) (k j : Nat) : List (Int × Int × Int × Int × Int) := moM k j ++ l.drop j
theorem moX_len {l : List (Int × Int × Int × Int × Int)} {k j : Nat} (h : j ≤ l.length) : (moX l k j).length = l.length := by
  unfold moX; rw [List.length_append, moM_len, List.length_drop]; omega
theorem moX_set {l : List (Int × Int × Int × Int × Int)} {k j : Nat} (h : j < l.length) : (moX l k j).set j (((k : Int) + 5 * (j : Int)), ((k : Int) + 5 * (j : Int)) + 1, ((k : Int) + 5 * (j : Int)) + 2, ((k : Int) + 5 * (j : Int)) + 3, ((k : Int) + 5 * (j : Int)) + 4) = moX l k (j + 1) := by
  unfold moX
  rw [List.set_append_right _ _ (by rw [moM_len]; omega), moM_len, Nat.sub_self, List.drop_eq_getElem_cons h, List.set_cons_zero, moM_snoc]
  simp
theorem moX_all (l : List (Int × Int × Int × Int × Int)) (k : Nat) : moX l k l.length = moM k l.length := by unfold moX; simp

set_option maxRecDepth 100000 in
set_option maxHeartbeats 8000000 in
theorem moMark (l : List (Int × Int × Int × Int × Int)) (v : Value) (B n k : Nat) (K : Int) (hK : K = k) (hl : l.length = n) (hn : n ≤ 1048576) (hk : k ≤ 1000000) (w : World) (hown : OwnO w B v n l) (hB : B ≤ w.heap.size) :
    Calls Tryz.prog 41 #[v, .int .i64 K] w fun e w' => e = .returned (.int .i64 (K + 5 * n)) ∧ OwnO w' B v n (moM k n) ∧ Below B w w' ∧ w.grownBy w' v.ownBlock := by
  subst hK
  by_cases hp : 0 < n
  · obtain ⟨g, cap, rfl, hg⟩ : ∃ g cap, v = .slice (some ⟨g, 0, none⟩) n cap ∧ B ≤ g := by
      rcases hown.2 with ⟨rfl, e⟩ | ⟨g, cap, cur, rfl, hg, _⟩
      · omega
      · exact ⟨g, cap, rfl, hg⟩
    have HL : Hid (l.length = n) := hl
    have HO0 : Hid (w.ownsRow B 52 5 (.slice (some ⟨g, 0, none⟩) n cap) n (prtV l)) := hown
    clear hown hl
    go_enter Tryz.func41, Tryz.ntmps41
    go_wp2
    go_loopg [1, 5] n (fun gk kv i wr => ∃ j : Nat, j + gk = n ∧ kv = .int .i64 ((k : Int) + 5 * (j : Int)) ∧ i = .int .i64 j ∧ Hid (wr.ownsRow B 52 5 (.slice (some ⟨g, 0, none⟩) n cap) n (prtV (moX l k j))) ∧ Hid (Below B w wr) ∧ Hid (w.grownBy wr (some g)))
    case atStart => exact ⟨0, by omega, by simp, rfl, HO0, Below.refl _ _, World.grownBy.refl _ _⟩
    case round =>
      clear HO0
      obtain ⟨j, hj, rfl, rfl, HO, HW, HG⟩ := hrel
      by_cases hlt : j < n
      · have hjl : j < l.length := by have := HL.out; omega
        have hm : (moX l k j).length = n := by rw [moX_len (by omega)]; exact HL.out
        have hat := prtV_at (moX l k j) j (by omega)
        have h0 := HO.out
        have HJL : Hid (j < l.length) := hjl
        have hS : MkS w wr B 52 5 g n cap (prtV (moX l k j)) := ⟨HO.out, HW.out, HG.out⟩
        clear HO hat hm hjl h0 HW HG
        go_wp2_with (refine listStoreM rfl rfl _ _ _ rfl rfl g _ _ rfl rfl (by assumption) (by omega) ?_; intro W hS)
        have HS : Hid (World.ownsRow W B 52 5 (.slice (some ⟨g, 0, none⟩) n cap) n (prtV (moX l k (j + 1)))) := by
          have hh := hS.o
          have e2 : ∀ x : Int, x + 1 + 1 = x + 2 := fun x => by omega
          have e3 : ∀ x : Int, x + 2 + 1 = x + 3 := fun x => by omega
          have e4 : ∀ x : Int, x + 3 + 1 = x + 4 := fun x => by omega
          try rw [e2] at hh
          try rw [e3] at hh
          try rw [e4] at hh
          rw [prtV_set, moX_set HJL.out] at hh
          exact hh
        have HW' : Hid (Below B w W) := hS.b
        have HG' : Hid (w.grownBy W (some g)) := hS.g
        clear hS HJL
        go_roundg (gk - 1)
        case measure => omega
        case rel => exact ⟨j + 1, by omega, by go_num, by go_num, HS, HW', HG'⟩
      · obtain rfl : j = n := by omega
        have HO' : Hid (OwnO wr B (.slice (some ⟨g, 0, none⟩) j cap) j (moM k j)) := by
          have h := HO.out
          have e := moX_all l k
          rw [HL.out] at e
          rw [e] at h
          exact h
        clear HO
        go_wp2
        go_ret
        exact ⟨by go_num, HO'.out, HW.out, HG.out⟩
  · obtain rfl : n = 0 := by omega
    obtain rfl : l = [] := List.length_eq_zero_iff.1 hl
    obtain ⟨a, cap, rfl⟩ := own_shapeW hown
    have HO : Hid (OwnO w B (.slice a 0 cap) 0 []) := hown
    clear hown
    go_enter Tryz.func41, Tryz.ntmps41
    go_wp2
    go_rounds 1
    go_ret
    exact ⟨by simp, HO.out, Below.refl _ _, World.grownBy.refl _ _⟩

set_option maxRecDepth 100000 in
set_option maxHeartbeats 1000000 in
theorem moHeld (a : Option Addr) (n k cap : Nat) (K : Int) (hK : K = k) (hn : n ≤ 1048576) (hk : k ≤ 1000000) (w : World) (hr : RdO w a (moM k n)) :
    Calls Tryz.prog 46 #[.slice a n cap, .int .i64 K] w fun e w' => e = .returned (.int .i64 (K + 5 * n)) ∧ w' = w := by
  subst hK
  by_cases hp : 0 < n
  · obtain ⟨g, off, rfl, hc⟩ := hr (by rw [moM_len]; exact hp)
    have HC : Hid (∀ j (h : j < (moM k n).length), w.cell? ⟨g, off + j * 5, none⟩ = some (.int .i64 (moM k n)[j].1) ∧ w.cell? ⟨g, off + j * 5 + 1, none⟩ = some (.int .i64 (moM k n)[j].2.1) ∧ w.cell? ⟨g, off + j * 5 + 2, none⟩ = some (.int .i64 (moM k n)[j].2.2.1) ∧ w.cell? ⟨g, off + j * 5 + 3, none⟩ = some (.int .i64 (moM k n)[j].2.2.2.1) ∧ w.cell? ⟨g, off + j * 5 + 4, none⟩ = some (.int .i64 (moM k n)[j].2.2.2.2)) := hc
    clear hr hc
    go_enter Tryz.func46, Tryz.ntmps46
    go_wp2
    go_loopg [1, 5] n (fun gk kv i wr => ∃ j : Nat, j + gk = n ∧ kv = .int .i64 ((k : Int) + 5 * (j : Int)) ∧ i = .int .i64 j ∧ wr = w)
    case atStart => exact ⟨0, by omega, by simp, rfl, rfl⟩
    case round =>
      obtain ⟨j, hj, rfl, rfl, rfl⟩ := hrel
      by_cases hlt : j < n
      · have hjl : j < (moM k n).length := by rw [moM_len]; exact hlt
        have c := HC.out j hjl
        rw [moM_at] at c
        obtain ⟨c0, c1, c2, c3, c4⟩ := c
        clear hjl
        go_wp2
        go_roundg (gk - 1)
        case measure => omega
        case rel => exact ⟨j + 1, by omega, by go_num, by go_num, rfl⟩
      · obtain rfl : j = n := by omega
        go_wp2
        go_ret
        exact ⟨by go_num, rfl⟩
  · obtain rfl : n = 0 := by omega
    clear hr
    go_enter Tryz.func46, Tryz.ntmps46
    go_wp2
    go_rounds 1
    go_ret
    exact ⟨by simp, rfl⟩
end Go.Proofs.YtadbekhekggpkaaGreatDoor

namespace Go.Proofs.YtadbekhekggpkaaGreatDoor.S
open Go.RowKit Go.PlainAid
set_option linter.unusedVariables false

set_option maxRecDepth 100000 in
set_option maxHeartbeats 1000000 in
theorem mark7g (l : List ByteArray) (v : Value) (B k : Nat) (h0 : 0 < k) (hk : k + l.length ≤ 1000000) (w : World) (hown : w.ownsRow B 9 1 v l.length (strV l)) (hB : B ≤ w.heap.size) :
    Calls Tryz.prog 43 #[v, .int .i64 k] w fun e w' => e = .returned (.int .i64 ((k : Int) + l.length)) ∧ w'.ownsRow B 9 1 v l.length (strV (marks k l.length)) ∧ Below B w w' ∧ w.grownBy w' v.ownBlock := by
  obtain ⟨a, cap, rfl, hc⟩ := own_form hown
  by_cases hp : 0 < l.length
  · obtain ⟨g, rfl, hg, _⟩ := hc hp
    have hBg : B ≤ g := own_ge hown g hg
    clear hc hg
    go_enter Tryz.func43, Tryz.ntmps43
    go_wp2
    go_loopw [1, 5] (fun kv i wr => ∃ j : Nat, j ≤ l.length ∧ kv = .int .i64 (k + j : Nat) ∧ i = .int .i64 j ∧ wr.ownsRow B 9 1 (.slice (some ⟨g, 0, none⟩) l.length cap) l.length (strV (mixed l k j)) ∧ Below B w wr ∧ w.grownBy wr (some g)) (fun _ i _ => l.length - (intOf i).toNat)
    case atStart => exact ⟨0, Nat.zero_le _, rfl, rfl, by rw [mixed_zero]; exact hown, Below.refl _ _, World.grownBy.refl _ _⟩
    case round =>
      clear hown
      obtain ⟨j, hj, rfl, rfl, hown, hnx, hgr⟩ := hrel
      have hsz := hnx.size
      by_cases hlt : j < l.length
      · have hm := mixed_len (k := k) hj
        have hcell := hown.cellAt j (by omega)
        have hfr := hown.frozenAt j
        have hgl := own_lt hown g rfl
        rw [List.getElem?_eq_getElem (by rw [strV_len, hm]; exact hlt)] at hcell
        generalize (strV (mixed l k j))[j]'(by rw [strV_len, hm]; exact hlt) = old at hcell
        have hst := fun (W : World) (hb : Below wr.heap.size wr W) => (own_keep hown hb (fun g' h' => own_lt hown g' h')).stored j (.string (mk (k + j)))
        have HS : Hid (∀ (W : World) (hb : Below wr.heap.size wr W), (W.setCell ⟨g, j, none⟩ (.string (mk (k + j)))).ownsRow B 9 1 (.slice (some ⟨g, 0, none⟩) l.length cap) l.length ((strV (mixed l k j)).set j (.string (mk (k + j))))) := fun W hb => (hst W hb).1
        clear hst
        go_wp2_with fail
        refine (mt13 (k + j) (by omega) (by omega) _).mono ?_
        rintro e w1 ⟨rfl, hb1⟩
        have hcell1 : w1.cell? ⟨g, j, none⟩ = some old := (hb1.cell (p := ⟨g, j, none⟩) hgl).trans hcell
        have hfr1 : w1.frozen? ⟨g, j, none⟩ = false := (hb1.frozen (p := ⟨g, j, none⟩) hgl).trans hfr
        go_wp2
        go_roundw
        case rel => exact ⟨j + 1, by omega, by go_num, by go_num, by have := HS.out w1 hb1; rw [set_strV, mixed_set hlt] at this; exact this, (hnx.trans (hb1.mono (by omega))).setCell hBg _, grown_setc (grown_bel hgr hb1) _⟩
        case measure => simp [intOf]; omega
      · obtain rfl : j = l.length := by omega
        rw [mixed_all] at hown
        go_wp2
        go_ret
        exact ⟨by go_num, hown, hnx, hgr⟩
  · have hz : l.length = 0 := by omega
    obtain rfl : l = [] := List.length_eq_zero_iff.1 hz
    clear hc hp hz
    go_enter Tryz.func43, Tryz.ntmps43
    go_wp2
    go_rounds 1
    go_ret
    exact ⟨by simp, hown, Below.refl _ _, World.grownBy.refl _ _⟩


end Go.Proofs.YtadbekhekggpkaaGreatDoor.S
namespace Go.Proofs.YtadbekhekggpkaaGreatDoor
open Go.RowKit Go.PlainAid
set_option linter.unusedVariables false

/-- the marks of a set-up whose lists have so many elements -/
def mkX (n0 n1 n2 n3 n4 : Nat) : SX := ⟨mrM (1) n0, mwM (1 + 2 * n0) n1, moM (1 + 2 * n0 + 2 * n1) n2, muM (1 + 2 * n0 + 2 * n1 + 5 * n2) n3, S.marks (1 + 2 * n0 + 2 * n1 + 5 * n2 + 3 * n3) n4⟩
/-- how far they count -/
def mkN (n0 n1 n2 n3 n4 : Nat) : Nat := 1 + 2 * n0 + 2 * n1 + 5 * n2 + 3 * n3 + 1 * n4
/-- lists of a set-up that are few -/
structure FewX (X : SX) : Prop where
  r : X.R.length ≤ 12
  w : X.W.length ≤ 12
  o : X.O.length ≤ 12
  u : X.U.length ≤ 12
  s : X.S.length ≤ 12
  b : S.bytesS X.S ≤ 1048576
theorem OwnX.len {W : World} {B : Nat} {s : SH} {X : SX} (h : OwnX W B s X) : X.R.length = s.n0 ∧ X.W.length = s.n1 ∧ X.O.length = s.n2 ∧ X.U.length = s.n3 ∧ X.S.length = s.n4 :=
  ⟨h.rd.l0, h.rd.l1, h.rd.l2, h.rd.l3, h.rd.l4⟩
theorem OwnX.less {W : World} {B B' : Nat} {s : SH} {X : SX} (h : OwnX W B s X) (hB : B' ≤ B) : OwnX W B' s X :=
  ⟨own_mono h.o0 hB, own_mono h.o1 hB, own_mono h.o2 hB, own_mono h.o3 hB, own_mono h.o4 hB⟩
theorem own_gr11 {W W' : World} {B T z n k : Nat} {v : Value} {xs : List Value} {cs : Array Value} {T' : TypeId} (h : W.ownsRow B T z v n xs) (hg : W.grownBy W' v.ownBlock) (hT : T ≠ T') (hk : W.heap[k]? = some (.cells cs T')) : W'.heap[k]? = some (.cells cs T') :=
  (hg.block k (row_lt hk) (fun e => own_far11 h hk hT e.symm)).trans hk
set_option maxRecDepth 100000 in
set_option maxHeartbeats 4000000 in
theorem markSet (s : SH) (X : SX) (B : Nat) (w : World) (h : OwnX w B s X) (hB : B ≤ w.heap.size) (hf : FewX X) :
    Calls Tryz.prog 14 #[SetV s, .int .i64 1] w fun e w' => e = .returned (.int .i64 (mkN s.n0 s.n1 s.n2 s.n3 s.n4 : Nat)) ∧ OwnX w' B s (mkX s.n0 s.n1 s.n2 s.n3 s.n4) ∧ Below B w w' ∧ ∀ (k : Nat) (cs : Array Value), w.heap[k]? = some (Obj.cells cs 30) → w'.heap[k]? = some (.cells cs 30) := by
  obtain ⟨l0, l1, l2, l3, l4⟩ := h.len
  obtain ⟨f0, f1, f2, f3, f4, _⟩ := hf
  obtain ⟨q0, n0, c0, q1, n1, c1, q2, n2, c2, q3, n3, c3, q4, n4, c4⟩ := s
  dsimp only at l0 l1 l2 l3 l4
  rw [l0] at f0
  rw [l1] at f1
  rw [l2] at f2
  rw [l3] at f3
  rw [l4] at f4
  have HL : Hid (X.R.length = n0 ∧ X.W.length = n1 ∧ X.O.length = n2 ∧ X.U.length = n3 ∧ X.S.length = n4) := ⟨l0, l1, l2, l3, l4⟩
  clear l0 l1 l2 l3 l4
  have hal : Below w.heap.size w (w.alloc (.cells #[.slice q0 n0 c0, .slice q1 n1 c1, .slice q2 n2 c2, .slice q3 n3 c3, .slice q4 n4 c4] 30)) := (Below.refl _ _).alloc (Nat.le_refl _) _
  have HO0 : Hid (OwnX (w.alloc (.cells #[.slice q0 n0 c0, .slice q1 n1 c1, .slice q2 n2 c2, .slice q3 n3 c3, .slice q4 n4 c4] 30)) B ⟨q0, n0, c0, q1, n1, c1, q2, n2, c2, q3, n3, c3, q4, n4, c4⟩ X) := h.bel hal
  have HP0 : Hid ((w.alloc (.cells #[.slice q0 n0 c0, .slice q1 n1 c1, .slice q2 n2 c2, .slice q3 n3 c3, .slice q4 n4 c4] 30)).heap[w.heap.size]? = some (.cells #[.slice q0 n0 c0, .slice q1 n1 c1, .slice q2 n2 c2, .slice q3 n3 c3, .slice q4 n4 c4] 30)) := heap_new w _
  have HB0 : Hid (Below B w (w.alloc (.cells #[.slice q0 n0 c0, .slice q1 n1 c1, .slice q2 n2 c2, .slice q3 n3 c3, .slice q4 n4 c4] 30))) := (Below.refl _ _).alloc hB _
  have HK0 : Hid (∀ (k : Nat) (cs : Array Value), w.heap[k]? = some (Obj.cells cs 30) → (w.alloc (.cells #[.slice q0 n0 c0, .slice q1 n1 c1, .slice q2 n2 c2, .slice q3 n3 c3, .slice q4 n4 c4] 30)).heap[k]? = some (.cells cs 30)) := fun k cs hk => row_on hk hal
  have e0 := boxO_cells HP0.out
  clear h hal
  unfold SetV
  dsimp only
  go_enter Tryz.func14, Tryz.ntmps14
  go_wp2_with fail
  refine (mrMark X.R (.slice q0 n0 c0) B n0 (1) _ (by omega) (HL.out.1) (by omega) (by omega) _ HO0.out.o0 (by have := HB0.out.size; omega)).mono ?_
  rintro e w1 ⟨rfl, ho, hb, hg⟩
  have HO1 : Hid (OwnX w1 B ⟨q0, n0, c0, q1, n1, c1, q2, n2, c2, q3, n3, c3, q4, n4, c4⟩ ⟨mrM (1) n0, X.W, X.O, X.U, X.S⟩) := ⟨ho, own_other11 HO0.out.o1 hg (own_apart11 HO0.out.o1 HO0.out.o0 (by decide)), own_other11 HO0.out.o2 hg (own_apart11 HO0.out.o2 HO0.out.o0 (by decide)), own_other11 HO0.out.o3 hg (own_apart11 HO0.out.o3 HO0.out.o0 (by decide)), own_other11 HO0.out.o4 hg (own_apart11 HO0.out.o4 HO0.out.o0 (by decide))⟩
  have HP1 : Hid (w1.heap[w.heap.size]? = some (.cells #[.slice q0 n0 c0, .slice q1 n1 c1, .slice q2 n2 c2, .slice q3 n3 c3, .slice q4 n4 c4] 30)) := own_gr11 HO0.out.o0 hg (by decide) HP0.out
  have HB1 : Hid (Below B w w1) := HB0.out.trans hb
  have HK1 : Hid (∀ (k : Nat) (cs : Array Value), w.heap[k]? = some (Obj.cells cs 30) → w1.heap[k]? = some (.cells cs 30)) := fun k cs hk => own_gr11 HO0.out.o0 hg (by decide) (HK0.out k cs hk)
  clear ho hb hg HO0 HP0 HB0 HK0 e0
  have e1 := boxO_cells HP1.out
  go_wp2_with fail
  refine (mwMark X.W (.slice q1 n1 c1) B n1 (1 + 2 * n0) _ (by omega) (HL.out.2.1) (by omega) (by omega) _ HO1.out.o1 (by have := HB1.out.size; omega)).mono ?_
  rintro e w2 ⟨rfl, ho, hb, hg⟩
  have HO2 : Hid (OwnX w2 B ⟨q0, n0, c0, q1, n1, c1, q2, n2, c2, q3, n3, c3, q4, n4, c4⟩ ⟨mrM (1) n0, mwM (1 + 2 * n0) n1, X.O, X.U, X.S⟩) := ⟨own_other11 HO1.out.o0 hg (own_apart11 HO1.out.o0 HO1.out.o1 (by decide)), ho, own_other11 HO1.out.o2 hg (own_apart11 HO1.out.o2 HO1.out.o1 (by decide)), own_other11 HO1.out.o3 hg (own_apart11 HO1.out.o3 HO1.out.o1 (by decide)), own_other11 HO1.out.o4 hg (own_apart11 HO1.out.o4 HO1.out.o1 (by decide))⟩
  have HP2 : Hid (w2.heap[w.heap.size]? = some (.cells #[.slice q0 n0 c0, .slice q1 n1 c1, .slice q2 n2 c2, .slice q3 n3 c3, .slice q4 n4 c4] 30)) := own_gr11 HO1.out.o1 hg (by decide) HP1.out
  have HB2 : Hid (Below B w w2) := HB1.out.trans hb
  have HK2 : Hid (∀ (k : Nat) (cs : Array Value), w.heap[k]? = some (Obj.cells cs 30) → w2.heap[k]? = some (.cells cs 30)) := fun k cs hk => own_gr11 HO1.out.o1 hg (by decide) (HK1.out k cs hk)
  clear ho hb hg HO1 HP1 HB1 HK1 e1
  have e2 := boxO_cells HP2.out
  go_wp2_with fail
  refine (moMark X.O (.slice q2 n2 c2) B n2 (1 + 2 * n0 + 2 * n1) _ (by omega) (HL.out.2.2.1) (by omega) (by omega) _ HO2.out.o2 (by have := HB2.out.size; omega)).mono ?_
  rintro e w3 ⟨rfl, ho, hb, hg⟩
  have HO3 : Hid (OwnX w3 B ⟨q0, n0, c0, q1, n1, c1, q2, n2, c2, q3, n3, c3, q4, n4, c4⟩ ⟨mrM (1) n0, mwM (1 + 2 * n0) n1, moM (1 + 2 * n0 + 2 * n1) n2, X.U, X.S⟩) := ⟨own_other11 HO2.out.o0 hg (own_apart11 HO2.out.o0 HO2.out.o2 (by decide)), own_other11 HO2.out.o1 hg (own_apart11 HO2.out.o1 HO2.out.o2 (by decide)), ho, own_other11 HO2.out.o3 hg (own_apart11 HO2.out.o3 HO2.out.o2 (by decide)), own_other11 HO2.out.o4 hg (own_apart11 HO2.out.o4 HO2.out.o2 (by decide))⟩
  have HP3 : Hid (w3.heap[w.heap.size]? = some (.cells #[.slice q0 n0 c0, .slice q1 n1 c1, .slice q2 n2 c2, .slice q3 n3 c3, .slice q4 n4 c4] 30)) := own_gr11 HO2.out.o2 hg (by decide) HP2.out
  have HB3 : Hid (Below B w w3) := HB2.out.trans hb
  have HK3 : Hid (∀ (k : Nat) (cs : Array Value), w.heap[k]? = some (Obj.cells cs 30) → w3.heap[k]? = some (.cells cs 30)) := fun k cs hk => own_gr11 HO2.out.o2 hg (by decide) (HK2.out k cs hk)
  clear ho hb hg HO2 HP2 HB2 HK2 e2
  have e3 := boxO_cells HP3.out
  go_wp2_with fail
  refine (muMark X.U (.slice q3 n3 c3) B n3 (1 + 2 * n0 + 2 * n1 + 5 * n2) _ (by omega) (HL.out.2.2.2.1) (by omega) (by omega) _ HO3.out.o3 (by have := HB3.out.size; omega)).mono ?_
  rintro e w4 ⟨rfl, ho, hb, hg⟩
  have HO4 : Hid (OwnX w4 B ⟨q0, n0, c0, q1, n1, c1, q2, n2, c2, q3, n3, c3, q4, n4, c4⟩ ⟨mrM (1) n0, mwM (1 + 2 * n0) n1, moM (1 + 2 * n0 + 2 * n1) n2, muM (1 + 2 * n0 + 2 * n1 + 5 * n2) n3, X.S⟩) := ⟨own_other11 HO3.out.o0 hg (own_apart11 HO3.out.o0 HO3.out.o3 (by decide)), own_other11 HO3.out.o1 hg (own_apart11 HO3.out.o1 HO3.out.o3 (by decide)), own_other11 HO3.out.o2 hg (own_apart11 HO3.out.o2 HO3.out.o3 (by decide)), ho, own_other11 HO3.out.o4 hg (own_apart11 HO3.out.o4 HO3.out.o3 (by decide))⟩
  have HP4 : Hid (w4.heap[w.heap.size]? = some (.cells #[.slice q0 n0 c0, .slice q1 n1 c1, .slice q2 n2 c2, .slice q3 n3 c3, .slice q4 n4 c4] 30)) := own_gr11 HO3.out.o3 hg (by decide) HP3.out
  have HB4 : Hid (Below B w w4) := HB3.out.trans hb
  have HK4 : Hid (∀ (k : Nat) (cs : Array Value), w.heap[k]? = some (Obj.cells cs 30) → w4.heap[k]? = some (.cells cs 30)) := fun k cs hk => own_gr11 HO3.out.o3 hg (by decide) (HK3.out k cs hk)
  clear ho hb hg HO3 HP3 HB3 HK3 e3
  have e4 := boxO_cells HP4.out
  go_wp2_with fail
  have ho4 : w4.ownsRow B 9 1 (.slice q4 n4 c4) X.S.length (S.strV X.S) := by rw [HL.out.2.2.2.2]; exact HO4.out.o4
  have hkk : (1 + 2 * (n0 : Int) + 2 * (n1 : Int) + 5 * (n2 : Int) + 3 * (n3 : Int)) = ((1 + 2 * n0 + 2 * n1 + 5 * n2 + 3 * n3 : Nat) : Int) := by omega
  rw [hkk]
  refine (S.mark7g X.S (.slice q4 n4 c4) B (1 + 2 * n0 + 2 * n1 + 5 * n2 + 3 * n3) (by omega) (by rw [HL.out.2.2.2.2]; omega) _ ho4 (by have := HB4.out.size; omega)).mono ?_
  rintro e w5 ⟨rfl, ho, hb, hg⟩
  rw [HL.out.2.2.2.2] at ho ⊢
  have HO5 : Hid (OwnX w5 B ⟨q0, n0, c0, q1, n1, c1, q2, n2, c2, q3, n3, c3, q4, n4, c4⟩ ⟨mrM (1) n0, mwM (1 + 2 * n0) n1, moM (1 + 2 * n0 + 2 * n1) n2, muM (1 + 2 * n0 + 2 * n1 + 5 * n2) n3, S.marks (1 + 2 * n0 + 2 * n1 + 5 * n2 + 3 * n3) n4⟩) := ⟨own_other11 HO4.out.o0 hg (own_apart11 HO4.out.o0 HO4.out.o4 (by decide)), own_other11 HO4.out.o1 hg (own_apart11 HO4.out.o1 HO4.out.o4 (by decide)), own_other11 HO4.out.o2 hg (own_apart11 HO4.out.o2 HO4.out.o4 (by decide)), own_other11 HO4.out.o3 hg (own_apart11 HO4.out.o3 HO4.out.o4 (by decide)), ho⟩
  have HP5 : Hid (w5.heap[w.heap.size]? = some (.cells #[.slice q0 n0 c0, .slice q1 n1 c1, .slice q2 n2 c2, .slice q3 n3 c3, .slice q4 n4 c4] 30)) := own_gr11 HO4.out.o4 hg (by decide) HP4.out
  have HB5 : Hid (Below B w w5) := HB4.out.trans hb
  have HK5 : Hid (∀ (k : Nat) (cs : Array Value), w.heap[k]? = some (Obj.cells cs 30) → w5.heap[k]? = some (.cells cs 30)) := fun k cs hk => own_gr11 HO4.out.o4 hg (by decide) (HK4.out k cs hk)
  clear ho hb hg HO4 HP4 HB4 HK4 e4 ho4 hkk
  have e5 := boxO_cells HP5.out
  go_wp2
  go_ret
  refine ⟨?_, HO5.out, HB5.out, HK5.out⟩
  have hz : ((1 + 2 * n0 + 2 * n1 + 5 * n2 + 3 * n3 : Nat) : Int) + (n4 : Int) = ((mkN n0 n1 n2 n3 n4 : Nat) : Int) := by unfold mkN; omega
  rw [← hz]
  congr 2

set_option maxRecDepth 100000 in
set_option maxHeartbeats 4000000 in
theorem heldSet (s : SH) (X : SX) (B : Nat) (w : World) (h : OwnX w B s (mkX s.n0 s.n1 s.n2 s.n3 s.n4)) (f0 : s.n0 ≤ 12) (f1 : s.n1 ≤ 12) (f2 : s.n2 ≤ 12) (f3 : s.n3 ≤ 12) (f4 : s.n4 ≤ 12) :
    Calls Tryz.prog 15 #[SetV s, .int .i64 1] w fun e w' => e = .returned (.int .i64 (mkN s.n0 s.n1 s.n2 s.n3 s.n4 : Nat)) ∧ Below w.heap.size w w' := by
  obtain ⟨q0, n0, c0, q1, n1, c1, q2, n2, c2, q3, n3, c3, q4, n4, c4⟩ := s
  dsimp only at h f0 f1 f2 f3 f4
  have hal : Below w.heap.size w (w.alloc (.cells #[.slice q0 n0 c0, .slice q1 n1 c1, .slice q2 n2 c2, .slice q3 n3 c3, .slice q4 n4 c4] 30)) := (Below.refl _ _).alloc (Nat.le_refl _) _
  have HO : Hid (OwnX (w.alloc (.cells #[.slice q0 n0 c0, .slice q1 n1 c1, .slice q2 n2 c2, .slice q3 n3 c3, .slice q4 n4 c4] 30)) B ⟨q0, n0, c0, q1, n1, c1, q2, n2, c2, q3, n3, c3, q4, n4, c4⟩ (mkX n0 n1 n2 n3 n4)) := h.bel hal
  have HR : Hid (RdX (w.alloc (.cells #[.slice q0 n0 c0, .slice q1 n1 c1, .slice q2 n2 c2, .slice q3 n3 c3, .slice q4 n4 c4] 30)) ⟨q0, n0, c0, q1, n1, c1, q2, n2, c2, q3, n3, c3, q4, n4, c4⟩ (mkX n0 n1 n2 n3 n4)) := HO.out.rd
  have HP : Hid ((w.alloc (.cells #[.slice q0 n0 c0, .slice q1 n1 c1, .slice q2 n2 c2, .slice q3 n3 c3, .slice q4 n4 c4] 30)).heap[w.heap.size]? = some (.cells #[.slice q0 n0 c0, .slice q1 n1 c1, .slice q2 n2 c2, .slice q3 n3 c3, .slice q4 n4 c4] 30)) := heap_new w _
  have e0 := boxO_cells HP.out
  have HB : Hid (Below w.heap.size w (w.alloc (.cells #[.slice q0 n0 c0, .slice q1 n1 c1, .slice q2 n2 c2, .slice q3 n3 c3, .slice q4 n4 c4] 30))) := hal
  clear h hal
  unfold SetV
  dsimp only
  go_enter Tryz.func15, Tryz.ntmps15
  go_wp2_with fail
  refine (mrHeld q0 n0 (1) c0 _ (by omega) (by omega) (by omega) _ HR.out.r0).mono ?_
  rintro e w1 ⟨rfl, hw⟩
  subst hw
  have hn0 : ¬ (1 + 2 * (n0 : Int)) < 0 := by omega
  go_wp2_with fail
  refine (mwHeld q1 n1 (1 + 2 * n0) c1 _ (by omega) (by omega) (by omega) _ HR.out.r1).mono ?_
  rintro e w2 ⟨rfl, hw⟩
  subst hw
  have hn1 : ¬ (1 + 2 * (n0 : Int) + 2 * (n1 : Int)) < 0 := by omega
  go_wp2_with fail
  refine (moHeld q2 n2 (1 + 2 * n0 + 2 * n1) c2 _ (by omega) (by omega) (by omega) _ HR.out.r2).mono ?_
  rintro e w3 ⟨rfl, hw⟩
  subst hw
  have hn2 : ¬ (1 + 2 * (n0 : Int) + 2 * (n1 : Int) + 5 * (n2 : Int)) < 0 := by omega
  go_wp2_with fail
  refine (muHeld q3 n3 (1 + 2 * n0 + 2 * n1 + 5 * n2) c3 _ (by omega) (by omega) (by omega) _ HR.out.r3).mono ?_
  rintro e w4 ⟨rfl, hw⟩
  subst hw
  have hn3 : ¬ (1 + 2 * (n0 : Int) + 2 * (n1 : Int) + 5 * (n2 : Int) + 3 * (n3 : Int)) < 0 := by omega
  go_wp2_with fail
  have hkk : (1 + 2 * (n0 : Int) + 2 * (n1 : Int) + 5 * (n2 : Int) + 3 * (n3 : Int)) = ((1 + 2 * n0 + 2 * n1 + 5 * n2 + 3 * n3 : Nat) : Int) := by omega
  rw [hkk]
  refine (S.held8 n4 (.slice q4 n4 c4) B (1 + 2 * n0 + 2 * n1 + 5 * n2 + 3 * n3) (by omega) (by omega) _ HO.out.o4).mono ?_
  rintro e w5 ⟨rfl, hb⟩
  have hn4 : ¬ (((1 + 2 * n0 + 2 * n1 + 5 * n2 + 3 * n3 : Nat) : Int) + (n4 : Int)) < 0 := by omega
  have HB5 : Hid (Below w.heap.size w w5) := bel_on (Nat.le_refl _) HB.out hb
  clear hb HB HO HR HP e0 hkk
  go_wp2
  go_ret
  refine ⟨?_, HB5.out⟩
  have hz : ((1 + 2 * n0 + 2 * n1 + 5 * n2 + 3 * n3 : Nat) : Int) + (n4 : Int) = ((mkN n0 n1 n2 n3 n4 : Nat) : Int) := by unfold mkN; omega
  rw [← hz]
  congr 2
end Go.Proofs.YtadbekhekggpkaaGreatDoor

namespace Go.Proofs.YtadbekhekggpkaaGreatDoor
open Go.ChangeShapes Go.WideShapes Go.ChangeAt Go.RowKit

theorem h_et : Tryz.prog.globalNamed "errors.errorType" = some 0 := by kernel_rfl
theorem h_oneRow : ((List.range 214).filter fun t => Tryz.prog.rowNamed t [101, 114, 114, 111, 114]) = [67] := by kernel_rfl
theorem h_size : Tryz.prog.types.size = 214 := by kernel_rfl
theorem handle_of {W : World} (h : laidMetH Tryz.prog [("errors.errorType", Rows.laid_errors_errorType)] W) : Hnd W := by
  have h' : laidMet Tryz.prog [] W ∧ handlesMet Tryz.prog [("errors.errorType", Rows.laid_errors_errorType)] W := h
  obtain ⟨name, u, ty, e1, e2, e3, e4, e5⟩ := h'.2 _ (List.mem_singleton.2 rfl)
  have en : name = [101, 114, 114, 111, 114] := (Option.some.inj e1).symm
  subst en
  have hu : some u = some 151 := e2.symm.trans (by kernel_rfl)
  obtain rfl := (Option.some.inj hu).symm
  have hm : ty ∈ (List.range 214).filter fun t => Tryz.prog.rowNamed t [101, 114, 114, 111, 114] := List.mem_filter.2 ⟨List.mem_range.2 (by rw [← h_size]; exact e3), e4⟩
  rw [h_oneRow] at hm
  obtain rfl := List.mem_singleton.1 hm
  have hh : typeHandle Tryz.prog 67 = .pointer (some ⟨1, 67, none⟩) := by kernel_rfl
  rw [hh] at e5
  show W.cell? _ = _
  simpa using World.var?_cell h_et e5 0
def setRowH (cs : Array Value) : Obj → Obj
  | .cells _ t frozen => .cells cs t frozen
  | o => o
/-- a world whose variable holds the handle -/
def layH (w : World) : World := { w with heap := w.heap.modify 0 (setRowH #[.iface 151 (.agg #[.pointer (some ⟨1, 67, none⟩)])]) }
end Go.Proofs.YtadbekhekggpkaaGreatDoor

namespace Go.Proofs.YtadbekhekggpkaaGreatDoor
open Go.RowKit Go.PlainAid
set_option linter.unusedVariables false

theorem bytesS_le : ∀ {l : List ByteArray}, (∀ x ∈ l, x.size ≤ 20000) → S.bytesS l ≤ 20000 * l.length
  | [], _ => by simp [S.bytesS]
  | x :: l, h => by
    have h1 := bytesS_le (l := l) (fun y hy => h y (List.mem_cons_of_mem _ hy))
    have h2 := h x List.mem_cons_self
    simp only [S.bytesS, List.length_cons]
    omega
theorem ParsedX.sm {t : ByteArray} {X : SX} {w : World} {s : SH} (h : ParsedX t X) (hr : RdX w s X) : SmX s X := by
  have hb := bytesS_le h.z
  have h0 := h.r
  have h1 := h.w
  have h2 := h.o
  have h3 := h.u
  have h4 := h.s
  exact ⟨by rw [← hr.l0]; omega, by rw [← hr.l1]; omega, by rw [← hr.l2]; omega, by rw [← hr.l3]; omega, by rw [← hr.l4]; omega, by omega⟩
theorem ParsedX.wf {t : ByteArray} {X : SX} (h : ParsedX t X) : WfU X.U := fun j hj => h.f _ (List.getElem_mem hj)

set_option maxRecDepth 100000 in
set_option maxHeartbeats 4000000 in
theorem readI (t : ByteArray) (ht : t.size ≤ 1048576) (w : World) (hg : Hnd w) :
    Calls Tryz.prog 8 #[.string t] w fun e w' => ∃ (s : SH) (ok : Bool), e = .returned (.tuple #[SetV s, .bool ok]) ∧ ReadR t w w' s ok ∧ Below w.heap.size w w' := by
  have HG : Hid (Hnd w) := hg
  have HB0 : Hid (Below w.heap.size w (w.alloc (.cells #[.slice none 0 0, .slice none 0 0, .slice none 0 0, .slice none 0 0, .slice none 0 0] 30))) := (Below.refl _ _).alloc (Nat.le_refl _) _
  have HZ0 : Hid ((w.alloc (.cells #[.slice none 0 0, .slice none 0 0, .slice none 0 0, .slice none 0 0, .slice none 0 0] 30)).heap[w.heap.size]? = some (.cells #[.slice none 0 0, .slice none 0 0, .slice none 0 0, .slice none 0 0, .slice none 0 0] 30)) := heap_new w _
  clear hg
  unfold SetV
  go_enter Tryz.func8, Tryz.ntmps8
  go_wp2_with fail
  refine (setupIn_I t ht _).mono ?_
  rintro e w1 (⟨s, X, rfl, hP, hcap, ho, hb⟩ | ⟨rfl, hP, hb⟩)
  · obtain ⟨q0, n0, c0, q1, n1, c1, q2, n2, c2, q3, n3, c3, q4, n4, c4⟩ := s
    have HPX : Hid (ParsedX t X) := parse_sound hP
    have HPP : Hid (parse t = some X) := hP
    have HCAP : Hid (n0 ≤ c0) := hcap
    have HZ1 : Hid (w1.heap[w.heap.size]? = some (.cells #[.slice none 0 0, .slice none 0 0, .slice none 0 0, .slice none 0 0, .slice none 0 0] 30)) := row_on HZ0.out hb
    have HB1 : Hid (Below w.heap.size w w1) := bel_on (Nat.le_refl _) HB0.out hb
    have HO1 : Hid (OwnX w1 w.heap.size ⟨q0, n0, c0, q1, n1, c1, q2, n2, c2, q3, n3, c3, q4, n4, c4⟩ X) := ho.mono (by simp)
    have hal : Below w1.heap.size w1 (w1.alloc (.cells #[.slice q0 n0 c0, .slice q1 n1 c1, .slice q2 n2 c2, .slice q3 n3 c3, .slice q4 n4 c4] 30)) := (Below.refl _ _).alloc (Nat.le_refl _) _
    have HZ2 : Hid ((w1.alloc (.cells #[.slice q0 n0 c0, .slice q1 n1 c1, .slice q2 n2 c2, .slice q3 n3 c3, .slice q4 n4 c4] 30)).heap[w.heap.size]? = some (.cells #[.slice none 0 0, .slice none 0 0, .slice none 0 0, .slice none 0 0, .slice none 0 0] 30)) := row_on HZ1.out hal
    have HB2 : Hid (Below w.heap.size w (w1.alloc (.cells #[.slice q0 n0 c0, .slice q1 n1 c1, .slice q2 n2 c2, .slice q3 n3 c3, .slice q4 n4 c4] 30))) := bel_on (Nat.le_refl _) HB1.out hal
    have HO2 : Hid (OwnX (w1.alloc (.cells #[.slice q0 n0 c0, .slice q1 n1 c1, .slice q2 n2 c2, .slice q3 n3 c3, .slice q4 n4 c4] 30)) w.heap.size ⟨q0, n0, c0, q1, n1, c1, q2, n2, c2, q3, n3, c3, q4, n4, c4⟩ X) := HO1.out.bel hal
    have HX2 : Hid ((w1.alloc (.cells #[.slice q0 n0 c0, .slice q1 n1 c1, .slice q2 n2 c2, .slice q3 n3 c3, .slice q4 n4 c4] 30)).heap[w1.heap.size]? = some (.cells #[.slice q0 n0 c0, .slice q1 n1 c1, .slice q2 n2 c2, .slice q3 n3 c3, .slice q4 n4 c4] 30)) := heap_new w1 _
    have kx := boxO_cells HX2.out
    obtain ⟨f, hf⟩ := fault_ex X
    have HF : Hid (FaultX X f) := hf
    clear hP hcap ho hb HZ0 HB0 HZ1 HB1 HO1 hal hf
    unfold SetV
    dsimp only
    go_wp2_with fail
    refine (faultI ⟨q0, n0, c0, q1, n1, c1, q2, n2, c2, q3, n3, c3, q4, n4, c4⟩ X f HF.out _ HO2.out.rd (HPX.out.sm HO2.out.rd) HPX.out.wf HCAP.out (HG.out.on HB2.out)).mono ?_
    rintro e w3 ⟨rfl, hb⟩
    have HZ3 : Hid (w3.heap[w.heap.size]? = some (.cells #[.slice none 0 0, .slice none 0 0, .slice none 0 0, .slice none 0 0, .slice none 0 0] 30)) := row_on HZ2.out hb
    have HB3 : Hid (Below w.heap.size w w3) := bel_on (Nat.le_refl _) HB2.out hb
    have HO3 : Hid (OwnX w3 w.heap.size ⟨q0, n0, c0, q1, n1, c1, q2, n2, c2, q3, n3, c3, q4, n4, c4⟩ X) := HO2.out.bel hb
    have HX3 : Hid (w3.heap[w1.heap.size]? = some (.cells #[.slice q0 n0 c0, .slice q1 n1 c1, .slice q2 n2 c2, .slice q3 n3 c3, .slice q4 n4 c4] 30)) := row_on HX2.out hb
    clear hb HZ2 HB2 HO2 HX2 kx
    have kz := boxO_cells HZ3.out
    by_cases hf0 : f = 0
    · have HRX : Hid (RightX X) := (fault_right HF.out).1 hf0
      subst hf0
      have kx := boxO_cells HX3.out
      have HE : Hid (ReadR t w (((((w3.setCell ⟨w.heap.size, 0, none⟩ (.slice q0 n0 c0)).setCell ⟨w.heap.size, 1, none⟩ (.slice q1 n1 c1)).setCell ⟨w.heap.size, 2, none⟩ (.slice q2 n2 c2)).setCell ⟨w.heap.size, 3, none⟩ (.slice q3 n3 c3)).setCell ⟨w.heap.size, 4, none⟩ (.slice q4 n4 c4)) ⟨q0, n0, c0, q1, n1, c1, q2, n2, c2, q3, n3, c3, q4, n4, c4⟩ true) := .inl ⟨X, HRX.out, HPX.out.txt, rfl, HO3.out.put5 (ne_of HO3.out HZ3.out (by decide))⟩
      have HBE : Hid (Below w.heap.size w (((((w3.setCell ⟨w.heap.size, 0, none⟩ (.slice q0 n0 c0)).setCell ⟨w.heap.size, 1, none⟩ (.slice q1 n1 c1)).setCell ⟨w.heap.size, 2, none⟩ (.slice q2 n2 c2)).setCell ⟨w.heap.size, 3, none⟩ (.slice q3 n3 c3)).setCell ⟨w.heap.size, 4, none⟩ (.slice q4 n4 c4))) := (((((HB3.out.setCell (Nat.le_refl _) _).setCell (Nat.le_refl _) _).setCell (Nat.le_refl _) _).setCell (Nat.le_refl _) _).setCell (Nat.le_refl _) _)
      clear HF HRX HPX HPP HZ3 HB3 HO3 HX3
      go_wp2
      refine bodyPost_ret (v := .tuple #[.agg #[.slice q0 n0 c0, .slice q1 n1 c1, .slice q2 n2 c2, .slice q3 n3 c3, .slice q4 n4 c4], .bool true]) (by simp [results, Tryz.results8, go_sem, kz]) rfl ⟨⟨q0, n0, c0, q1, n1, c1, q2, n2, c2, q3, n3, c3, q4, n4, c4⟩, true, rfl, HE.out, HBE.out⟩
    · have hne : (f != 0) = true := by simpa using hf0
      have HE : Hid (ReadR t w (((((w3.setCell ⟨w.heap.size, 0, none⟩ (.slice none 0 0)).setCell ⟨w.heap.size, 1, none⟩ (.slice none 0 0)).setCell ⟨w.heap.size, 2, none⟩ (.slice none 0 0)).setCell ⟨w.heap.size, 3, none⟩ (.slice none 0 0)).setCell ⟨w.heap.size, 4, none⟩ (.slice none 0 0)) ⟨none, 0, 0, none, 0, 0, none, 0, 0, none, 0, 0, none, 0, 0⟩ false) := .inr ⟨fun Y hY hT => by
        have h1 := parse_whole hY hT
        rw [HPP.out] at h1
        cases h1
        exact hf0 ((fault_right HF.out).2 hY), rfl, rfl⟩
      have HBE : Hid (Below w.heap.size w (((((w3.setCell ⟨w.heap.size, 0, none⟩ (.slice none 0 0)).setCell ⟨w.heap.size, 1, none⟩ (.slice none 0 0)).setCell ⟨w.heap.size, 2, none⟩ (.slice none 0 0)).setCell ⟨w.heap.size, 3, none⟩ (.slice none 0 0)).setCell ⟨w.heap.size, 4, none⟩ (.slice none 0 0))) := (((((HB3.out.setCell (Nat.le_refl _) _).setCell (Nat.le_refl _) _).setCell (Nat.le_refl _) _).setCell (Nat.le_refl _) _).setCell (Nat.le_refl _) _)
      clear HF HPX HPP HZ3 HB3 HO3 HX3 hf0
      go_wp2
      refine bodyPost_ret (v := .tuple #[.agg #[.slice none 0 0, .slice none 0 0, .slice none 0 0, .slice none 0 0, .slice none 0 0], .bool false]) (by simp [results, Tryz.results8, go_sem, kz]) rfl ⟨⟨none, 0, 0, none, 0, 0, none, 0, 0, none, 0, 0, none, 0, 0⟩, false, rfl, HE.out, HBE.out⟩
  · have HPP : Hid (parse t = none) := hP
    have HZ1 : Hid (w1.heap[w.heap.size]? = some (.cells #[.slice none 0 0, .slice none 0 0, .slice none 0 0, .slice none 0 0, .slice none 0 0] 30)) := row_on HZ0.out hb
    have HB1 : Hid (Below w.heap.size w w1) := bel_on (Nat.le_refl _) HB0.out hb
    have hal : Below w1.heap.size w1 (w1.alloc (.cells #[.slice none 0 0, .slice none 0 0, .slice none 0 0, .slice none 0 0, .slice none 0 0] 30)) := (Below.refl _ _).alloc (Nat.le_refl _) _
    have HZ2 : Hid ((w1.alloc (.cells #[.slice none 0 0, .slice none 0 0, .slice none 0 0, .slice none 0 0, .slice none 0 0] 30)).heap[w.heap.size]? = some (.cells #[.slice none 0 0, .slice none 0 0, .slice none 0 0, .slice none 0 0, .slice none 0 0] 30)) := row_on HZ1.out hal
    have HB2 : Hid (Below w.heap.size w (w1.alloc (.cells #[.slice none 0 0, .slice none 0 0, .slice none 0 0, .slice none 0 0, .slice none 0 0] 30))) := bel_on (Nat.le_refl _) HB1.out hal
    have kz := boxO_cells HZ2.out
    have W2 := (w1.alloc (.cells #[.slice none 0 0, .slice none 0 0, .slice none 0 0, .slice none 0 0, .slice none 0 0] 30))
    have HE : Hid (ReadR t w ((((((w1.alloc (.cells #[.slice none 0 0, .slice none 0 0, .slice none 0 0, .slice none 0 0, .slice none 0 0] 30)).setCell ⟨w.heap.size, 0, none⟩ (.slice none 0 0)).setCell ⟨w.heap.size, 1, none⟩ (.slice none 0 0)).setCell ⟨w.heap.size, 2, none⟩ (.slice none 0 0)).setCell ⟨w.heap.size, 3, none⟩ (.slice none 0 0)).setCell ⟨w.heap.size, 4, none⟩ (.slice none 0 0)) ⟨none, 0, 0, none, 0, 0, none, 0, 0, none, 0, 0, none, 0, 0⟩ false) := .inr ⟨fun Y hY hT => by
      have h1 := parse_whole hY hT
      rw [HPP.out] at h1
      exact (by cases h1), rfl, rfl⟩
    have HBE : Hid (Below w.heap.size w ((((((w1.alloc (.cells #[.slice none 0 0, .slice none 0 0, .slice none 0 0, .slice none 0 0, .slice none 0 0] 30)).setCell ⟨w.heap.size, 0, none⟩ (.slice none 0 0)).setCell ⟨w.heap.size, 1, none⟩ (.slice none 0 0)).setCell ⟨w.heap.size, 2, none⟩ (.slice none 0 0)).setCell ⟨w.heap.size, 3, none⟩ (.slice none 0 0)).setCell ⟨w.heap.size, 4, none⟩ (.slice none 0 0))) := (((((HB2.out.setCell (Nat.le_refl _) _).setCell (Nat.le_refl _) _).setCell (Nat.le_refl _) _).setCell (Nat.le_refl _) _).setCell (Nat.le_refl _) _)
    clear hP hb HZ0 HB0 HZ1 HB1 hal HZ2 HB2 HPP W2
    go_wp2
    refine bodyPost_ret (v := .tuple #[.agg #[.slice none 0 0, .slice none 0 0, .slice none 0 0, .slice none 0 0, .slice none 0 0], .bool false]) (by simp [results, Tryz.results8, go_sem, kz]) rfl ⟨⟨none, 0, 0, none, 0, 0, none, 0, 0, none, 0, 0, none, 0, 0⟩, false, rfl, HE.out, HBE.out⟩
end Go.Proofs.YtadbekhekggpkaaGreatDoor

namespace Go.Proofs.YtadbekhekggpkaaGreatDoor.fnExactReadSetup
open Go.ChangeShapes Go.WideShapes Go.ChangeAt Go.RowKit Go.PlainAid
open Go.ChangeMaps (open_string shut_string)
set_option linter.unusedVariables false

theorem own : ownKnob Tryz.prog.godebug = none := by kernel_rfl
theorem laidOut : laidOutB Tryz.prog = true := by kernel_rfl

theorem few_right {Y : SX} (h : RightX Y) : FewX Y := by
  obtain ⟨⟨r1, _⟩, ⟨w1, _⟩, ⟨o1, _⟩, ⟨u1, _⟩, s1, s2⟩ := h.num
  have hb : S.bytesS Y.S ≤ 20000 * Y.S.length := bytesS_le (fun x hx => by obtain ⟨j, hj, rfl⟩ := List.getElem_of_mem hx; have := s2 j hj; omega)
  exact ⟨by omega, by omega, by omega, by omega, by omega, by omega⟩
/-- what a text tells -/
def ReadY (t : ByteArray) (ok : Bool) (Y : SX) : Prop := (RightX Y ∧ txt Y = t ∧ ok = true) ∨ ((∀ Y', RightX Y' → txt Y' ≠ t) ∧ ok = false ∧ Y = ⟨[], [], [], [], []⟩)
theorem own_none (W : World) (B : Nat) : OwnX W B ⟨none, 0, 0, none, 0, 0, none, 0, 0, none, 0, 0, none, 0, 0⟩ ⟨[], [], [], [], []⟩ := ⟨World.ownsRow_nil _ _ _ _, World.ownsRow_nil _ _ _ _, World.ownsRow_nil _ _ _ _, World.ownsRow_nil _ _ _ _, World.ownsRow_nil _ _ _ _⟩
theorem read_of {t : ByteArray} {w W : World} {s : SH} {ok : Bool} (h : ReadR t w W s ok) : ∃ Y, ReadY t ok Y ∧ FewX Y ∧ OwnX W w.heap.size s Y := by
  rcases h with ⟨Y, hY, hT, rfl, ho⟩ | ⟨hno, rfl, rfl⟩
  · exact ⟨Y, .inl ⟨hY, hT, rfl⟩, few_right hY, ho⟩
  · exact ⟨⟨[], [], [], [], []⟩, .inr ⟨hno, rfl, rfl⟩, ⟨by decide, by decide, by decide, by decide, by decide, by decide⟩, own_none _ _⟩
theorem read_with {t : ByteArray} {w W : World} {s : SH} {ok ok' : Bool} {Y : SX} (hY : ReadY t ok Y) (h : ReadR t w W s ok') : ok' = ok ∧ OwnX W w.heap.size s Y := by
  rcases hY with ⟨h1, h2, rfl⟩ | ⟨h1, rfl, rfl⟩
  · rcases h with ⟨Y', hY', hT', rfl, ho'⟩ | ⟨hno', _, _⟩
    · have e : Y = Y' := by
        have h3 := parse_whole h1 h2
        rw [parse_whole hY' hT'] at h3
        exact (Option.some.inj h3).symm
      subst e
      exact ⟨rfl, ho'⟩
    · exact absurd h2 (hno' Y h1)
  · rcases h with ⟨Y', hY', hT', _, _⟩ | ⟨_, rfl, rfl⟩
    · exact absurd hT' (h1 Y' hY')
    · exact ⟨rfl, own_none _ _⟩
theorem few_sm {W : World} {s : SH} {Y : SX} (h : FewX Y) (hr : RdX W s Y) : SmX s Y := by
  obtain ⟨r, w, o, u, s', b⟩ := h
  exact ⟨by rw [← hr.l0]; omega, by rw [← hr.l1]; omega, by rw [← hr.l2]; omega, by rw [← hr.l3]; omega, by rw [← hr.l4]; omega, b⟩
set_option maxRecDepth 100000 in
set_option maxHeartbeats 4000000 in
theorem walk (t : ByteArray) (w : World) (w0 : t.size ≤ maxLen) (hg : Hnd w) :
    Calls Tryz.prog 4 #[.string t] w fun e w' => e = .returned (.bool true) ∧ Below w.heap.size w w' := by
  unfold maxLen at w0
  have HG : Hid (Hnd w) := hg
  clear hg
  by_cases ht : t.size ≤ 1048576
  · clear w0
    go_enter Tryz.func4, Tryz.ntmps4
    go_wp2_with fail
    refine (readS t ht _).mono ?_
    rintro e w1 ⟨sW, okW, rfl, hRW, hb1⟩
    obtain ⟨wq0, wn0, wc0, wq1, wn1, wc1, wq2, wn2, wc2, wq3, wn3, wc3, wq4, wn4, wc4⟩ := sW
    have HRW : Hid (ReadR t w w1 ⟨wq0, wn0, wc0, wq1, wn1, wc1, wq2, wn2, wc2, wq3, wn3, wc3, wq4, wn4, wc4⟩ okW) := hRW
    have HB1 : Hid (Below w.heap.size w w1) := hb1
    have HB1a : Hid (Below w.heap.size w (w1.alloc (.cells #[.slice wq0 wn0 wc0, .slice wq1 wn1 wc1, .slice wq2 wn2 wc2, .slice wq3 wn3 wc3, .slice wq4 wn4 wc4] 30))) := HB1.out.alloc HB1.out.size _
    have HBW1 : Hid ((w1.alloc (.cells #[.slice wq0 wn0 wc0, .slice wq1 wn1 wc1, .slice wq2 wn2 wc2, .slice wq3 wn3 wc3, .slice wq4 wn4 wc4] 30)).heap[w1.heap.size]? = some (.cells #[.slice wq0 wn0 wc0, .slice wq1 wn1 wc1, .slice wq2 wn2 wc2, .slice wq3 wn3 wc3, .slice wq4 wn4 wc4] 30)) := heap_new w1 _
    obtain ⟨BG, hBG⟩ : ∃ k, (w1.alloc (.cells #[.slice wq0 wn0 wc0, .slice wq1 wn1 wc1, .slice wq2 wn2 wc2, .slice wq3 wn3 wc3, .slice wq4 wn4 wc4] 30)).heap.size = k := ⟨_, rfl⟩
    clear hRW hb1
    unfold SetV
    dsimp only
    go_wp2_with fail
    refine (readI t ht _ (HG.out.on HB1a.out)).mono ?_
    rintro e w2 ⟨sG, okG, rfl, hRG, hb2⟩
    obtain ⟨gq0, gn0, gc0, gq1, gn1, gc1, gq2, gn2, gc2, gq3, gn3, gc3, gq4, gn4, gc4⟩ := sG
    obtain ⟨Y, hRY, hfew, hoW⟩ := read_of HRW.out
    obtain ⟨hok, hoG⟩ := read_with hRY hRG
    subst hok
    have HYY : Hid (ReadY t okG Y) := hRY
    rw [hBG] at hoG hb2
    have hsz1 : w1.heap.size < BG := by rw [← hBG]; simp
    have hwB : w.heap.size ≤ BG := by have := HB1.out.size; omega
    have hW1 : RdX (w1.alloc (.cells #[.slice wq0 wn0 wc0, .slice wq1 wn1 wc1, .slice wq2 wn2 wc2, .slice wq3 wn3 wc3, .slice wq4 wn4 wc4] 30)) ⟨wq0, wn0, wc0, wq1, wn1, wc1, wq2, wn2, wc2, wq3, wn3, wc3, wq4, wn4, wc4⟩ Y := hoW.rd.on ((Below.refl _ _).alloc (Nat.le_refl _) _)
    have HRDW : Hid (∀ W, Below BG (w1.alloc (.cells #[.slice wq0 wn0 wc0, .slice wq1 wn1 wc1, .slice wq2 wn2 wc2, .slice wq3 wn3 wc3, .slice wq4 wn4 wc4] 30)) W → RdX W ⟨wq0, wn0, wc0, wq1, wn1, wc1, wq2, wn2, wc2, wq3, wn3, wc3, wq4, wn4, wc4⟩ Y) := fun W h => hW1.keep h (by rw [hBG]; exact Nat.le_refl _)
    have HROW : Hid (∀ W, Below BG (w1.alloc (.cells #[.slice wq0 wn0 wc0, .slice wq1 wn1 wc1, .slice wq2 wn2 wc2, .slice wq3 wn3 wc3, .slice wq4 wn4 wc4] 30)) W → W.heap[w1.heap.size]? = some (.cells #[.slice wq0 wn0 wc0, .slice wq1 wn1 wc1, .slice wq2 wn2 wc2, .slice wq3 wn3 wc3, .slice wq4 wn4 wc4] 30)) := fun W h => (h.block _ hsz1).trans HBW1.out
    have HBEL : Hid (∀ W, Below BG (w1.alloc (.cells #[.slice wq0 wn0 wc0, .slice wq1 wn1 wc1, .slice wq2 wn2 wc2, .slice wq3 wn3 wc3, .slice wq4 wn4 wc4] 30)) W → Below w.heap.size w W) := fun W h => HB1a.out.trans (h.mono hwB)
    have HF : Hid (FewX Y) := hfew
    have hal2 : Below w2.heap.size w2 (w2.alloc (.cells #[.slice gq0 gn0 gc0, .slice gq1 gn1 gc1, .slice gq2 gn2 gc2, .slice gq3 gn3 gc3, .slice gq4 gn4 gc4] 30)) := (Below.refl _ _).alloc (Nat.le_refl _) _
    have hB2 : BG ≤ w2.heap.size := by have := hb2.size; rw [hBG] at this; exact this
    have HB2 : Hid (Below BG (w1.alloc (.cells #[.slice wq0 wn0 wc0, .slice wq1 wn1 wc1, .slice wq2 wn2 wc2, .slice wq3 wn3 wc3, .slice wq4 wn4 wc4] 30)) (w2.alloc (.cells #[.slice gq0 gn0 gc0, .slice gq1 gn1 gc1, .slice gq2 gn2 gc2, .slice gq3 gn3 gc3, .slice gq4 gn4 gc4] 30))) := hb2.trans (hal2.mono hB2)
    have HOG2 : Hid (OwnX (w2.alloc (.cells #[.slice gq0 gn0 gc0, .slice gq1 gn1 gc1, .slice gq2 gn2 gc2, .slice gq3 gn3 gc3, .slice gq4 gn4 gc4] 30)) BG ⟨gq0, gn0, gc0, gq1, gn1, gc1, gq2, gn2, gc2, gq3, gn3, gc3, gq4, gn4, gc4⟩ Y) := hoG.bel hal2
    have HBG2 : Hid ((w2.alloc (.cells #[.slice gq0 gn0 gc0, .slice gq1 gn1 gc1, .slice gq2 gn2 gc2, .slice gq3 gn3 gc3, .slice gq4 gn4 gc4] 30)).heap[w2.heap.size]? = some (.cells #[.slice gq0 gn0 gc0, .slice gq1 gn1 gc1, .slice gq2 gn2 gc2, .slice gq3 gn3 gc3, .slice gq4 gn4 gc4] 30)) := heap_new w2 _
    have kg := boxO_cells HBG2.out
    have kw := boxO_cells (HROW.out _ HB2.out)
    clear HRW HB1 HB1a HBW1 hRG hb2 hfew hoW hoG hW1 hal2 hRY
    unfold SetV
    dsimp only
    go_wp2_with fail
    refine (eqSet ⟨gq0, gn0, gc0, gq1, gn1, gc1, gq2, gn2, gc2, gq3, gn3, gc3, gq4, gn4, gc4⟩ ⟨wq0, wn0, wc0, wq1, wn1, wc1, wq2, wn2, wc2, wq3, wn3, wc3, wq4, wn4, wc4⟩ Y _ HOG2.out.rd (HRDW.out _ HB2.out) (few_sm HF.out HOG2.out.rd)).mono ?_
    rintro e w3 ⟨rfl, hb⟩
    have HB3 : Hid (Below BG (w1.alloc (.cells #[.slice wq0 wn0 wc0, .slice wq1 wn1 wc1, .slice wq2 wn2 wc2, .slice wq3 wn3 wc3, .slice wq4 wn4 wc4] 30)) w3) := HB2.out.trans (hb.mono (by have := HB2.out.size; rw [hBG] at this; exact this))
    have HOG3 : Hid (OwnX w3 BG ⟨gq0, gn0, gc0, gq1, gn1, gc1, gq2, gn2, gc2, gq3, gn3, gc3, gq4, gn4, gc4⟩ Y) := HOG2.out.bel hb
    have HBG3 : Hid (w3.heap[w2.heap.size]? = some (.cells #[.slice gq0 gn0 gc0, .slice gq1 gn1 gc1, .slice gq2 gn2 gc2, .slice gq3 gn3 gc3, .slice gq4 gn4 gc4] 30)) := row_on HBG2.out hb
    clear hb HB2 HOG2 HBG2 kg kw
    have kg := boxO_cells HBG3.out
    have hokk : (okG != okG) = false := by simp
    go_wp2_with fail
    refine (markSet ⟨gq0, gn0, gc0, gq1, gn1, gc1, gq2, gn2, gc2, gq3, gn3, gc3, gq4, gn4, gc4⟩ Y BG _ HOG3.out (by have := HB3.out.size; rw [hBG] at this; exact this) HF.out).mono ?_
    rintro e w4 ⟨rfl, ho4, hb4, hk4⟩
    have HB4 : Hid (Below BG (w1.alloc (.cells #[.slice wq0 wn0 wc0, .slice wq1 wn1 wc1, .slice wq2 wn2 wc2, .slice wq3 wn3 wc3, .slice wq4 wn4 wc4] 30)) w4) := HB3.out.trans hb4
    have HOG4 : Hid (OwnX w4 BG ⟨gq0, gn0, gc0, gq1, gn1, gc1, gq2, gn2, gc2, gq3, gn3, gc3, gq4, gn4, gc4⟩ (mkX gn0 gn1 gn2 gn3 gn4)) := ho4
    have HBG4 : Hid (w4.heap[w2.heap.size]? = some (.cells #[.slice gq0 gn0 gc0, .slice gq1 gn1 gc1, .slice gq2 gn2 gc2, .slice gq3 gn3 gc3, .slice gq4 gn4 gc4] 30)) := hk4 _ _ HBG3.out
    have HLN : Hid (gn0 ≤ 12 ∧ gn1 ≤ 12 ∧ gn2 ≤ 12 ∧ gn3 ≤ 12 ∧ gn4 ≤ 12) := by
      obtain ⟨l0, l1, l2, l3, l4⟩ := HOG3.out.len
      obtain ⟨f0, f1, f2, f3, f4, _⟩ := HF.out
      dsimp only at l0 l1 l2 l3 l4
      show _ ∧ _
      exact ⟨by omega, by omega, by omega, by omega, by omega⟩
    dsimp only
    obtain ⟨mK, hmK⟩ : ∃ k, mkN gn0 gn1 gn2 gn3 gn4 = k := ⟨_, rfl⟩
    rw [hmK]
    have HMK : Hid (mkN gn0 gn1 gn2 gn3 gn4 = mK) := hmK
    clear ho4 hb4 hk4 HB3 HOG3 HBG3 kg hmK
    have kg := boxO_cells HBG4.out
    have hKn : ¬ (mK : Int) < 0 := by omega
    have hKe : ((mK : Int) != (mK : Int)) = false := by simp
    go_wp2_with fail
    refine (heldSet ⟨gq0, gn0, gc0, gq1, gn1, gc1, gq2, gn2, gc2, gq3, gn3, gc3, gq4, gn4, gc4⟩ Y BG _ HOG4.out HLN.out.1 HLN.out.2.1 HLN.out.2.2.1 HLN.out.2.2.2.1 HLN.out.2.2.2.2).mono ?_
    rintro e w5 ⟨rfl, hb⟩
    dsimp only
    rw [HMK.out]
    have HB5 : Hid (Below BG (w1.alloc (.cells #[.slice wq0 wn0 wc0, .slice wq1 wn1 wc1, .slice wq2 wn2 wc2, .slice wq3 wn3 wc3, .slice wq4 wn4 wc4] 30)) w5) := HB4.out.trans (hb.mono (by have := HB4.out.size; rw [hBG] at this; exact this))
    have HOG5 : Hid (OwnX w5 BG ⟨gq0, gn0, gc0, gq1, gn1, gc1, gq2, gn2, gc2, gq3, gn3, gc3, gq4, gn4, gc4⟩ (mkX gn0 gn1 gn2 gn3 gn4)) := HOG4.out.bel hb
    have HBG5 : Hid (w5.heap[w2.heap.size]? = some (.cells #[.slice gq0 gn0 gc0, .slice gq1 gn1 gc1, .slice gq2 gn2 gc2, .slice gq3 gn3 gc3, .slice gq4 gn4 gc4] 30)) := row_on HBG4.out hb
    clear hb HB4 HOG4 HBG4 kg
    go_wp2_with fail
    refine (readI t ht _ (HG.out.on (HBEL.out _ HB5.out))).mono ?_
    rintro e w6 ⟨sH, okH, rfl, hRH, hb6⟩
    obtain ⟨hq0, hn0, hc0, hq1, hn1, hc1, hq2, hn2, hc2, hq3, hn3, hc3, hq4, hn4, hc4⟩ := sH
    have HS5 : Hid (BG ≤ w5.heap.size) := by have := HB5.out.size; rw [hBG] at this; exact this
    have HRY : Hid (okH = okG ∧ RdX w6 ⟨hq0, hn0, hc0, hq1, hn1, hc1, hq2, hn2, hc2, hq3, hn3, hc3, hq4, hn4, hc4⟩ Y) := by
      obtain ⟨e1, o2⟩ := read_with HYY.out hRH
      exact ⟨e1, o2.rd⟩
    have HB6 : Hid (Below BG (w1.alloc (.cells #[.slice wq0 wn0 wc0, .slice wq1 wn1 wc1, .slice wq2 wn2 wc2, .slice wq3 wn3 wc3, .slice wq4 wn4 wc4] 30)) w6) := HB5.out.trans (hb6.mono HS5.out)
    have hal6 : Below w6.heap.size w6 (w6.alloc (.cells #[.slice hq0 hn0 hc0, .slice hq1 hn1 hc1, .slice hq2 hn2 hc2, .slice hq3 hn3 hc3, .slice hq4 hn4 hc4] 30)) := (Below.refl _ _).alloc (Nat.le_refl _) _
    have HB7 : Hid (Below BG (w1.alloc (.cells #[.slice wq0 wn0 wc0, .slice wq1 wn1 wc1, .slice wq2 wn2 wc2, .slice wq3 wn3 wc3, .slice wq4 wn4 wc4] 30)) (w6.alloc (.cells #[.slice hq0 hn0 hc0, .slice hq1 hn1 hc1, .slice hq2 hn2 hc2, .slice hq3 hn3 hc3, .slice hq4 hn4 hc4] 30))) := HB6.out.trans (hal6.mono (Nat.le_trans HS5.out hb6.size))
    have HOG7 : Hid (OwnX (w6.alloc (.cells #[.slice hq0 hn0 hc0, .slice hq1 hn1 hc1, .slice hq2 hn2 hc2, .slice hq3 hn3 hc3, .slice hq4 hn4 hc4] 30)) BG ⟨gq0, gn0, gc0, gq1, gn1, gc1, gq2, gn2, gc2, gq3, gn3, gc3, gq4, gn4, gc4⟩ (mkX gn0 gn1 gn2 gn3 gn4)) := (HOG5.out.bel hb6).bel hal6
    have HBG7 : Hid ((w6.alloc (.cells #[.slice hq0 hn0 hc0, .slice hq1 hn1 hc1, .slice hq2 hn2 hc2, .slice hq3 hn3 hc3, .slice hq4 hn4 hc4] 30)).heap[w2.heap.size]? = some (.cells #[.slice gq0 gn0 gc0, .slice gq1 gn1 gc1, .slice gq2 gn2 gc2, .slice gq3 gn3 gc3, .slice gq4 gn4 gc4] 30)) := row_on (row_on HBG5.out hb6) hal6
    have HBH7 : Hid ((w6.alloc (.cells #[.slice hq0 hn0 hc0, .slice hq1 hn1 hc1, .slice hq2 hn2 hc2, .slice hq3 hn3 hc3, .slice hq4 hn4 hc4] 30)).heap[w6.heap.size]? = some (.cells #[.slice hq0 hn0 hc0, .slice hq1 hn1 hc1, .slice hq2 hn2 hc2, .slice hq3 hn3 hc3, .slice hq4 hn4 hc4] 30)) := heap_new w6 _
    have HRH7 : Hid (RdX (w6.alloc (.cells #[.slice hq0 hn0 hc0, .slice hq1 hn1 hc1, .slice hq2 hn2 hc2, .slice hq3 hn3 hc3, .slice hq4 hn4 hc4] 30)) ⟨hq0, hn0, hc0, hq1, hn1, hc1, hq2, hn2, hc2, hq3, hn3, hc3, hq4, hn4, hc4⟩ Y) := HRY.out.2.on hal6
    have hok2 := HRY.out.1
    subst hok2
    have kh := boxO_cells HBH7.out
    have kw := boxO_cells (HROW.out _ HB7.out)
    clear hRH hb6 hal6 HB5 HOG5 HBG5 HB6 HRY HS5
    unfold SetV
    dsimp only
    go_wp2_with fail
    refine (eqSet ⟨hq0, hn0, hc0, hq1, hn1, hc1, hq2, hn2, hc2, hq3, hn3, hc3, hq4, hn4, hc4⟩ ⟨wq0, wn0, wc0, wq1, wn1, wc1, wq2, wn2, wc2, wq3, wn3, wc3, wq4, wn4, wc4⟩ Y _ HRH7.out (HRDW.out _ HB7.out) (few_sm HF.out HRH7.out)).mono ?_
    rintro e w8 ⟨rfl, hb⟩
    have HB8 : Hid (Below BG (w1.alloc (.cells #[.slice wq0 wn0 wc0, .slice wq1 wn1 wc1, .slice wq2 wn2 wc2, .slice wq3 wn3 wc3, .slice wq4 wn4 wc4] 30)) w8) := HB7.out.trans (hb.mono (by have := HB7.out.size; rw [hBG] at this; exact this))
    have HOG8 : Hid (OwnX w8 BG ⟨gq0, gn0, gc0, gq1, gn1, gc1, gq2, gn2, gc2, gq3, gn3, gc3, gq4, gn4, gc4⟩ (mkX gn0 gn1 gn2 gn3 gn4)) := HOG7.out.bel hb
    have HBG8 : Hid (w8.heap[w2.heap.size]? = some (.cells #[.slice gq0 gn0 gc0, .slice gq1 gn1 gc1, .slice gq2 gn2 gc2, .slice gq3 gn3 gc3, .slice gq4 gn4 gc4] 30)) := row_on HBG7.out hb
    clear hb HB7 HOG7 HBG7 HBH7 HRH7 kh kw
    have kg := boxO_cells HBG8.out
    go_wp2_with fail
    refine (heldSet ⟨gq0, gn0, gc0, gq1, gn1, gc1, gq2, gn2, gc2, gq3, gn3, gc3, gq4, gn4, gc4⟩ Y BG _ HOG8.out HLN.out.1 HLN.out.2.1 HLN.out.2.2.1 HLN.out.2.2.2.1 HLN.out.2.2.2.2).mono ?_
    rintro e w9 ⟨rfl, hb⟩
    dsimp only
    rw [HMK.out]
    have HB9 : Hid (Below BG (w1.alloc (.cells #[.slice wq0 wn0 wc0, .slice wq1 wn1 wc1, .slice wq2 wn2 wc2, .slice wq3 wn3 wc3, .slice wq4 wn4 wc4] 30)) w9) := HB8.out.trans (hb.mono (by have := HB8.out.size; rw [hBG] at this; exact this))
    have HE : Hid (Below w.heap.size w w9) := HBEL.out _ HB9.out
    clear hb HB8 HOG8 HBG8 kg HB9 HBEL HROW HRDW
    go_wp2
    go_ret
    exact ⟨rfl, HE.out⟩
  · go_enter Tryz.func4, Tryz.ntmps4
    go_wp2
    go_ret
    exact ⟨rfl, Below.refl _ _⟩

set_option maxRecDepth 100000 in
theorem contract (H : Type) (enc : TypeId × Value → H) (W : World) (base : Nat) (args : Array Value) (ds gs : List (DataW H)) (before : List MemPlace)
    (hval : ∀ (j : Nat) t v, Tryz.f4.params[j]? = some t → args[j]? = some v → Value.okWide Tryz.prog W .any base t v)
    (hW : DataW.Whole enc Tryz.prog Tryz.f4.params.toList Rows.fnExactReadSetupSpec.vars false W args.toList ds gs before) (hL : laidMetH Tryz.prog Rows.fnExactReadSetupRow.laid W) :
    Calls Tryz.prog 4 args W fun e W' => ∃ v, e = .returned v ∧ Rows.fnExactReadSetupSpec.post enc Tryz.prog Tryz.f4 false true false false W args v W' := by
  have hW' := hW
  obtain ⟨p, q, hA0, hV, rfl, hfz, hnd⟩ := hW
  have hA : DataW.TrodAll enc Tryz.prog W 0 (fun _ => true) true Tryz.f4.params.toList args.toList ds p := hA0
  rw [Tryz.params4] at hA hval
  obtain ⟨v0, vs0, d0, ds0, p0, q0, hargs, rfl, rfl, h0, r0⟩ := trodAll_cons hA
  obtain ⟨rfl, rfl, rfl⟩ := trodAll_nil r0
  obtain rfl : args = #[v0] := by cases args; simp_all
  obtain ⟨rfl, rfl⟩ := trodVars_none hV
  obtain ⟨a0, rfl, rfl, rfl, w0⟩ := open_string Tryz.underlying9 (hval 0 9 v0 rfl rfl) h0
  clear hA0
  refine (walk a0 W w0 (handle_of hL)).mono fun e W' ⟨he, bel⟩ => ?_
  subst he
  exact ⟨_, rfl, _, _, _, [], _, [], hW', trodAll_mk1 (shut_bool Tryz.underlying4 _), (trodAll_cons_mk (shut_string Tryz.underlying9 w0) trodAll_mk0), rfl, bel.frame _, fun h => by cases h⟩

set_option maxRecDepth 100000 in
theorem laid_met (os : Os) : laidMetH Tryz.prog Rows.fnExactReadSetupRow.laid ((layH (World.holding Tryz.prog os ⟨#[], #[], []⟩)).forCall (fun _ _ => 0) ⟨#[], #[.string ByteArray.empty], []⟩).memory :=
  laidMetH_of_parts (laidMet_nil _ _) (by kernel_rfl)
set_option maxRecDepth 100000 in
theorem reads (os : Os) {H : Type} (enc : TypeId × Value → H) : ∃ places, DataW.whole enc Tryz.prog ((layH (World.holding Tryz.prog os ⟨#[], #[], []⟩)).forCall (fun _ _ => 0) ⟨#[], #[.string ByteArray.empty], []⟩).memory Tryz.f4.params.toList Rows.fnExactReadSetupSpec.vars false #[Value.string ByteArray.empty].toList 8 = some ([.lit (.string [])], [], places) :=
  ⟨[], by kernel_rfl⟩

set_option maxRecDepth 100000 in
theorem lifted (os : Os) (started : os.Started) (H : Type) (enc : TypeId × Value → H) (F : Stop.Interp) :
    ReturnsInHanded {} Tryz.checked os 4 .any ((OpenSpec.ofChange Rows.fnExactReadSetupSpec).preRow enc Tryz.prog Tryz.f4 Rows.fnExactReadSetupRow.domain false Rows.fnExactReadSetupRow.laid) (((OpenSpec.ofChange Rows.fnExactReadSetupSpec).at F).post enc Tryz.prog Tryz.f4 false true false false) := by
  obtain ⟨places, hx⟩ := reads os enc
  refine returnsInHanded_of_row (C := Tryz.checked) (s := OpenSpec.ofChange Rows.fnExactReadSetupSpec) own started (by kernel_rfl) Tryz.func4
    (witness_row_at (enc := enc) (C := Tryz.checked) false (layH (World.holding Tryz.prog os ⟨#[], #[], []⟩)) #[.string ByteArray.empty] rfl (by kernel_rfl) (by kernel_rfl) (by kernel_rfl)
      (OpenSpec.preRow_of_cond 8 hx (by kernel_rfl) (fun k hk => by cases hk) (by kernel_rfl) (laid_met os))) ?_
  intro W base args ds gs before hval hW _ _ _ hL _ _
  exact contract H enc W base args ds gs before hval hW hL

theorem said : Rows.FnExactReadSetupSaid :=
  OpenClaim.holds_of_cond 4 Tryz.f4 rfl rfl rfl rfl rfl rfl rfl ⟨rfl, rfl, rfl, rfl, rfl⟩ rfl rfl rfl rfl rfl (by kernel_rfl) Tryz.func4 (by kernel_rfl)
    (of_decide_eq_true (by kernel_rfl)) (by unfold Func.isWrapper; first | (rw [if_pos (by decide +kernel)]; kernel_rfl) | (rw [if_neg (by decide +kernel)]; exact ⟨rfl, rfl⟩))
    (fun os started H enc _ F => by rw [OpenClaim.pre_eq_preRow]; exact lifted os started H enc F)

theorem plain (f : FuncId) (fn : Func) (hf : Tryz.pinned.checked.prog.funcNamed Rows.fnExactReadSetupRow.func = some f) (hfn : Tryz.pinned.checked.prog.funcs[f]? = some fn) :
    true = Tryz.pinned.checked.prog.looks [] ∧ ∀ (j : Nat) t, fn.params[j]? = some t → Tryz.pinned.checked.prog.wantsStandIn t = false := by
  obtain rfl : f = 4 := Option.some.inj ((show Tryz.prog.funcNamed Rows.fnExactReadSetupRow.func = some 4 by kernel_rfl).symm.trans hf) |>.symm
  obtain rfl : fn = Tryz.f4 := (Option.some.inj (Tryz.func4.symm.trans hfn)).symm
  refine ⟨by kernel_rfl, fun j t ht => ?_⟩
  rw [Tryz.params4] at ht
  obtain rfl : t = 9 := by simpa using Array.mem_of_getElem? ht
  exact (show Tryz.prog.wantsStandIn 9 = false by kernel_rfl)

theorem card : Rows.FnExactReadSetupCardSaid :=
  Claim7.holds_tied_plain_at .later [] _ _ _ _ said (fun _ h => by cases h) (by kernel_rfl) (fun _ h => by cases h) fnExactReadSetup_row_tie rfl ⟨rfl, rfl⟩ (by kernel_rfl) rfl plain (by kernel_rfl)

end Go.Proofs.YtadbekhekggpkaaGreatDoor.fnExactReadSetup
namespace Go.Proofs.YtadbekhekggpkaaGreatDoor
theorem fnExactReadSetup_card : Rows.FnExactReadSetupCardSaid :=
  fnExactReadSetup.card
#print axioms fnExactReadSetup_card
end Go.Proofs.YtadbekhekggpkaaGreatDoor
