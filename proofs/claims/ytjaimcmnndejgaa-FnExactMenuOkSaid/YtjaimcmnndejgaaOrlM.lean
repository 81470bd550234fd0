/-
  Lists of orders, marked and asked.
-/
import Derived.Test.YtjaimcmnndejgaaOrl
namespace Go.Proofs.Ytjaimcmnndejgaa
open Go.ChangeShapes Go.WideShapes Go.ChangeAt Go.RowKit Go.PlainAid
set_option linter.unusedVariables false

theorem grown_setc {w W : World} {g i : Nat} (h : w.grownBy W (some g)) (u : Value) : w.grownBy (W.setCell ⟨g, i, none⟩ u) (some g) := by
  have hs : (W.setCell ⟨g, i, none⟩ u).heap.size = W.heap.size := by simp
  exact ⟨h.os, h.tape, h.output, by rw [hs]; exact h.size, fun m hm hne => (Below.heap_setCell _ _ _ _ (show m ≠ g from fun e => hne (by rw [e]))).trans (h.block m hm hne)⟩
theorem storeN_run {w : World} (g i : Nat) (z : Int) {v : Value} (hc : w.cell? ⟨g, i, none⟩ = some v) (hf : w.frozen? ⟨g, i, none⟩ = false) :
    (Instr.storeAt 3 (.pointer (some ⟨g, i, none⟩)) (.int .i64 z)).run Try.prog w = .ok () (w.setCell ⟨g, i, none⟩ (.int .i64 z)) := by
  simp [go_sem, Instr.storeAt, hc, hf]
/-- a number stored into a cell: the world behind it as a letter -/
theorem listStoreC {ops : Array Oper} {rest : List Oper} {o : Oper} {a : Act} {Q : Exit → Act → World → Prop} {w : World} (hgd : o.guard = none) (hd : o.dst = none) (x y : Operand) (ty : TypeId) (ho : o.op = .store ty x y) (hty : ty = 3)
    (g i : Nat) (z : Int) (hx : a.eval x = .pointer (some ⟨g, i, none⟩)) (hy : a.eval y = .int .i64 z) (hc : ∃ v, w.cell? ⟨g, i, none⟩ = some v) (hf : w.frozen? ⟨g, i, none⟩ = false)
    (h : ∀ w', w' = w.setCell ⟨g, i, none⟩ (.int .i64 z) → wpList Try.prog ops Q rest a w') : wpList Try.prog ops Q (o :: rest) a w := by
  obtain ⟨v, hc⟩ := hc
  subst hty
  refine wpList_plain hgd fun _ hK => ?_
  unfold Oper.wp
  simp [execOp, ho, hx, hy, storeN_run g i z hc hf, Result.andThen]
  exact hK _ _ (by rw [hd]; exact h _ rfl)
/-- a list that is being written -/
structure MkS (w W : World) (B : Nat) (T : TypeId) (K g n cap : Nat) (xs : List Value) : Prop where
  o : W.ownsRow B T K (.slice (some ⟨g, 0, none⟩) n cap) n xs
  b : Below B w W
  g : w.grownBy W (some g)
theorem listStoreK {ops : Array Oper} {rest : List Oper} {o : Oper} {a : Act} {Q : Exit → Act → World → Prop} {w w0 : World} {B : Nat} {T : TypeId} {K n cap : Nat} {xs : List Value} (hgd : o.guard = none) (hd : o.dst = none) (x y : Operand) (ty : TypeId) (ho : o.op = .store ty x y) (hty : ty = 3)
    (g i : Nat) (z : Int) (hx : a.eval x = .pointer (some ⟨g, i, none⟩)) (hy : a.eval y = .int .i64 z) (hs : MkS w0 w B T K g n cap xs) (hi : i < n * K)
    (h : ∀ w', MkS w0 w' B T K g n cap (xs.set i (.int .i64 z)) → wpList Try.prog ops Q rest a w') : wpList Try.prog ops Q (o :: rest) a w := by
  have hB : B ≤ g := own_ge hs.o g rfl
  have hc := hs.o.cellAt i hi
  rw [List.getElem?_eq_getElem (by rw [hs.o.1]; exact hi)] at hc
  refine listStoreC hgd hd x y ty ho hty g i z hx hy ⟨_, hc⟩ (hs.o.frozenAt i) ?_
  rintro w' rfl
  exact h _ ⟨(hs.o.stored i _).1, hs.b.setCell hB _, grown_setc hs.g _⟩
/-- n marks from k on, 4 each -/
def mqM (k : Nat) : Nat → List (Int × Int × Int × Int)
  | 0 => []
  | n + 1 => ((k : Int), (k : Int) + 1, (k : Int) + 2, (k : Int) + 3) :: mqM (k + 4) n
theorem mqM_len : ∀ (n k : Nat), (mqM k n).length = n
  | 0, _ => rfl
  | n + 1, k => by simp [mqM, mqM_len n]
theorem mqM_snoc : ∀ (j k : Nat), mqM k (j + 1) = mqM k j ++ [(((k : Int) + 4 * (j : Int)), ((k : Int) + 4 * (j : Int)) + 1, ((k : Int) + 4 * (j : Int)) + 2, ((k : Int) + 4 * (j : Int)) + 3)]
  | 0, k => by simp [mqM]
  | j + 1, k => by
    rw [mqM, mqM_snoc j (k + 4), mqM, List.cons_append, show ((k + 4 : Nat) : Int) + 4 * (j : Int) = (k : Int) + 4 * ((j + 1 : Nat) : Int) by omega]
theorem mqM_at : ∀ (n k j : Nat) (h : j < (mqM k n).length), (mqM k n)[j] = (((k : Int) + 4 * (j : Int)), ((k : Int) + 4 * (j : Int)) + 1, ((k : Int) + 4 * (j : Int)) + 2, ((k : Int) + 4 * (j : Int)) + 3)
  | 0, k, j, h => by simp [mqM] at h
  | n + 1, k, 0, h => by simp [mqM]
  | n + 1, k, j + 1, h => by
    have h' : j < (mqM (k + 4) n).length := by simpa [mqM] using h
    have := mqM_at n (k + 4) j h'
    simp only [mqM, List.getElem_cons_succ]
    rw [this, show ((k + 4 : Nat) : Int) + 4 * (j : Int) = (k : Int) + 4 * ((j + 1 : Nat) : Int) by omega]
def mqX (l : List (Int × Int × Int × Int)) (k j : Nat) : List (Int × Int × Int × Int) := mqM k j ++ l.drop j
theorem mqX_len {l : List (Int × Int × Int × Int)} {k j : Nat} (h : j ≤ l.length) : (mqX l k j).length = l.length := by
  unfold mqX; rw [List.length_append, mqM_len, List.length_drop]; omega
theorem mqX_set {l : List (Int × Int × Int × Int)} {k j : Nat} (h : j < l.length) : (mqX l k j).set j (((k : Int) + 4 * (j : Int)), ((k : Int) + 4 * (j : Int)) + 1, ((k : Int) + 4 * (j : Int)) + 2, ((k : Int) + 4 * (j : Int)) + 3) = mqX l k (j + 1) := by
  unfold mqX
  rw [List.set_append_right _ _ (by rw [mqM_len]; omega), mqM_len, Nat.sub_self, List.drop_eq_getElem_cons h, List.set_cons_zero, mqM_snoc]
  simp
theorem mqX_all (l : List (Int × Int × Int × Int)) (k : Nat) : mqX l k l.length = mqM k l.length := by unfold mqX; simp

set_option maxRecDepth 100000 in
set_option maxHeartbeats 8000000 in
theorem mqMark (l : List (Int × Int × Int × Int)) (v : Value) (B n k : Nat) (K : Int) (hK : K = k) (hl : l.length = n) (hn : n ≤ 1048576) (hk : k ≤ 1000000) (w : World) (hown : OwnQ w B v n l) (hB : B ≤ w.heap.size) :
    Calls Try.prog 30 #[v, .int .i64 K] w fun e w' => e = .returned (.int .i64 (K + 4 * n)) ∧ OwnQ w' B v n (mqM k n) ∧ Below B w w' ∧ w.grownBy w' v.ownBlock := by
  subst hK
  by_cases hp : 0 < n
  · obtain ⟨g, cap, rfl, hg⟩ : ∃ g cap, v = .slice (some ⟨g, 0, none⟩) n cap ∧ B ≤ g := by
      rcases hown.2 with ⟨rfl, e⟩ | ⟨g, cap, cur, rfl, hg, _⟩
      · omega
      · exact ⟨g, cap, rfl, hg⟩
    have HL : Hid (l.length = n) := hl
    have HO0 : Hid (w.ownsRow B 34 4 (.slice (some ⟨g, 0, none⟩) n cap) n (odV l)) := hown
    clear hown hl
    go_enter Try.func30, Try.ntmps30
    go_wp2
    go_loopg [1, 5] n (fun gk kv i wr => ∃ j : Nat, j + gk = n ∧ kv = .int .i64 ((k : Int) + 4 * (j : Int)) ∧ i = .int .i64 j ∧ Hid (wr.ownsRow B 34 4 (.slice (some ⟨g, 0, none⟩) n cap) n (odV (mqX l k j))) ∧ Hid (Below B w wr) ∧ Hid (w.grownBy wr (some g)))
    case atStart => exact ⟨0, by omega, by simp, rfl, HO0, Below.refl _ _, World.grownBy.refl _ _⟩
    case round =>
      clear HO0
      obtain ⟨j, hj, rfl, rfl, HO, HW, HG⟩ := hrel
      by_cases hlt : j < n
      · have hjl : j < l.length := by have := HL.out; omega
        have hm : (mqX l k j).length = n := by rw [mqX_len (by omega)]; exact HL.out
        have hat := odV_at (mqX l k j) j (by omega)
        have h0 := HO.out
        have HJL : Hid (j < l.length) := hjl
        have hS : MkS w wr B 34 4 g n cap (odV (mqX l k j)) := ⟨HO.out, HW.out, HG.out⟩
        clear HO hat hm hjl h0 HW HG
        go_wp2_with (refine listStoreK rfl rfl _ _ _ rfl rfl g _ _ rfl rfl (by assumption) (by omega) ?_; intro W hS)
        have HS : Hid (World.ownsRow W B 34 4 (.slice (some ⟨g, 0, none⟩) n cap) n (odV (mqX l k (j + 1)))) := by
          have hh := hS.o
          have e2 : ∀ x : Int, x + 1 + 1 = x + 2 := fun x => by omega
          have e3 : ∀ x : Int, x + 2 + 1 = x + 3 := fun x => by omega
          have e4 : ∀ x : Int, x + 3 + 1 = x + 4 := fun x => by omega
          try rw [e2] at hh
          try rw [e3] at hh
          try rw [e4] at hh
          rw [odV_set, mqX_set HJL.out] at hh
          exact hh
        have HW' : Hid (Below B w W) := hS.b
        have HG' : Hid (w.grownBy W (some g)) := hS.g
        clear hS HJL
        go_roundg (gk - 1)
        case measure => omega
        case rel => exact ⟨j + 1, by omega, by go_num, by go_num, HS, HW', HG'⟩
      · obtain rfl : j = n := by omega
        have HO' : Hid (OwnQ wr B (.slice (some ⟨g, 0, none⟩) j cap) j (mqM k j)) := by
          have h := HO.out
          have e := mqX_all l k
          rw [HL.out] at e
          rw [e] at h
          exact h
        clear HO
        go_wp2
        go_ret
        exact ⟨by go_num, HO'.out, HW.out, HG.out⟩
  · obtain rfl : n = 0 := by omega
    obtain rfl : l = [] := List.length_eq_zero_iff.1 hl
    obtain ⟨a, cap, rfl⟩ := own_shapeW hown
    have HO : Hid (OwnQ w B (.slice a 0 cap) 0 []) := hown
    clear hown
    go_enter Try.func30, Try.ntmps30
    go_wp2
    go_rounds 1
    go_ret
    exact ⟨by simp, HO.out, Below.refl _ _, World.grownBy.refl _ _⟩

set_option maxRecDepth 100000 in
set_option maxHeartbeats 1000000 in
theorem mqHeld (a : Option Addr) (n k cap : Nat) (K : Int) (hK : K = k) (hn : n ≤ 1048576) (hk : k ≤ 1000000) (w : World) (hr : RdQ w a (mqM k n)) :
    Calls Try.prog 31 #[.slice a n cap, .int .i64 K] w fun e w' => e = .returned (.int .i64 (K + 4 * n)) ∧ w' = w := by
  subst hK
  by_cases hp : 0 < n
  · obtain ⟨g, off, rfl, hc⟩ := hr (by rw [mqM_len]; exact hp)
    have HC : Hid (∀ j (h : j < (mqM k n).length), w.cell? ⟨g, off + j * 4, none⟩ = some (.int .i64 (mqM k n)[j].1) ∧ w.cell? ⟨g, off + j * 4 + 1, none⟩ = some (.int .i64 (mqM k n)[j].2.1) ∧ w.cell? ⟨g, off + j * 4 + 2, none⟩ = some (.int .i64 (mqM k n)[j].2.2.1) ∧ w.cell? ⟨g, off + j * 4 + 3, none⟩ = some (.int .i64 (mqM k n)[j].2.2.2)) := hc
    clear hr hc
    go_enter Try.func31, Try.ntmps31
    go_wp2
    go_loopg [1, 5] n (fun gk kv i wr => ∃ j : Nat, j + gk = n ∧ kv = .int .i64 ((k : Int) + 4 * (j : Int)) ∧ i = .int .i64 j ∧ wr = w)
    case atStart => exact ⟨0, by omega, by simp, rfl, rfl⟩
    case round =>
      obtain ⟨j, hj, rfl, rfl, rfl⟩ := hrel
      by_cases hlt : j < n
      · have hjl : j < (mqM k n).length := by rw [mqM_len]; exact hlt
        have c := HC.out j hjl
        rw [mqM_at] at c
        obtain ⟨c0, c1, c2, c3⟩ := c
        clear hjl
        go_wp2
        go_roundg (gk - 1)
        case measure => omega
        case rel => exact ⟨j + 1, by omega, by go_num, by go_num, rfl⟩
      · obtain rfl : j = n := by omega
        go_wp2
        go_ret
        exact ⟨by go_num, rfl⟩
  · obtain rfl : n = 0 := by omega
    clear hr
    go_enter Try.func31, Try.ntmps31
    go_wp2
    go_rounds 1
    go_ret
    exact ⟨by simp, rfl⟩
end Go.Proofs.Ytjaimcmnndejgaa
