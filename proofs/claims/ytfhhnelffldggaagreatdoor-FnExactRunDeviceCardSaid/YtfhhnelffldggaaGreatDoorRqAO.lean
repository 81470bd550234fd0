/-
  Owned orders, or no list at all.
-/
import Derived.Test.YtfhhnelffldggaaGreatDoorRqAH
import Derived.Test.YtfhhnelffldggaaGreatDoorRqAG
import Derived.Test.YtfhhnelffldggaaGreatDoorRqAN
set_option maxRecDepth 100000
set_option maxHeartbeats 16000000
namespace Go.Proofs.YtfhhnelffldggaaGreatDoor
open Go.RowKit Go.PlainAid
set_option linter.unusedVariables false
set_option linter.unusedSimpArgs false
def OwnA (w : World) (B : Nat) (A : Option Addr) (n c : Nat) (l : List Od4) : Prop := w.ownsRow B 82 4 (.slice A n c) n (odV l)
theorem OwnA.own {w : World} {B n c : Nat} {A : Option Addr} {l : List Od4} (h : OwnA w B A n c l) : OwnQ w B (.slice A n c) n l := h
theorem OwnA.len {w : World} {B n c : Nat} {A : Option Addr} {l : List Od4} (h : OwnA w B A n c l) : l.length = n := h.own.len
theorem OwnA.on {w w' : World} {B n c : Nat} {A : Option Addr} {l : List Od4} (h : OwnA w B A n c l) (hb : Below w.heap.size w w') : OwnA w' B A n c l := own_keep h hb (own_lt h)
theorem OwnA.mono {w : World} {B C n c : Nat} {A : Option Addr} {l : List Od4} (h : OwnA w B A n c l) (hC : C ≤ B) : OwnA w C A n c l := own_mono h hC
theorem OwnA.drew {w : World} {B n c : Nat} {A : Option Addr} {l : List Od4} (h : OwnA w B A n c l) : OwnA w.drew B A n c l := h
theorem OwnA.nil (w : World) (B : Nat) : OwnA w B none 0 0 [] := ⟨rfl, .inl ⟨rfl, rfl⟩⟩
theorem OwnA.at {w : World} {B n c : Nat} {A : Option Addr} {l : List Od4} (h : OwnA w B A n c l) (h0 : 0 < n) : ∃ g, A = some ⟨g, 0, none⟩ ∧ OwnE w B g n c l := by
  rcases h.2 with ⟨_, e⟩ | ⟨g, cap, cur, hv, _⟩
  · omega
  · cases hv
    exact ⟨g, rfl, h⟩
theorem OwnE.any {w : World} {B g n c : Nat} {l : List Od4} (h : OwnE w B g n c l) : OwnA w B (some ⟨g, 0, none⟩) n c l := h
theorem OwnA.ne {w : World} {B n c k : Nat} {A : Option Addr} {l : List Od4} {o : Obj} (h : OwnA w B A n c l) (hr : w.heap[k]? = some o) (hno : ∀ cur, o ≠ .cells cur 82 (0, 0)) : some k ≠ (Value.slice A n c).ownBlock := fun e => by
  rcases h.2 with ⟨hv, _⟩ | ⟨g, cap, cur, hv, _, hh, _⟩
  · cases hv
    simp [Value.ownBlock] at e
  · cases hv
    obtain rfl : k = g := by simpa [Value.ownBlock] using e
    rw [hr] at hh
    exact hno _ (Option.some.inj hh)
theorem OwnA.far {w w' : World} {B n c k : Nat} {A : Option Addr} {l : List Od4} {o : Obj} (h : OwnA w B A n c l) (hg : w.grownBy w' (Value.slice A n c).ownBlock) (hr : w.heap[k]? = some o) (hno : ∀ cur, o ≠ .cells cur 82 (0, 0)) : w'.heap[k]? = some o :=
  (hg.block k (row_lt hr) (h.ne hr hno)).trans hr
theorem OwnA.same {w w' : World} {B n c k : Nat} {A : Option Addr} {l : List Od4} {o : Obj} (h : OwnA w B A n c l) (hr : w.heap[k]? = some o) (hno : ∀ cur, o ≠ .cells cur 82 (0, 0)) (ho : ∀ i, i ≠ k → w'.heap[i]? = w.heap[i]?) : OwnA w' B A n c l := by
  have hne := h.ne hr hno
  refine ⟨h.1, ?_⟩
  rcases h.2 with h2 | ⟨g, cap, cur, hv, h3, h4, h5⟩
  · exact .inl h2
  · refine .inr ⟨g, cap, cur, hv, h3, (ho g (fun e => ?_)).trans h4, h5⟩
    subst e
    exact hne (by rw [hv]; rfl)
theorem OwnA.put {w w' : World} {B n c k : Nat} {A : Option Addr} {l : List Od4} {x0 x1 x2 x3 x4 : Value} {ob : Obj} (h : OwnA w B A n c l) (hp : PutM w w' k ob) (hr : w.heap[k]? = some (.cells #[x0, x1, x2, x3, x4] 34)) : OwnA w' B A n c l :=
  h.same hr (fun cur e => by cases e) hp.2.1
theorem OwnA.first {w : World} {B g n c : Nat} {l : List Od4} {x : Od4} (h : OwnA w B (some ⟨g, 0, none⟩) n c l) (hl : l = [x]) : w.cell? ⟨g, 0, none⟩ = some (.int .i64 x.1) ∧ w.cell? ⟨g, 1, none⟩ = some (.int .i64 x.2.1) ∧ w.cell? ⟨g, 2, none⟩ = some (.int .i64 x.2.2.1) ∧ w.cell? ⟨g, 3, none⟩ = some (.int .i64 x.2.2.2) := by
  subst hl
  have hl := h.len
  simp at hl
  subst hl
  refine ⟨?_, ?_, ?_, ?_⟩
  · rw [World.ownsRow.cellAt h 0 (by omega)]; rfl
  · rw [World.ownsRow.cellAt h 1 (by omega)]; rfl
  · rw [World.ownsRow.cellAt h 2 (by omega)]; rfl
  · rw [World.ownsRow.cellAt h 3 (by omega)]; rfl
theorem OwnA.cell4 {w : World} {B g n c : Nat} {l : List Od4} (h : OwnA w B (some ⟨g, 0, none⟩) n c l) (j : Nat) (hj : j < l.length) : w.cell? ⟨g, j * 4, none⟩ = some (.int .i64 l[j].1) ∧ w.cell? ⟨g, j * 4 + 1, none⟩ = some (.int .i64 l[j].2.1) ∧ w.cell? ⟨g, j * 4 + 2, none⟩ = some (.int .i64 l[j].2.2.1) ∧ w.cell? ⟨g, j * 4 + 3, none⟩ = some (.int .i64 l[j].2.2.2) := by
  have hl := h.len
  obtain ⟨a0, a1, a2, a3⟩ := odV_at l j hj
  refine ⟨?_, ?_, ?_, ?_⟩
  · rw [World.ownsRow.cellAt h (j * 4) (by omega)]; exact a0
  · rw [World.ownsRow.cellAt h (j * 4 + 1) (by omega)]; exact a1
  · rw [World.ownsRow.cellAt h (j * 4 + 2) (by omega)]; exact a2
  · rw [World.ownsRow.cellAt h (j * 4 + 3) (by omega)]; exact a3
theorem run_appA (W : World) (ty : TypeId) (B n c : Nat) (A : Option Addr) (l : List Od4) (ad : Addr) (x : Od4) (hown : OwnA W B A n c l) (hr : RdQ W (some ad) [x]) (hn : n + 1 ≤ 3000000) (hB : B ≤ W.heap.size) :
    ∃ g' c' w', (Builtin.append_ #[78, 78] ty #[.slice A n c, .slice (some ad) 1 1]).run Tryz.prog W = .ok (.slice (some ⟨g', 0, none⟩) (n + 1) c') w' ∧ OwnA w' B (some ⟨g', 0, none⟩) (n + 1) c' (l ++ [x]) ∧ W.grownBy w' (Value.slice A n c).ownBlock := by
  obtain ⟨i0, hi, hz0, hz1, hz2⟩ := info_parts infoQ
  obtain ⟨v', w', hrun, h2, h3, h4⟩ := run_append_own (P := Tryz.prog) (w := W) B 78 ty 82 i0 (.agg #[.int .i64 0, .int .i64 0, .int .i64 0, .int .i64 0]) 4 32 Tryz.underlying78 hi hz0 hz1 hz2 rfl (by decide) _ n _ hown ad 1 1 (odV [x]) (by rw [odV_len]; rfl) hr.cells (odV_one [x]) (by unfold maxLen; omega) (by omega) hB
  rcases h2.2 with ⟨hv, _⟩ | ⟨g', cap, cur, rfl, _⟩
  · have := (h4.1 hv).2; simp at this
  · refine ⟨g', cap, w', hrun, ?_, h3⟩
    unfold OwnA
    rw [odV_append]
    exact h2
theorem listA {ops : Array Oper} {rest : List Oper} {o : Oper} {a : Act} {Q : Exit → Act → World → Prop} {W : World} (hgd : o.guard = none) (s x : Operand)
    (ho : o.op = .call { callee := .builtin .append, args := #[s, x], argTypes := #[78, 78] }) (B n c : Nat) (A : Option Addr) (l : List Od4) (ad : Addr) (y : Od4)
    (hs : a.eval s = .slice A n c) (hx : a.eval x = .slice (some ad) 1 1) (hown : OwnA W B A n c l) (hr : RdQ W (some ad) [y]) (hn : n + 1 ≤ 3000000) (hB : B ≤ W.heap.size)
    (h : ∀ g' c' w', OwnA w' B (some ⟨g', 0, none⟩) (n + 1) c' (l ++ [y]) → W.grownBy w' (Value.slice A n c).ownBlock → wpList Tryz.prog ops Q rest (a.put o.dst (.slice (some ⟨g', 0, none⟩) (n + 1) c')) w') : wpList Tryz.prog ops Q (o :: rest) a W := by
  refine wpList_plain hgd fun _ hK => ?_
  obtain ⟨g', c', w', hrun, h2, h3⟩ := run_appA W o.type B n c A l ad y hown hr hn hB
  unfold Oper.wp execOp
  simp only [ho, resolve, invoke, builtin, Sem.run_bind, Sem.run_pure, Result.andThen_ok, List.map_toArray, List.map_cons, List.map_nil, hs, hx, hrun]
  exact hK _ _ (h g' c' w' h2 h3)
end Go.Proofs.YtfhhnelffldggaaGreatDoor
namespace Go.Proofs.YtfhhnelffldggaaGreatDoor
open Go.ChangeShapes Go.WideShapes Go.ChangeAt Go.RowKit Go.PlainAid
set_option linter.unusedVariables false
def myM (k : Nat) : Nat → List (Int × Int × Int)
  | 0 => []
  | n + 1 => ((k : Int), (k : Int) + 1, (k : Int) + 2) :: myM (k + 3) n
theorem myM_len : ∀ (n k : Nat), (myM k n).length = n
  | 0, _ => rfl
  | n + 1, k => by simp [myM, myM_len n]
theorem myM_snoc : ∀ (j k : Nat), myM k (j + 1) = myM k j ++ [(((k : Int) + 3 * (j : Int)), ((k : Int) + 3 * (j : Int)) + 1, ((k : Int) + 3 * (j : Int)) + 2)]
  | 0, k => by simp [myM]
  | j + 1, k => by
    rw [myM, myM_snoc j (k + 3), myM, List.cons_append, show ((k + 3 : Nat) : Int) + 3 * (j : Int) = (k : Int) + 3 * ((j + 1 : Nat) : Int) by omega]
theorem myM_at : ∀ (n k j : Nat) (h : j < (myM k n).length), (myM k n)[j] = (((k : Int) + 3 * (j : Int)), ((k : Int) + 3 * (j : Int)) + 1, ((k : Int) + 3 * (j : Int)) + 2)
  | 0, k, j, h => by simp [myM] at h
  | n + 1, k, 0, h => by simp [myM]
  | n + 1, k, j + 1, h => by
    have h' : j < (myM (k + 3) n).length := by simpa [myM] using h
    have := myM_at n (k + 3) j h'
    simp only [myM, List.getElem_cons_succ]
    rw [this, show ((k + 3 : Nat) : Int) + 3 * (j : Int) = (k : Int) + 3 * ((j + 1 : Nat) : Int) by omega]
def myX (l : List (Int × Int × Int)) (k j : Nat) : List (Int × Int × Int) := myM k j ++ l.drop j
theorem myX_len {l : List (Int × Int × Int)} {k j : Nat} (h : j ≤ l.length) : (myX l k j).length = l.length := by
  unfold myX; rw [List.length_append, myM_len, List.length_drop]; omega
theorem myX_set {l : List (Int × Int × Int)} {k j : Nat} (h : j < l.length) : (myX l k j).set j (((k : Int) + 3 * (j : Int)), ((k : Int) + 3 * (j : Int)) + 1, ((k : Int) + 3 * (j : Int)) + 2) = myX l k (j + 1) := by
  unfold myX
  rw [List.set_append_right _ _ (by rw [myM_len]; omega), myM_len, Nat.sub_self, List.drop_eq_getElem_cons h, List.set_cons_zero, myM_snoc]
  simp
theorem myX_all (l : List (Int × Int × Int)) (k : Nat) : myX l k l.length = myM k l.length := by unfold myX; simp
theorem myMark (l : List (Int × Int × Int)) (v : Value) (B n k : Nat) (K : Int) (hK : K = k) (hl : l.length = n) (hn : n ≤ 1048576) (hk : k ≤ 1000000) (w : World) (hown : OwnY w B v n l) (hB : B ≤ w.heap.size) :
    Calls Tryz.prog 72 #[v, .int .i64 K] w fun e w' => e = .returned (.int .i64 (K + 3 * n)) ∧ OwnY w' B v n (myM k n) ∧ Below B w w' ∧ w.grownBy w' v.ownBlock := by
  subst hK
  by_cases hp : 0 < n
  · obtain ⟨g, cap, rfl, hg⟩ : ∃ g cap, v = .slice (some ⟨g, 0, none⟩) n cap ∧ B ≤ g := by
      rcases hown.2 with ⟨rfl, e⟩ | ⟨g, cap, cur, rfl, hg, _⟩
      · omega
      · exact ⟨g, cap, rfl, hg⟩
    have HL : Hid (l.length = n) := hl
    have HO0 : Hid (w.ownsRow B 64 3 (.slice (some ⟨g, 0, none⟩) n cap) n (tkV l)) := hown
    clear hown hl
    go_enter Tryz.func72, Tryz.ntmps72
    go_wp2
    go_loopg [1, 5] n (fun gk kv i wr => ∃ j : Nat, j + gk = n ∧ kv = .int .i64 ((k : Int) + 3 * (j : Int)) ∧ i = .int .i64 j ∧ Hid (wr.ownsRow B 64 3 (.slice (some ⟨g, 0, none⟩) n cap) n (tkV (myX l k j))) ∧ Hid (Below B w wr) ∧ Hid (w.grownBy wr (some g)))
    case atStart => exact ⟨0, by omega, by simp, rfl, HO0, Below.refl _ _, World.grownBy.refl _ _⟩
    case round =>
      clear HO0
      obtain ⟨j, hj, rfl, rfl, HO, HW, HG⟩ := hrel
      by_cases hlt : j < n
      · have hjl : j < l.length := by have := HL.out; omega
        have hm : (myX l k j).length = n := by rw [myX_len (by omega)]; exact HL.out
        have hat := tkV_at (myX l k j) j (by omega)
        have h0 := HO.out
        have c0 := h0.cellAt (j * 3) (by omega)
        rw [hat.1] at c0
        have d0 := h0.frozenAt (j * 3)
        have h1 := (h0.stored (j * 3) (.int .i64 ((k : Int) + 3 * (j : Int)))).1
        have c1 := h1.cellAt (j * 3 + 1) (by omega)
        rw [List.getElem?_set_ne (by omega), hat.2.1] at c1
        have d1 := h1.frozenAt (j * 3 + 1)
        have h2 := (h1.stored (j * 3 + 1) (.int .i64 ((((k : Int) + 3 * (j : Int)) + 1)))).1
        have c2 := h2.cellAt (j * 3 + 2) (by omega)
        rw [List.getElem?_set_ne (by omega), List.getElem?_set_ne (by omega), hat.2.2] at c2
        have d2 := h2.frozenAt (j * 3 + 2)
        have h3 := (h2.stored (j * 3 + 2) (.int .i64 ((((k : Int) + 3 * (j : Int)) + 2)))).1
        have HS : Hid ((((wr.setCell ⟨g, j * 3, none⟩ (.int .i64 ((k : Int) + 3 * (j : Int)))).setCell ⟨g, j * 3 + 1, none⟩ (.int .i64 ((((k : Int) + 3 * (j : Int)) + 1)))).setCell ⟨g, j * 3 + 2, none⟩ (.int .i64 ((((k : Int) + 3 * (j : Int)) + 2)))).ownsRow B 64 3 (.slice (some ⟨g, 0, none⟩) n cap) n (tkV (myX l k (j + 1)))) := by
          have hh := h3
          rw [tkV_set, myX_set hjl] at hh
          exact hh
        have HW' : Hid (Below B w (((wr.setCell ⟨g, j * 3, none⟩ (.int .i64 ((k : Int) + 3 * (j : Int)))).setCell ⟨g, j * 3 + 1, none⟩ (.int .i64 ((((k : Int) + 3 * (j : Int)) + 1)))).setCell ⟨g, j * 3 + 2, none⟩ (.int .i64 ((((k : Int) + 3 * (j : Int)) + 2))))) := ((HW.out.setCell hg _).setCell hg _).setCell hg _
        have HG' : Hid (w.grownBy (((wr.setCell ⟨g, j * 3, none⟩ (.int .i64 ((k : Int) + 3 * (j : Int)))).setCell ⟨g, j * 3 + 1, none⟩ (.int .i64 ((((k : Int) + 3 * (j : Int)) + 1)))).setCell ⟨g, j * 3 + 2, none⟩ (.int .i64 ((((k : Int) + 3 * (j : Int)) + 2)))) (some g)) := (grown_setc (grown_setc (grown_setc HG.out _) _) _)
        generalize (myX l k j)[j].1 = q0 at *
        generalize (myX l k j)[j].2.1 = q1 at *
        generalize (myX l k j)[j].2.2 = q2 at *
        clear hat h0 h1 h2 h3 hm HO HW HG hjl
        go_wp2
        go_roundg (gk - 1)
        case measure => omega
        case rel => exact ⟨j + 1, by omega, by go_num, by go_num, HS, HW', HG'⟩
      · obtain rfl : j = n := by omega
        have HO' : Hid (OwnY wr B (.slice (some ⟨g, 0, none⟩) j cap) j (myM k j)) := by
          have h := HO.out
          have e := myX_all l k
          rw [HL.out] at e
          rw [e] at h
          exact h
        clear HO
        go_wp2
        go_ret
        exact ⟨by go_num, HO'.out, HW.out, HG.out⟩
  · obtain rfl : n = 0 := by omega
    obtain rfl : l = [] := List.length_eq_zero_iff.1 hl
    obtain ⟨a, cap, rfl⟩ := own_shapeW hown
    have HO : Hid (OwnY w B (.slice a 0 cap) 0 []) := hown
    clear hown
    go_enter Tryz.func72, Tryz.ntmps72
    go_wp2
    go_rounds 1
    go_ret
    exact ⟨by simp, HO.out, Below.refl _ _, World.grownBy.refl _ _⟩
theorem myHeld (a : Option Addr) (n k cap : Nat) (K : Int) (hK : K = k) (hn : n ≤ 1048576) (hk : k ≤ 1000000) (w : World) (hr : RdY w a (myM k n)) :
    Calls Tryz.prog 74 #[.slice a n cap, .int .i64 K] w fun e w' => e = .returned (.int .i64 (K + 3 * n)) ∧ w' = w := by
  subst hK
  by_cases hp : 0 < n
  · obtain ⟨g, off, rfl, hc⟩ := hr (by rw [myM_len]; exact hp)
    have HC : Hid (∀ j (h : j < (myM k n).length), w.cell? ⟨g, off + j * 3, none⟩ = some (.int .i64 (myM k n)[j].1) ∧ w.cell? ⟨g, off + j * 3 + 1, none⟩ = some (.int .i64 (myM k n)[j].2.1) ∧ w.cell? ⟨g, off + j * 3 + 2, none⟩ = some (.int .i64 (myM k n)[j].2.2)) := hc
    clear hr hc
    go_enter Tryz.func74, Tryz.ntmps74
    go_wp2
    go_loopg [1, 5] n (fun gk kv i wr => ∃ j : Nat, j + gk = n ∧ kv = .int .i64 ((k : Int) + 3 * (j : Int)) ∧ i = .int .i64 j ∧ wr = w)
    case atStart => exact ⟨0, by omega, by simp, rfl, rfl⟩
    case round =>
      obtain ⟨j, hj, rfl, rfl, rfl⟩ := hrel
      by_cases hlt : j < n
      · have hjl : j < (myM k n).length := by rw [myM_len]; exact hlt
        have c := HC.out j hjl
        rw [myM_at] at c
        obtain ⟨c0, c1, c2⟩ := c
        clear hjl
        go_wp2
        go_roundg (gk - 1)
        case measure => omega
        case rel => exact ⟨j + 1, by omega, by go_num, by go_num, rfl⟩
      · obtain rfl : j = n := by omega
        go_wp2
        go_ret
        exact ⟨by go_num, rfl⟩
  · obtain rfl : n = 0 := by omega
    clear hr
    go_enter Tryz.func74, Tryz.ntmps74
    go_wp2
    go_rounds 1
    go_ret
    exact ⟨by simp, rfl⟩
end Go.Proofs.YtfhhnelffldggaaGreatDoor
