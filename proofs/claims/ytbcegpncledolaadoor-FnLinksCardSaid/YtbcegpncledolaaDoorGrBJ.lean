/-
  An order by the link, by keys, turned: what each leaves.
-/
import Derived.Test.YtbcegpncledolaaDoorGrBB
import Derived.Test.YtbcegpncledolaaDoorGrBF
import Derived.Test.YtbcegpncledolaaDoorGrBH
import Derived.Test.YtbcegpncledolaaDoorGrBI
import Derived.Deep.DeepCutAuto
namespace Go.Proofs.YtbcegpncledolaaDoor
open Go.RowKit Go.PlainAid
open Go.Lib (decDigits)
set_option linter.unusedVariables false
set_option linter.unusedSimpArgs false

theorem decSd (n : Nat) (z : Int) (hz : (n : Int) = z) (D : ByteArray) (hD : (⟨(decDigits n).toArray⟩ : ByteArray) = D) (hn : n ≤ 1000000) (w : World) : Calls Tryd.prog 11 #[.int .i64 z] w fun e w' => e = .returned (.string D) ∧ Below w.heap.size w w' := by
  subst hD hz
  exact Dc.decS n hn w
theorem cat7d {a b c : List UInt8} {A B C : ByteArray} (ha : (⟨a.toArray⟩ : ByteArray) = A) (hb : (⟨b.toArray⟩ : ByteArray) = B) (hc : (⟨c.toArray⟩ : ByteArray) = C) : (⟨([98] ++ a ++ [10] ++ b ++ [10] ++ c ++ [10]).toArray⟩ : ByteArray) = (⟨#[98]⟩ : ByteArray) ++ A ++ ⟨#[10]⟩ ++ B ++ ⟨#[10]⟩ ++ C ++ ⟨#[10]⟩ := by
  subst ha hb hc
  apply ByteArray.ext
  simp [ByteArray.data_append]
theorem addTd {A B C : ByteArray} (h : A ++ B = C) (hs : A.size + B.size ≤ 100) : Hid (∀ w : World, (Op.stringOp .add A B).run Tryd.prog w = .ok (.string C) w) := fun w => by rw [← h]; exact run_string_add_sum w A B (by omega)
/-- two texts put together, as an operation by itself -/
theorem exec_add {o : Oper} {a : Act} {w : World} (x y : Operand) (t t' : TypeId) (ho : o.op = .binOp .add t x y t') (A B C : ByteArray) (hx : a.eval x = .string A) (hy : a.eval y = .string B) (hC : Hid (∀ w : World, (Op.stringOp .add A B).run Tryd.prog w = .ok (.string C) w)) : (execOp a.eval o).run Tryd.prog w = .ok (.value (.string C)) w := by
  have hc := hC.out w
  simp [execOp, ho, hx, hy, eqGuard, binOp_string_add, hc, Result.andThen]
/-- an order by the keys is as one by the link -/
theorem lnk_same {n d v : Int} {ks : List UInt8} (h : allM newM ks = (newM, [(1, n, d, v)])) : tickD newD (keyI ks) = tickD newD (ordI n d v) := by
  have e1 : ordsD newD (keyI ks) = ordsD newD (ordI n d v) := by
    unfold ordsD keyI ordI newD
    dsimp only
    rw [h]
    rfl
  have e2 : alD newD (keyI ks) = alD newD (ordI n d v) := by unfold alD; rw [e1]; rfl
  have e3 : numD newD (keyI ks) = numD newD (ordI n d v) := by unfold numD; rw [e1, e2]
  have e4 : pmpD newD (keyI ks) = pmpD newD (ordI n d v) := by unfold pmpD; rw [e1, e2, e3]
  unfold tickD
  rw [e1, e2, e3, e4]
  have e5 : (allM newD.m (keyI ks).ks).1 = (allM newD.m (ordI n d v).ks).1 := by
    show (allM newM ks).1 = newM
    rw [h]
  rw [e5]
theorem give_s1 {p : Pm} (h : 1 ≤ p.s) (a : Int) : 1 ≤ (p.give a).s := by
  unfold Pm.give
  split
  · unfold Pm.giveR
    dsimp only
    repeat' split
    all_goals first | exact h | (show (1 : Int) ≤ 2; decide)
  · exact h
theorem lnk_run {n d v : Int} (h : OrdR 1 n d v) : 1 ≤ (tickD newD (ordI n d v)).p.s := by
  have ho : ordsD newD (ordI n d v) = ⟨⟨1, n, d, 0, v, 0, 0, 0⟩, 0, false⟩ := by
    have e : newP.take 1 n d v = (⟨1, n, d, 0, v, 0, 0, 0⟩, true) := by
      unfold Pm.take
      rw [if_pos ⟨ok_yes new_ok, or_yes h⟩]
      simp [newP]
    unfold ordsD ordI newD
    dsimp only
    show takeL _ [(1, n, d, v)] = _
    simp [takeL, stepK, e]
  show 1 ≤ (pmpD newD (ordI n d v)).s
  unfold pmpD
  rw [ho]
  split
  · exact give_s1 (by show (1 : Int) ≤ 1; decide) _
  · show (1 : Int) ≤ 1
    decide
def badI : Ic := ⟨0, [], [], 1⟩
/-- a link that is none: one is refused, and the pump is as it was -/
theorem lnk_bad : ∃ (l : List Int) (al : Int) (m : Mn) (t : List Tk3), tickD newD badI = ⟨newP, l, al, m, t, 1⟩ := by
  have ho : ordsD newD badI = ⟨newP, 1, false⟩ := by rfl
  have hp : pmpD newD badI = newP := by
    unfold pmpD
    rw [ho]
    split
    · unfold Pm.give
      rw [if_neg (by rintro ⟨_, h⟩; revert h; decide)]
    · rfl
  have e1 : (tickD newD badI).p = newP := hp
  have e2 : (tickD newD badI).rf = 1 := by show (ordsD newD badI).r = 1; rw [ho]
  obtain ⟨D, hD⟩ : ∃ D, tickD newD badI = D := ⟨_, rfl⟩
  rw [hD] at e1 e2 ⊢
  obtain ⟨p, l, al, m, t, rf⟩ := D
  dsimp only at e1 e2
  subst e1 e2
  exact ⟨l, al, m, t, rfl⟩
theorem bad_lk {n d v : Int} {T : ByteArray} (hR : OrdR 1 n d v) (ht : Trn (ordT 1 n d v) T) : LkD T [] 1 ∧ T.size ≤ 40 := by
  obtain ⟨l, m, c, e, h1, h2, hne⟩ := ht
  have hs := ordT_sized hR
  have e1 : T.size = (ordT 1 n d v).size := by
    show T.data.size = (ordT 1 n d v).data.size
    rw [← Array.length_toList, ← Array.length_toList, h1, h2]
    simp
  obtain ⟨lo, lr, hlk⟩ := LkD.ex T
  rcases hlk with ⟨g1, _, _⟩ | ⟨g1, k', n', d', v', b, g2, g3⟩
  · omega
  · have hb := turned_rd hR h1 h2 hne g2
    rcases g3 with ⟨g4, _, _⟩ | ⟨g4, rfl, rfl⟩
    · rw [hb] at g4; cases g4
    · exact ⟨.inr ⟨g1, k', n', d', v', b, g2, .inr ⟨g4, rfl, rfl⟩⟩, by omega⟩
def inpT (T : ByteArray) : Inp := ⟨badI, ⟨#[]⟩, T⟩
theorem inpT_ok {n d v : Int} {T : ByteArray} (hR : OrdR 1 n d v) (ht : Trn (ordT 1 n d v) T) : (inpT T).ok := by
  obtain ⟨h1, h2⟩ := bad_lk hR ht
  exact ⟨rfl, h1, by show (0 : Int) ≤ 0 ∧ (0 : Int) ≤ 15; decide, by show (0 : Nat) ≤ 20; decide, h2⟩
set_option maxRecDepth 100000 in
set_option maxHeartbeats 2000000 in
theorem sameTk (a b : Option Addr) (t : List Tk3) (n ca cb : Nat) (ht : t.length = n) (hn : n ≤ 1000) (w : World) (ha : RdY w a t) (hb : RdY w b t) :
    Calls Tryd.prog 13 #[.slice a n ca, .slice b n cb] w fun e w' => e = .returned (.bool true) ∧ Below w.heap.size w w' := by
  have HT : Hid (t.length = n) := ht
  have HA : Hid (RdY w a t) := ha
  have HB : Hid (RdY w b t) := hb
  clear ht ha hb
  go_enter Tryd.func13, Tryd.ntmps13
  go_wp2_with fail
  go_loopg [5] n (fun gk i wr => ∃ (j : Nat), j + gk = n ∧ i = .int .i64 j ∧ Hid (Below w.heap.size w wr))
  case atStart => exact ⟨0, by omega, rfl, Below.refl _ _⟩
  case round =>
    obtain ⟨j, hj, rfl, HW⟩ := hrel
    by_cases hlt : j < n
    · have hjl : j < t.length := by rw [HT.out]; exact hlt
      obtain ⟨g1, o1, rfl, hc1⟩ := HA.out.keep HW.out (Nat.le_refl _) (by omega)
      obtain ⟨g2, o2, rfl, hc2⟩ := HB.out.keep HW.out (Nat.le_refl _) (by omega)
      have k1 := hc1 j hjl
      have k2 := hc2 j hjl
      obtain ⟨⟨y0, y1, y2⟩, hy⟩ : ∃ y, t[j] = y := ⟨_, rfl⟩
      rw [hy] at k1 k2
      dsimp only at k1 k2
      have HK : Hid ((wr.cell? ⟨g1, o1 + j * 3, none⟩ = some (.int .i64 y0) ∧ wr.cell? ⟨g1, o1 + j * 3 + 1, none⟩ = some (.int .i64 y1) ∧ wr.cell? ⟨g1, o1 + j * 3 + 2, none⟩ = some (.int .i64 y2)) ∧ (wr.cell? ⟨g2, o2 + j * 3, none⟩ = some (.int .i64 y0) ∧ wr.cell? ⟨g2, o2 + j * 3 + 1, none⟩ = some (.int .i64 y1) ∧ wr.cell? ⟨g2, o2 + j * 3 + 2, none⟩ = some (.int .i64 y2))) := ⟨k1, k2⟩
      have j0 : (0 : Int) ≤ j := by omega
      have j1 : (j : Int) < n := by omega
      have qj : IntKind.i64.wrap ((j : Int) + 1) = (j : Int) + 1 := wrap_in (by omega) (by omega)
      clear hc1 hc2 k1 k2 hy
      go_upto_region 6 with fail
      refine wp_region_held_drew (S := fun wr => (wr.cell? ⟨g1, o1 + j * 3, none⟩ = some (.int .i64 y0) ∧ wr.cell? ⟨g1, o1 + j * 3 + 1, none⟩ = some (.int .i64 y1) ∧ wr.cell? ⟨g1, o1 + j * 3 + 2, none⟩ = some (.int .i64 y2)) ∧ (wr.cell? ⟨g2, o2 + j * 3, none⟩ = some (.int .i64 y0) ∧ wr.cell? ⟨g2, o2 + j * 3 + 1, none⟩ = some (.int .i64 y1) ∧ wr.cell? ⟨g2, o2 + j * 3 + 2, none⟩ = some (.int .i64 y2))) (by kernel_rfl) HK.out (fun hHeld => ?_)
      have HW2 : Hid (Below w.heap.size w wr.drew) := HW.out.drew
      refine wpAnyH_take (i := 0) (v := ?_) rfl (by kernel_rfl) (by kernel_rfl) (by kernel_rfl) (fun _ _ _ h => h) (Or.inl ⟨by rfl, ?_⟩) (by assumption) ?_
      rotate_left
      · intro w_ hSw; (try dsimp only at hSw); (try clear hSw); (try clear hHeld); go_simp <;> with_reducible rfl
      try simp only [Act.put, List.setIfInBounds_toArray, List.set_cons_zero, List.set_cons_succ, List.getElem_toArray, List.getElem_cons_zero, List.getElem_cons_succ]
      refine wpAnyH_take (i := 1) (v := ?_) rfl (by kernel_rfl) (by kernel_rfl) (by kernel_rfl) (fun _ _ _ h => h) (Or.inl ⟨by rfl, ?_⟩) (by assumption) ?_
      rotate_left
      · intro w_ hSw; (try dsimp only at hSw); (try clear hSw); (try clear hHeld); go_simp <;> with_reducible rfl
      try simp only [Act.put, List.setIfInBounds_toArray, List.set_cons_zero, List.set_cons_succ, List.getElem_toArray, List.getElem_cons_zero, List.getElem_cons_succ]
      refine wpAnyH_take (i := 2) (v := ?_) rfl (by kernel_rfl) (by kernel_rfl) (by kernel_rfl) (fun _ _ _ h => h) (Or.inl ⟨by rfl, ?_⟩) (by assumption) ?_
      rotate_left
      · intro w_ hSw; (try dsimp only at hSw); (try clear hSw); (try clear hHeld); go_simp <;> with_reducible rfl
      try simp only [Act.put, List.setIfInBounds_toArray, List.set_cons_zero, List.set_cons_succ, List.getElem_toArray, List.getElem_cons_zero, List.getElem_cons_succ]
      refine wpAnyH_take (i := 3) (v := ?_) rfl (by kernel_rfl) (by kernel_rfl) (by kernel_rfl) (fun _ _ _ h => h) (Or.inl ⟨by rfl, ?_⟩) (by assumption) ?_
      rotate_left
      · intro w_ hSw; (try dsimp only at hSw); obtain ⟨⟨f0, f1, f2⟩, _⟩ := hSw; (try clear hSw); (try clear hHeld); go_simp <;> with_reducible rfl
      try simp only [Act.put, List.setIfInBounds_toArray, List.set_cons_zero, List.set_cons_succ, List.getElem_toArray, List.getElem_cons_zero, List.getElem_cons_succ]
      refine wpAnyH_take (i := 4) (v := ?_) rfl (by kernel_rfl) (by kernel_rfl) (by kernel_rfl) (fun _ _ _ h => h) (Or.inl ⟨by rfl, ?_⟩) (by assumption) ?_
      rotate_left
      · intro w_ hSw; (try dsimp only at hSw); (try clear hSw); (try clear hHeld); go_simp <;> with_reducible rfl
      try simp only [Act.put, List.setIfInBounds_toArray, List.set_cons_zero, List.set_cons_succ, List.getElem_toArray, List.getElem_cons_zero, List.getElem_cons_succ]
      refine wpAnyH_take (i := 5) (v := ?_) rfl (by kernel_rfl) (by kernel_rfl) (by kernel_rfl) (fun _ _ _ h => h) (Or.inl ⟨by rfl, ?_⟩) (by assumption) ?_
      rotate_left
      · intro w_ hSw; (try dsimp only at hSw); (try clear hSw); (try clear hHeld); go_simp <;> with_reducible rfl
      try simp only [Act.put, List.setIfInBounds_toArray, List.set_cons_zero, List.set_cons_succ, List.getElem_toArray, List.getElem_cons_zero, List.getElem_cons_succ]
      refine wpAnyH_take (i := 6) (v := ?_) rfl (by kernel_rfl) (by kernel_rfl) (by kernel_rfl) (fun _ _ _ h => h) (Or.inl ⟨by rfl, ?_⟩) (by assumption) ?_
      rotate_left
      · intro w_ hSw; (try dsimp only at hSw); (try clear hSw); (try clear hHeld); go_simp <;> with_reducible rfl
      try simp only [Act.put, List.setIfInBounds_toArray, List.set_cons_zero, List.set_cons_succ, List.getElem_toArray, List.getElem_cons_zero, List.getElem_cons_succ]
      refine wpAnyH_take (i := 7) (v := ?_) rfl (by kernel_rfl) (by kernel_rfl) (by kernel_rfl) (fun _ _ _ h => h) (Or.inl ⟨by rfl, ?_⟩) (by assumption) ?_
      rotate_left
      · intro w_ hSw; (try dsimp only at hSw); obtain ⟨_, f0, f1, f2⟩ := hSw; (try clear hSw); (try clear hHeld); go_simp <;> with_reducible rfl
      try simp only [Act.put, List.setIfInBounds_toArray, List.set_cons_zero, List.set_cons_succ, List.getElem_toArray, List.getElem_cons_zero, List.getElem_cons_succ]
      refine wpAnyH_take (i := 8) (v := ?_) rfl (by kernel_rfl) (by kernel_rfl) (by kernel_rfl) (fun _ _ _ h => h) (Or.inl ⟨by rfl, ?_⟩) (by assumption) ?_
      rotate_left
      · intro w_ hSw; (try dsimp only at hSw); (try clear hSw); (try clear hHeld); go_simp <;> with_reducible rfl
      try simp only [Act.put, List.setIfInBounds_toArray, List.set_cons_zero, List.set_cons_succ, List.getElem_toArray, List.getElem_cons_zero, List.getElem_cons_succ]
      clear hHeld
      refine wpAnyH_done (by kernel_rfl) ?_ _
      clear HK
      go_wp2
      go_roundg (gk - 1)
      case measure => omega
      case rel => exact ⟨j + 1, by omega, by go_num, HW2⟩
    · have hne : ¬ ((j : Int) < n) := by omega
      go_wp2
      go_ret
      exact ⟨rfl, HW.out⟩
end Go.Proofs.YtbcegpncledolaaDoor
