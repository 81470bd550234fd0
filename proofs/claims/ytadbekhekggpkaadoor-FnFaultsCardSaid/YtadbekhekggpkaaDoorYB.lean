/-
  Proved: the tied card: for every list of bytes the call of FnFaults returns true: each fault of a drawn set-up is told by its own number, the first one ahead of the others (lists of more than 1048576 bytes the law itself lets by), and the argument reads as before. Conditions: errors.errorType holds what its own initialiser lays, the handle of the type error (the card ties it to the text of the pruned copy of the project).
-/
import Derived.Test.YtadbekhekggpkaaDoorDrawTY
import Derived.Test.YtadbekhekggpkaaDoorYA
import Derived.Test.YtadbekhekggpkaaDoorTextM
import Derived.Maps.AppendAt
import Derived.Test.YtadbekhekggpkaaDoorAsX
import Derived.Test.YtadbekhekggpkaaDoorRows
import Derived.Lib.LaidTab
import Derived.OpenShut
import Derived.LaidHandle
import Derived.LaidLaws
import Derived.Stop.Joined
import Derived.Test.YtadbekhekggpkaaDoorDraw
import Derived.Test.YtadbekhekggpkaaDoorCards
import Derived.Test.YtadbekhekggpkaaDoorTie
import Derived.OpenVars
import Derived.ChangeVars
import Derived.ShutString
import Derived.ChangeOld
import Derived.Below
import Derived.Deep.DeepHandedRow
namespace Go.Proofs.YtadbekhekggpkaaDoor
open Go.RowKit Go.PlainAid
set_option linter.unusedVariables false

theorem snoc_all {α : Type} {l : List α} {x : α} {Q : α → Prop} (h : ∀ j (hj : j < l.length), Q l[j]) (hx : Q x) : ∀ i (hi : i < (l ++ [x]).length), Q ((l ++ [x])[i]) := fun i hi => by
  rcases Nat.lt_or_ge i l.length with hh | hh
  · rw [List.getElem_append_left hh]; exact h i hh
  · rw [List.getElem_append_right hh]; simp; exact hx
theorem fault_zero {X : SX} (h : RightX X) : FaultX X 0 := .inr (.inr (.inr (.inr (.inr (.inr ⟨h, rfl⟩)))))
def xA (X : SX) : SX := ⟨X.R, X.W, X.O, X.U, X.S ++ [⟨#[]⟩]⟩
def xB (X : SX) : SX := ⟨X.R, X.W, X.O, X.U ++ [(0, 0, 0)], X.S ++ [⟨#[]⟩]⟩
def xC (X : SX) : SX := ⟨X.R, X.W, X.O ++ [(0, 0, 0, 0, 0)], X.U ++ [(0, 0, 0)], X.S ++ [⟨#[]⟩]⟩
def xD (X : SX) : SX := ⟨X.R, [], X.O ++ [(0, 0, 0, 0, 0)], X.U ++ [(0, 0, 0)], X.S ++ [⟨#[]⟩]⟩
def xE (X : SX) : SX := ⟨[], [], X.O ++ [(0, 0, 0, 0, 0)], X.U ++ [(0, 0, 0)], X.S ++ [⟨#[]⟩]⟩
def xF (X : SX) : SX := ⟨X.R, X.W ++ [(4, 1)], X.O, X.U, X.S⟩
theorem faultA {X : SX} (h : RightX X) : FaultX (xA X) 5 := by
  obtain ⟨h1, h2, h3, h4, h5, h6⟩ := h
  refine .inr (.inr (.inr (.inr (.inl ⟨h1, h2, h3, h4, fun h => ?_, rfl⟩))))
  have e1 : (X.S ++ [(⟨#[]⟩ : ByteArray)]).length = X.R.length := h.1
  have e2 := h5.1
  rw [List.length_append] at e1
  simp at e1
  omega
theorem faultB {X : SX} (h : RightX X) : FaultX (xB X) 4 := by
  obtain ⟨h1, h2, h3, h4, h5, h6⟩ := h
  refine .inr (.inr (.inr (.inl ⟨h1, h2, h3, fun h => ?_, rfl⟩)))
  have hl : (X.U ++ [((0 : Int), (0 : Int), (0 : Int))]).length = X.U.length + 1 := by simp
  have := (h.1 X.U.length (by show _ < (X.U ++ [((0 : Int), (0 : Int), (0 : Int))]).length; omega) (by show _ < (X.U ++ [((0 : Int), (0 : Int), (0 : Int))]).length; omega)).1
  have e : (xB X).U[X.U.length]'(by show _ < (X.U ++ [((0 : Int), (0 : Int), (0 : Int))]).length; omega) = (0, 0, 0) := by simp [xB]
  rw [e] at this
  have h9 : (1 : Int) ≤ 0 := this.1.1
  omega
theorem ports_bad (X : SX) (Y : SX) (hY : Y.O = X.O ++ [(0, 0, 0, 0, 0)]) : ¬ PortsX Y := fun h => by
  have hl : Y.O.length = X.O.length + 1 := by rw [hY]; simp
  have := h.2 X.O.length (by omega)
  have e : Y.O[X.O.length]'(by omega) = (0, 0, 0, 0, 0) := by simp [hY]
  rw [e] at this
  have h9 : (1 : Int) ≤ 0 := this.1.1
  omega
theorem faultC {X : SX} (h : RightX X) : FaultX (xC X) 3 := by
  obtain ⟨h1, h2, h3, h4, h5, h6⟩ := h
  exact .inr (.inr (.inl ⟨h1, h2, ports_bad X _ rfl, rfl⟩))
theorem faultD {X : SX} (h : RightX X) : FaultX (xD X) 2 := by
  obtain ⟨h1, h2, h3, h4, h5, h6⟩ := h
  refine .inr (.inl ⟨h1, fun h => ?_, rfl⟩)
  have h9 : 1 ≤ 0 := h.1.1
  omega
theorem faultE {X : SX} (h : RightX X) : FaultX (xE X) 1 := by
  refine .inl ⟨fun h => ?_, rfl⟩
  have h9 : 1 ≤ 0 := h.1
  omega
theorem faultF {X : SX} (h : RightX X) (hw : X.W.length ≤ 5) : FaultX (xF X) (if (X.R.length : Int) < 4 then 6 else 0) := by
  obtain ⟨h1, h2, h3, h4, h5, h6⟩ := h
  have hP : PlanR (xF X).W := by
    refine ⟨⟨?_, ?_⟩, fun i hi => ?_⟩
    · show 1 ≤ (X.W ++ [((4 : Int), (1 : Int))]).length; simp
    · show (X.W ++ [((4 : Int), (1 : Int))]).length ≤ 12; simp; omega
    · exact snoc_all (Q := isWin) (x := ((4 : Int), (1 : Int))) h2.2 ⟨⟨by decide, by decide⟩, by decide, by decide⟩ i hi
  by_cases h4' : (X.R.length : Int) < 4
  · rw [if_pos h4']
    refine .inr (.inr (.inr (.inr (.inr (.inl ⟨h1, hP, h3, h4, h5, fun h => ?_, rfl⟩)))))
    have hl : X.W.length < (xF X).W.length := by show X.W.length < (X.W ++ [((4 : Int), (1 : Int))]).length; simp
    have := h.1 X.W.length hl
    have e : (xF X).W[X.W.length] = (4, 1) := by simp [xF]
    rw [e] at this
    have h9 : (4 : Int) ≤ (X.R.length : Int) := this
    omega
  · rw [if_neg h4']
    refine fault_zero ⟨h1, hP, h3, h4, h5, fun i hi => ?_, h6.2.1, h6.2.2⟩
    exact snoc_all (Q := fun p : Int × Int => p.1 ≤ (X.R.length : Int)) (x := ((4 : Int), (1 : Int))) h6.1 (by show (4 : Int) ≤ _; omega) i hi
theorem right_wf {X : SX} (h : RightX X) : WfU X.U := fun j hj => by
  obtain ⟨a, b, c⟩ := h.num.u.2 j hj
  exact ⟨WalkArith.wf_i64 (by omega), WalkArith.wf_i64 (by omega), WalkArith.wf_i64 (by omega)⟩
theorem wf_zero {l : List Rule} (h : WfU l) : WfU (l ++ [(0, 0, 0)]) := fun j hj => by
  rcases Nat.lt_or_ge j l.length with hh | hh
  · rw [List.getElem_append_left hh]; exact h j hh
  · rw [List.getElem_append_right hh]
    simp
    exact WalkArith.wf_i64 (by omega)
theorem bytes_nil (l : List ByteArray) : S.bytesS (l ++ [⟨#[]⟩]) = S.bytesS l := by
  induction l with
  | nil => simp [S.bytesS]; rfl
  | cons s t ih => simp only [List.cons_append, S.bytesS, ih]
theorem bytes_le : ∀ {l : List ByteArray} {k : Nat}, (∀ j (h : j < l.length), (l[j]).size ≤ k) → S.bytesS l ≤ k * l.length
  | [], k, _ => by simp [S.bytesS]
  | x :: l, k, h => by
    have h1 := bytes_le (l := l) (k := k) (fun j hj => by have := h (j + 1) (by simp; omega); simpa using this)
    have h2 := h 0 (by simp)
    simp only [S.bytesS, List.length_cons, Nat.mul_add, Nat.mul_one]
    simp at h2
    omega
/-- lists that are few -/
def FewS (s : SH) : Prop := s.n0 ≤ 20 ∧ s.n1 ≤ 20 ∧ s.n2 ≤ 20 ∧ s.n3 ≤ 20 ∧ s.n4 ≤ 20
theorem few_sm11 {s : SH} {X : SX} (h : FewS s) (hb : S.bytesS X.S ≤ 1000) : SmX s X := by
  obtain ⟨a, b, c, d, e⟩ := h
  exact ⟨by omega, by omega, by omega, by omega, by omega, by omega⟩

theorem own_new (W : World) (B T k : Nat) (hB : B ≤ W.heap.size) : (W.alloc (.cells #[] T)).ownsRow B T k (.slice (some ⟨W.heap.size, 0, none⟩) 0 0) 0 [] :=
  ⟨by simp, Or.inr ⟨_, 0, #[], rfl, hB, by show (W.heap.push _)[W.heap.size]? = _; simp, Nat.le_refl _, by decide, by simp, by simp⟩⟩
theorem own_gr14 {W W' : World} {B T z n k : Nat} {v : Value} {xs : List Value} {cs : Array Value} {T' : TypeId} (h : W.ownsRow B T z v n xs) (hg : W.grownBy W' v.ownBlock) (hT : T ≠ T') (hk : W.heap[k]? = some (.cells cs T')) : W'.heap[k]? = some (.cells cs T') :=
  (hg.block k (row_lt hk) (fun e => own_far11 h hk hT e.symm)).trans hk
theorem own_ge14 {wr : World} {B t z n : Nat} {v : Value} {xs : List Value} (h : wr.ownsRow B t z v n xs) : ∀ k, v.ownBlock = some k → B ≤ k := by
  intro k hk
  rcases h.2 with ⟨rfl, e⟩ | ⟨g, cap, cur, rfl, hg, _⟩
  · simp [Value.ownBlock] at hk
  · simp [Value.ownBlock] at hk; omega
theorem cell_k14 {wr : World} {xs : List Value} {T : TypeId} {a : Addr} (ha : a = ⟨wr.heap.size, 0, none⟩) : ∀ j u, xs[j]? = some u → (wr.alloc (.cells xs.toArray T)).cell? (a.add j) = some u := by
  intro j u hj
  subst ha
  rw [add_at, Nat.zero_add, cell_of_row _ wr.heap.size j _ _ (0, 0) (heap_new wr _)]
  simpa using hj
/-- append of a list that may be none onto an empty one -/
theorem wpList_append_copy {P : Program} {w : World} {ops : Array Oper} {rest : List Oper} {o : Oper} {a : Act} {Q : Exit → Act → World → Prop} (hgd : o.guard = none) (s x : Operand) (t : TypeId)
    (ho : o.op = .call { callee := .builtin .append, args := #[s, x], argTypes := #[t, t] })
    (base : Nat) (e : TypeId) (i : TypeInfo) (z : Value) (size bytes : Nat) (ht : P.underlying t = some (.slice e)) (hi : P.info? e = some i) (hz : i.zero = some z)
    (hsize : i.size = size) (hby : i.bytes = bytes) (hzs : z.cells.size = size) (hsz : 0 < size)
    (g : Nat) (hs : a.eval s = .slice (some ⟨g, 0, none⟩) 0 0) (hown : w.ownsRow base e size (.slice (some ⟨g, 0, none⟩) 0 0) 0 [])
    (B : Nat) (q : Option Addr) (m c : Nat) (news : List Value) (hx : a.eval x = .slice q m c) (hsrc : w.ownsRow B e size (.slice q m c) m news) (h1 : ∀ u ∈ news, u.oneCell' = true)
    (hm : m ≤ 100) (hbb : bytes ≤ 1000) (hbase : base ≤ w.heap.size)
    (h : ∀ v' w', w'.ownsRow base e size v' m news → w.grownBy w' (some g) → wpList P ops Q rest (a.put o.dst v') w') :
    wpList P ops Q (o :: rest) a w := by
  have hl : news.length = m * size := hsrc.1
  rcases hsrc.2 with ⟨e1, e2⟩ | ⟨g', cap, cur, e1, _, _⟩
  · cases e1
    have hn : news = [] := List.eq_nil_of_length_eq_zero (by rw [hl]; simp)
    subst hn
    refine wpList_plain hgd fun K hK => ?_
    have hr : (Builtin.append_ #[t, t] o.type #[.slice (some ⟨g, 0, none⟩) 0 0, .slice none 0 0]).run P w = .ok (.slice (some ⟨g, 0, none⟩) 0 0) w := by
      simp [Builtin.append_, run_underlying ht, sizeOf, typeInfo, hi, Builtin.lenOf, Builtin.firstCells, storeCells]
    unfold Oper.wp execOp
    simp only [ho, resolve, invoke, builtin, Sem.run_bind, Sem.run_pure, Result.andThen_ok, List.map_toArray, List.map_cons, List.map_nil, hs, hx, hr]
    exact hK _ _ (h _ w hown (World.grownBy.refl _ _))
  · cases e1
    have hmb : m * bytes ≤ 100 * 1000 := Nat.mul_le_mul hm hbb
    refine wpList_append_own_at w hgd s x t ho base e i z size bytes ht hi hz hsize hby hzs hsz _ 0 [] hs hown ⟨g', 0, none⟩ m c news hx hl (hsrc.cells rfl) h1 (by unfold maxLen; omega) (by rw [Nat.zero_add]; omega) hbase ?_
    intro v' w' h2 h3 _ _
    rw [Nat.zero_add, List.nil_append] at h2
    exact h v' w' h2 h3
end Go.Proofs.YtadbekhekggpkaaDoor

namespace Go.Proofs.YtadbekhekggpkaaDoor
open Go.RowKit Go.PlainAid
set_option linter.unusedVariables false

theorem own_oneR (l : List (Int × Int)) : ∀ u ∈ R.regsV l, u.oneCell' = true := by
  induction l with
  | nil => intro u hu; cases hu
  | cons r t ih => intro u hu; simp [R.regsV] at hu; rcases hu with rfl | rfl | hu; rfl; rfl; exact ih u hu
theorem own_oneW (l : List (Int × Int)) : ∀ u ∈ regsV l, u.oneCell' = true := by
  induction l with
  | nil => intro u hu; cases hu
  | cons r t ih => intro u hu; simp [regsV] at hu; rcases hu with rfl | rfl | hu; rfl; rfl; exact ih u hu
theorem own_oneO (l : List Prt) : ∀ u ∈ prtV l, u.oneCell' = true := by
  induction l with
  | nil => intro u hu; cases hu
  | cons r t ih => intro u hu; simp [prtV] at hu; rcases hu with rfl | rfl | rfl | rfl | rfl | hu; rfl; rfl; rfl; rfl; rfl; exact ih u hu
theorem own_oneU (l : List Rule) : ∀ u ∈ rulV l, u.oneCell' = true := by
  induction l with
  | nil => intro u hu; cases hu
  | cons r t ih => intro u hu; simp [rulV] at hu; rcases hu with rfl | rfl | rfl | hu; rfl; rfl; rfl; exact ih u hu
theorem own_oneS (l : List ByteArray) : ∀ u ∈ S.strV l, u.oneCell' = true := by
  intro u hu
  simp only [S.strV, List.mem_map] at hu
  obtain ⟨b, _, rfl⟩ := hu
  rfl
set_option maxRecDepth 100000 in
set_option maxHeartbeats 1000000 in
theorem drawSetY (a : Option Addr) (len cap : Nat) (w : World) (hcode : CodeOk w w.heap.size a len) :
    Calls Tryd.prog 7 #[.slice a len cap] w fun e w' => ∃ (s : SH) (X : SX), e = .returned (SetV s) ∧ RightX X ∧ (1 ≤ X.W.length ∧ X.W.length ≤ 5) ∧ X.O.length ≤ 3 ∧ s.n0 ≤ s.c0 ∧ OwnX w' w.heap.size s X ∧ Below w.heap.size w w' := by
  have HB0 : Hid (Below w.heap.size w (w.alloc (.cells #[nilV, nilV, nilV, nilV, nilV] 30))) := (Below.refl _ _).alloc (Nat.le_refl _) _
  have HC : Hid (CodeOk (w.alloc (.cells #[nilV, nilV, nilV, nilV, nilV] 30)) w.heap.size a len) := code_below hcode HB0.out
  have HZ : Hid ((w.alloc (.cells #[nilV, nilV, nilV, nilV, nilV] 30)).heap[w.heap.size]? = some (.cells #[nilV, nilV, nilV, nilV, nilV] 30)) := heap_new w _
  clear hcode
  unfold SetV
  go_enter Tryd.func7, Tryd.ntmps7
  go_wp2_with fail
  refine (new23 w.heap.size a len cap _ HC.out (by simp)).mono ?_
  rintro e w1 ⟨C, rfl, hC, hcur, hcode, hb1⟩
  have hC' : w.heap.size < C := by have : (w.alloc (.cells #[nilV, nilV, nilV, nilV, nilV] 30)).heap.size = w.heap.size + 1 := by simp
                                   omega
  have HB1 : Hid (Below w.heap.size w w1) := bel_on (Nat.le_refl _) HB0.out hb1
  have HZ1 : Hid (w1.heap[w.heap.size]? = some (.cells #[nilV, nilV, nilV, nilV, nilV] 30)) := row_on HZ.out hb1
  clear hb1 HC HB0 HZ hC
  have s1 := HB1.out.size
  go_wp2_with fail
  refine (setupD C w.heap.size a len cap _ hcur (by omega) hcode).mono ?_
  rintro e w2 ⟨s, X, rfl, hX, hw, ho, hcap, hown, hD⟩
  obtain ⟨q0, n0, c0, q1, n1, c1, q2, n2, c2, q3, n3, c3, q4, n4, c4⟩ := s
  have HX : Hid (RightX X ∧ (1 ≤ X.W.length ∧ X.W.length ≤ 5) ∧ X.O.length ≤ 3 ∧ n0 ≤ c0) := ⟨hX, hw, ho, hcap⟩
  have HZ2 : Hid (w2.heap[w.heap.size]? = some (.cells #[nilV, nilV, nilV, nilV, nilV] 30)) := P.row_drawn HZ1.out hD.2.2 (by omega)
  have HO : Hid (OwnX w2 w.heap.size ⟨q0, n0, c0, q1, n1, c1, q2, n2, c2, q3, n3, c3, q4, n4, c4⟩ X) := ⟨own_mono hown.o0 s1, own_mono hown.o1 s1, own_mono hown.o2 s1, own_mono hown.o3 s1, own_mono hown.o4 s1⟩
  have HB2 : Hid (Below w.heap.size w w2) := by
    have hg := hD.2.2
    have hb := HB1.out
    exact ⟨hg.os.trans hb.os, hg.tape.trans hb.tape, hg.output.trans hb.output, Nat.le_trans hb.size hg.size, fun i hi => (hg.block i (by omega) (fun e => by cases e; omega)).trans (hb.block i hi)⟩
  have kz := P.box5_cells HZ2.out
  clear hD hX hw ho hcap hown HB1 HZ1
  unfold SetV
  dsimp only
  go_wp2
  refine bodyPost_ret (v := .agg #[.slice q0 n0 c0, .slice q1 n1 c1, .slice q2 n2 c2, .slice q3 n3 c3, .slice q4 n4 c4]) (by simp [results, Tryd.results7, go_sem, kz]) rfl ⟨⟨q0, n0, c0, q1, n1, c1, q2, n2, c2, q3, n3, c3, q4, n4, c4⟩, X, rfl, HX.out.1, HX.out.2.1, HX.out.2.2.1, HX.out.2.2.2, ⟨own_set5 HO.out.o0 (own_far HO.out.o0 HZ2.out (by decide)), own_set5 HO.out.o1 (own_far HO.out.o1 HZ2.out (by decide)), own_set5 HO.out.o2 (own_far HO.out.o2 HZ2.out (by decide)), own_set5 HO.out.o3 (own_far HO.out.o3 HZ2.out (by decide)), own_set5 HO.out.o4 (own_far HO.out.o4 HZ2.out (by decide))⟩, ((((HB2.out.setCell (Nat.le_refl _) _).setCell (Nat.le_refl _) _).setCell (Nat.le_refl _) _).setCell (Nat.le_refl _) _).setCell (Nat.le_refl _) _⟩

set_option maxRecDepth 100000 in
set_option maxHeartbeats 4000000 in
theorem faultsIn (a0 : Option Addr) (len0 cap0 : Nat) (hb : len0 ≤ 1048576) (w0 : World) (hcode : CodeOk w0 w0.heap.size a0 len0) (hg : Hnd w0) :
    Calls Tryd.prog 3 #[.slice a0 len0 cap0] w0 fun e w' => e = .returned (.bool true) ∧ Below w0.heap.size w0 w' := by
  have HC : Hid (CodeOk w0 w0.heap.size a0 len0) := hcode
  have HG : Hid (Hnd w0) := hg
  obtain ⟨j0, hi0, hz00, hz01, hz02⟩ := info_parts R.infoR
  obtain ⟨j1, hi1, hz10, hz11, hz12⟩ := info_parts infoR
  obtain ⟨j2, hi2, hz20, hz21, hz22⟩ := info_parts infoO
  obtain ⟨j3, hi3, hz30, hz31, hz32⟩ := info_parts infoU
  obtain ⟨j4, hi4, hz40, hz41, hz42⟩ := info_parts S.info9
  clear hcode hg
  go_enter Tryd.func3, Tryd.ntmps3
  go_wp2_with fail
  refine (big5 a0 len0 cap0 (by omega) _).mono ?_
  rintro e wx ⟨rfl, hwx⟩
  obtain rfl : w0 = wx := hwx.symm
  rw [decide_eq_false (by omega)]
  go_wp2_with fail
  refine (drawSetY a0 len0 cap0 _ HC.out).mono ?_
  rintro e w1 ⟨s, X, rfl, hX, hw, ho, hcap, hown, hb1⟩
  obtain ⟨q0, n0, c0, q1, n1, c1, q2, n2, c2, q3, n3, c3, q4, n4, c4⟩ := s
  dsimp only at hcap
  obtain ⟨l0, l1, l2, l3, l4⟩ : X.R.length = n0 ∧ X.W.length = n1 ∧ X.O.length = n2 ∧ X.U.length = n3 ∧ X.S.length = n4 := ⟨hown.rd.l0, hown.rd.l1, hown.rd.l2, hown.rd.l3, hown.rd.l4⟩
  have m0 : n0 ≤ 4 := by rw [← l0]; exact hX.1.2.1
  have m1 : n1 ≤ 5 := by rw [← l1]; exact hw.2
  have m2 : n2 ≤ 3 := by rw [← l2]; exact ho
  have m3 : n3 ≤ 8 := by rw [← l3]; exact hX.2.2.2.1.2
  have m4 : n4 ≤ 4 := by rw [← l4]; exact hX.num.s.1
  have HXR : Hid (RightX X) := hX
  have HLL : Hid (X.R.length = n0 ∧ X.W.length = n1 ∧ X.O.length = n2 ∧ X.U.length = n3 ∧ X.S.length = n4) := ⟨l0, l1, l2, l3, l4⟩
  have HCAP : Hid (n0 ≤ c0) := hcap
  have HO1 : Hid (OwnX w1 w0.heap.size ⟨q0, n0, c0, q1, n1, c1, q2, n2, c2, q3, n3, c3, q4, n4, c4⟩ X) := hown
  have HB00 : Hid (Below w0.heap.size w0 w1) := hb1
  have HB0 : Hid (Below w1.heap.size w1 w1) := Below.refl _ _
  have oneR := own_oneR X.R
  have oneW := own_oneW X.W
  have oneO := own_oneO X.O
  have oneU := own_oneU X.U
  have oneS := own_oneS X.S
  clear hX hw ho hcap hown hb1 l0 l1 l2 l3 l4 HC
  unfold SetV
  dsimp only
  have hal0 : Below w1.heap.size w1 (w1.alloc (.cells #[.slice q0 n0 c0, .slice q1 n1 c1, .slice q2 n2 c2, .slice q3 n3 c3, .slice q4 n4 c4] 30)) := (Below.refl _ _).alloc (Nat.le_refl _) _
  have HB1 : Hid (Below w1.heap.size w1 (w1.alloc (.cells #[.slice q0 n0 c0, .slice q1 n1 c1, .slice q2 n2 c2, .slice q3 n3 c3, .slice q4 n4 c4] 30))) := HB0.out.alloc HB0.out.size _
  have hz1 := heap_new w1 (.cells #[.slice q0 n0 c0, .slice q1 n1 c1, .slice q2 n2 c2, .slice q3 n3 c3, .slice q4 n4 c4] 30)
  have HXs1 : Hid ((w1.alloc (.cells #[.slice q0 n0 c0, .slice q1 n1 c1, .slice q2 n2 c2, .slice q3 n3 c3, .slice q4 n4 c4] 30)).heap[w1.heap.size]? = some (.cells #[.slice q0 n0 c0, .slice q1 n1 c1, .slice q2 n2 c2, .slice q3 n3 c3, .slice q4 n4 c4] 30)) := by
    have e1 : w1.heap.size = w1.heap.size := by simp
    rw [e1] at hz1
    exact hz1
  clear hz1
  clear HB0
  clear hal0
  have ks1 := boxO_cells HXs1.out
  have hal1 : Below (w1.alloc (.cells #[.slice q0 n0 c0, .slice q1 n1 c1, .slice q2 n2 c2, .slice q3 n3 c3, .slice q4 n4 c4] 30)).heap.size (w1.alloc (.cells #[.slice q0 n0 c0, .slice q1 n1 c1, .slice q2 n2 c2, .slice q3 n3 c3, .slice q4 n4 c4] 30)) ((w1.alloc (.cells #[.slice q0 n0 c0, .slice q1 n1 c1, .slice q2 n2 c2, .slice q3 n3 c3, .slice q4 n4 c4] 30)).alloc (.cells #[.slice q0 n0 c0, .slice q1 n1 c1, .slice q2 n2 c2, .slice q3 n3 c3, .slice q4 n4 c4] 30)) := (Below.refl _ _).alloc (Nat.le_refl _) _
  have HB2 : Hid (Below w1.heap.size w1 ((w1.alloc (.cells #[.slice q0 n0 c0, .slice q1 n1 c1, .slice q2 n2 c2, .slice q3 n3 c3, .slice q4 n4 c4] 30)).alloc (.cells #[.slice q0 n0 c0, .slice q1 n1 c1, .slice q2 n2 c2, .slice q3 n3 c3, .slice q4 n4 c4] 30))) := HB1.out.alloc HB1.out.size _
  have HXs2 : Hid (((w1.alloc (.cells #[.slice q0 n0 c0, .slice q1 n1 c1, .slice q2 n2 c2, .slice q3 n3 c3, .slice q4 n4 c4] 30)).alloc (.cells #[.slice q0 n0 c0, .slice q1 n1 c1, .slice q2 n2 c2, .slice q3 n3 c3, .slice q4 n4 c4] 30)).heap[w1.heap.size]? = some (.cells #[.slice q0 n0 c0, .slice q1 n1 c1, .slice q2 n2 c2, .slice q3 n3 c3, .slice q4 n4 c4] 30)) := row_on HXs1.out hal1
  have hz2 := heap_new (w1.alloc (.cells #[.slice q0 n0 c0, .slice q1 n1 c1, .slice q2 n2 c2, .slice q3 n3 c3, .slice q4 n4 c4] 30)) (.cells #[.slice q0 n0 c0, .slice q1 n1 c1, .slice q2 n2 c2, .slice q3 n3 c3, .slice q4 n4 c4] 30)
  have HXa2 : Hid (((w1.alloc (.cells #[.slice q0 n0 c0, .slice q1 n1 c1, .slice q2 n2 c2, .slice q3 n3 c3, .slice q4 n4 c4] 30)).alloc (.cells #[.slice q0 n0 c0, .slice q1 n1 c1, .slice q2 n2 c2, .slice q3 n3 c3, .slice q4 n4 c4] 30)).heap[w1.heap.size + 1]? = some (.cells #[.slice q0 n0 c0, .slice q1 n1 c1, .slice q2 n2 c2, .slice q3 n3 c3, .slice q4 n4 c4] 30)) := by
    have e1 : (w1.alloc (.cells #[.slice q0 n0 c0, .slice q1 n1 c1, .slice q2 n2 c2, .slice q3 n3 c3, .slice q4 n4 c4] 30)).heap.size = w1.heap.size + 1 := by simp
    rw [e1] at hz2
    exact hz2
  clear hz2
  clear HB1 HXs1
  clear hal1
  have hal2 : Below ((w1.alloc (.cells #[.slice q0 n0 c0, .slice q1 n1 c1, .slice q2 n2 c2, .slice q3 n3 c3, .slice q4 n4 c4] 30)).alloc (.cells #[.slice q0 n0 c0, .slice q1 n1 c1, .slice q2 n2 c2, .slice q3 n3 c3, .slice q4 n4 c4] 30)).heap.size ((w1.alloc (.cells #[.slice q0 n0 c0, .slice q1 n1 c1, .slice q2 n2 c2, .slice q3 n3 c3, .slice q4 n4 c4] 30)).alloc (.cells #[.slice q0 n0 c0, .slice q1 n1 c1, .slice q2 n2 c2, .slice q3 n3 c3, .slice q4 n4 c4] 30)) (((w1.alloc (.cells #[.slice q0 n0 c0, .slice q1 n1 c1, .slice q2 n2 c2, .slice q3 n3 c3, .slice q4 n4 c4] 30)).alloc (.cells #[.slice q0 n0 c0, .slice q1 n1 c1, .slice q2 n2 c2, .slice q3 n3 c3, .slice q4 n4 c4] 30)).alloc (.cells #[] 9)) := (Below.refl _ _).alloc (Nat.le_refl _) _
  have HB3 : Hid (Below w1.heap.size w1 (((w1.alloc (.cells #[.slice q0 n0 c0, .slice q1 n1 c1, .slice q2 n2 c2, .slice q3 n3 c3, .slice q4 n4 c4] 30)).alloc (.cells #[.slice q0 n0 c0, .slice q1 n1 c1, .slice q2 n2 c2, .slice q3 n3 c3, .slice q4 n4 c4] 30)).alloc (.cells #[] 9))) := HB2.out.alloc HB2.out.size _
  have HXs3 : Hid ((((w1.alloc (.cells #[.slice q0 n0 c0, .slice q1 n1 c1, .slice q2 n2 c2, .slice q3 n3 c3, .slice q4 n4 c4] 30)).alloc (.cells #[.slice q0 n0 c0, .slice q1 n1 c1, .slice q2 n2 c2, .slice q3 n3 c3, .slice q4 n4 c4] 30)).alloc (.cells #[] 9)).heap[w1.heap.size]? = some (.cells #[.slice q0 n0 c0, .slice q1 n1 c1, .slice q2 n2 c2, .slice q3 n3 c3, .slice q4 n4 c4] 30)) := row_on HXs2.out hal2
  have HXa3 : Hid ((((w1.alloc (.cells #[.slice q0 n0 c0, .slice q1 n1 c1, .slice q2 n2 c2, .slice q3 n3 c3, .slice q4 n4 c4] 30)).alloc (.cells #[.slice q0 n0 c0, .slice q1 n1 c1, .slice q2 n2 c2, .slice q3 n3 c3, .slice q4 n4 c4] 30)).alloc (.cells #[] 9)).heap[w1.heap.size + 1]? = some (.cells #[.slice q0 n0 c0, .slice q1 n1 c1, .slice q2 n2 c2, .slice q3 n3 c3, .slice q4 n4 c4] 30)) := row_on HXa2.out hal2
  have HNA : Hid ((((w1.alloc (.cells #[.slice q0 n0 c0, .slice q1 n1 c1, .slice q2 n2 c2, .slice q3 n3 c3, .slice q4 n4 c4] 30)).alloc (.cells #[.slice q0 n0 c0, .slice q1 n1 c1, .slice q2 n2 c2, .slice q3 n3 c3, .slice q4 n4 c4] 30)).alloc (.cells #[] 9)).ownsRow w1.heap.size 9 1 (.slice (some ⟨w1.heap.size + 1 + 1, 0, none⟩) 0 0) 0 []) := by
    have h1 := own_new ((w1.alloc (.cells #[.slice q0 n0 c0, .slice q1 n1 c1, .slice q2 n2 c2, .slice q3 n3 c3, .slice q4 n4 c4] 30)).alloc (.cells #[.slice q0 n0 c0, .slice q1 n1 c1, .slice q2 n2 c2, .slice q3 n3 c3, .slice q4 n4 c4] 30)) w1.heap.size 9 1 HB2.out.size
    have e1 : ((w1.alloc (.cells #[.slice q0 n0 c0, .slice q1 n1 c1, .slice q2 n2 c2, .slice q3 n3 c3, .slice q4 n4 c4] 30)).alloc (.cells #[.slice q0 n0 c0, .slice q1 n1 c1, .slice q2 n2 c2, .slice q3 n3 c3, .slice q4 n4 c4] 30)).heap.size = w1.heap.size + 1 + 1 := by simp
    rw [e1] at h1
    exact h1
  clear HB2 HXs2 HXa2
  clear hal2
  have ks3 := boxO_cells HXs3.out
  have hsrc : (((w1.alloc (.cells #[.slice q0 n0 c0, .slice q1 n1 c1, .slice q2 n2 c2, .slice q3 n3 c3, .slice q4 n4 c4] 30)).alloc (.cells #[.slice q0 n0 c0, .slice q1 n1 c1, .slice q2 n2 c2, .slice q3 n3 c3, .slice q4 n4 c4] 30)).alloc (.cells #[] 9)).ownsRow w0.heap.size 9 1 (.slice q4 n4 c4) n4 (S.strV X.S) := (HO1.out.bel HB3.out).o4
  have hbz := HB3.out.size
  go_wp2_with (at_builtin; refine wpList_append_copy rfl _ _ 28 rfl w1.heap.size 9 j4 (.string ⟨#[]⟩) 1 16 Tryd.underlying28 hi4 hz40 hz41 hz42 rfl (by decide) (w1.heap.size + 1 + 1) rfl HNA.out w0.heap.size q4 n4 c4 (S.strV X.S) rfl hsrc oneS (by omega) (by decide) hbz ?_)
  intro v' w2 hown' hg
  obtain ⟨pA, dA, hv'⟩ := own_shapeW hown'
  subst hv'
  have HB4 : Hid (Below w1.heap.size w1 w2) := HB3.out.grown hg HB3.out.size (own_ge14 HNA.out)
  have HXs4 : Hid (w2.heap[w1.heap.size]? = some (.cells #[.slice q0 n0 c0, .slice q1 n1 c1, .slice q2 n2 c2, .slice q3 n3 c3, .slice q4 n4 c4] 30)) := own_gr14 HNA.out hg (by decide) HXs3.out
  have HXa4 : Hid (w2.heap[w1.heap.size + 1]? = some (.cells #[.slice q0 n0 c0, .slice q1 n1 c1, .slice q2 n2 c2, .slice q3 n3 c3, .slice q4 n4 c4] 30)) := own_gr14 HNA.out hg (by decide) HXa3.out
  have HRA4 : Hid (w2.ownsRow w1.heap.size 9 1 (.slice pA n4 dA) (n4) (S.strV (X.S))) := hown'
  clear HB3 HXs3 HXa3
  clear hown' hg hsrc hbz HNA
  clear ks1 ks3
  have hal4 : Below w2.heap.size w2 (w2.alloc (.cells #[.string ⟨#[]⟩] 9)) := (Below.refl _ _).alloc (Nat.le_refl _) _
  have HB5 : Hid (Below w1.heap.size w1 (w2.alloc (.cells #[.string ⟨#[]⟩] 9))) := HB4.out.alloc HB4.out.size _
  have HXs5 : Hid ((w2.alloc (.cells #[.string ⟨#[]⟩] 9)).heap[w1.heap.size]? = some (.cells #[.slice q0 n0 c0, .slice q1 n1 c1, .slice q2 n2 c2, .slice q3 n3 c3, .slice q4 n4 c4] 30)) := row_on HXs4.out hal4
  have HXa5 : Hid ((w2.alloc (.cells #[.string ⟨#[]⟩] 9)).heap[w1.heap.size + 1]? = some (.cells #[.slice q0 n0 c0, .slice q1 n1 c1, .slice q2 n2 c2, .slice q3 n3 c3, .slice q4 n4 c4] 30)) := row_on HXa4.out hal4
  have HRA5 : Hid ((w2.alloc (.cells #[.string ⟨#[]⟩] 9)).ownsRow w1.heap.size 9 1 (.slice pA n4 dA) (n4) (S.strV (X.S))) := HRA4.out.alloc _
  clear HB4 HXs4 HXa4 HRA4
  clear hal4
  have hbz := HB5.out.size
  have hown := HRA5.out
  go_wp2_with (at_builtin; refine wpList_append_own_at _ rfl _ _ 28 rfl w1.heap.size 9 j4 (.string ⟨#[]⟩) 1 16 Tryd.underlying28 hi4 hz40 hz41 hz42 rfl (by decide) _ _ _ rfl hown ⟨w2.heap.size, 0, none⟩ 1 1 [.string ⟨#[]⟩] rfl rfl ?c1 ?c2 ?c3 ?c4 hbz ?_)
  case c1 => exact cell_k14 (by simp)
  case c2 => intro u hu; simp at hu; subst hu; rfl
  case c3 => unfold maxLen; omega
  case c4 => omega
  intro v' w3 hown' hg _ _
  obtain ⟨pA', dA', hv'⟩ := own_shapeW hown'
  subst hv'
  have HB6 : Hid (Below w1.heap.size w1 w3) := HB5.out.grown hg HB5.out.size (own_ge14 hown)
  have HXs6 : Hid (w3.heap[w1.heap.size]? = some (.cells #[.slice q0 n0 c0, .slice q1 n1 c1, .slice q2 n2 c2, .slice q3 n3 c3, .slice q4 n4 c4] 30)) := own_gr14 hown hg (by decide) HXs5.out
  have HXa6 : Hid (w3.heap[w1.heap.size + 1]? = some (.cells #[.slice q0 n0 c0, .slice q1 n1 c1, .slice q2 n2 c2, .slice q3 n3 c3, .slice q4 n4 c4] 30)) := own_gr14 hown hg (by decide) HXa5.out
  have HRA6 : Hid (w3.ownsRow w1.heap.size 9 1 (.slice pA' (n4 + 1) dA') (n4 + 1) (S.strV (X.S ++ [⟨#[]⟩]))) := by show World.ownsRow _ _ _ _ _ _ _; rw [strV_snoc]; exact hown'
  clear HB5 HXs5 HXa5 HRA5
  clear hown hown' hg hbz
  have oA : w1.heap.size + 1 < w3.heap.size := row_lt HXa6.out
  have ka6 := boxO_cells HXa6.out
  have HB7 : Hid (Below w1.heap.size w1 (w3.setCell ⟨w1.heap.size + 1, 4, none⟩ (.slice pA' (n4 + 1) dA'))) := HB6.out.setCell (by show w1.heap.size ≤ w1.heap.size + 1; omega) _
  have HXs7 : Hid ((w3.setCell ⟨w1.heap.size + 1, 4, none⟩ (.slice pA' (n4 + 1) dA')).heap[w1.heap.size]? = some (.cells #[.slice q0 n0 c0, .slice q1 n1 c1, .slice q2 n2 c2, .slice q3 n3 c3, .slice q4 n4 c4] 30)) := set_far HXs6.out (by omega)
  have HXa7 : Hid ((w3.setCell ⟨w1.heap.size + 1, 4, none⟩ (.slice pA' (n4 + 1) dA')).heap[w1.heap.size + 1]? = some (.cells #[.slice q0 n0 c0, .slice q1 n1 c1, .slice q2 n2 c2, .slice q3 n3 c3, .slice pA' (n4 + 1) dA'] 30)) := set_row5 HXa6.out 4 _
  have HRA7 : Hid ((w3.setCell ⟨w1.heap.size + 1, 4, none⟩ (.slice pA' (n4 + 1) dA')).ownsRow w1.heap.size 9 1 (.slice pA' (n4 + 1) dA') (n4 + 1) (S.strV (X.S ++ [⟨#[]⟩]))) := own_set11 HRA6.out (own_far11 HRA6.out HXa6.out (by decide))
  clear HB6 HXs6 HXa6 HRA6
  have ka7 := boxO_cells HXa7.out
  have hal7 : Below (w3.setCell ⟨w1.heap.size + 1, 4, none⟩ (.slice pA' (n4 + 1) dA')).heap.size (w3.setCell ⟨w1.heap.size + 1, 4, none⟩ (.slice pA' (n4 + 1) dA')) ((w3.setCell ⟨w1.heap.size + 1, 4, none⟩ (.slice pA' (n4 + 1) dA')).alloc (.cells #[.slice q0 n0 c0, .slice q1 n1 c1, .slice q2 n2 c2, .slice q3 n3 c3, .slice pA' (n4 + 1) dA'] 30)) := (Below.refl _ _).alloc (Nat.le_refl _) _
  have HB8 : Hid (Below w1.heap.size w1 ((w3.setCell ⟨w1.heap.size + 1, 4, none⟩ (.slice pA' (n4 + 1) dA')).alloc (.cells #[.slice q0 n0 c0, .slice q1 n1 c1, .slice q2 n2 c2, .slice q3 n3 c3, .slice pA' (n4 + 1) dA'] 30))) := HB7.out.alloc HB7.out.size _
  have HXs8 : Hid (((w3.setCell ⟨w1.heap.size + 1, 4, none⟩ (.slice pA' (n4 + 1) dA')).alloc (.cells #[.slice q0 n0 c0, .slice q1 n1 c1, .slice q2 n2 c2, .slice q3 n3 c3, .slice pA' (n4 + 1) dA'] 30)).heap[w1.heap.size]? = some (.cells #[.slice q0 n0 c0, .slice q1 n1 c1, .slice q2 n2 c2, .slice q3 n3 c3, .slice q4 n4 c4] 30)) := row_on HXs7.out hal7
  have HXa8 : Hid (((w3.setCell ⟨w1.heap.size + 1, 4, none⟩ (.slice pA' (n4 + 1) dA')).alloc (.cells #[.slice q0 n0 c0, .slice q1 n1 c1, .slice q2 n2 c2, .slice q3 n3 c3, .slice pA' (n4 + 1) dA'] 30)).heap[w1.heap.size + 1]? = some (.cells #[.slice q0 n0 c0, .slice q1 n1 c1, .slice q2 n2 c2, .slice q3 n3 c3, .slice pA' (n4 + 1) dA'] 30)) := row_on HXa7.out hal7
  have HRA8 : Hid (((w3.setCell ⟨w1.heap.size + 1, 4, none⟩ (.slice pA' (n4 + 1) dA')).alloc (.cells #[.slice q0 n0 c0, .slice q1 n1 c1, .slice q2 n2 c2, .slice q3 n3 c3, .slice pA' (n4 + 1) dA'] 30)).ownsRow w1.heap.size 9 1 (.slice pA' (n4 + 1) dA') (n4 + 1) (S.strV (X.S ++ [⟨#[]⟩]))) := HRA7.out.alloc _
  have hz8 := heap_new (w3.setCell ⟨w1.heap.size + 1, 4, none⟩ (.slice pA' (n4 + 1) dA')) (.cells #[.slice q0 n0 c0, .slice q1 n1 c1, .slice q2 n2 c2, .slice q3 n3 c3, .slice pA' (n4 + 1) dA'] 30)
  have HXb8 : Hid (((w3.setCell ⟨w1.heap.size + 1, 4, none⟩ (.slice pA' (n4 + 1) dA')).alloc (.cells #[.slice q0 n0 c0, .slice q1 n1 c1, .slice q2 n2 c2, .slice q3 n3 c3, .slice pA' (n4 + 1) dA'] 30)).heap[w3.heap.size]? = some (.cells #[.slice q0 n0 c0, .slice q1 n1 c1, .slice q2 n2 c2, .slice q3 n3 c3, .slice pA' (n4 + 1) dA'] 30)) := by
    have e1 : (w3.setCell ⟨w1.heap.size + 1, 4, none⟩ (.slice pA' (n4 + 1) dA')).heap.size = w3.heap.size := by simp
    rw [e1] at hz8
    exact hz8
  clear hz8
  clear HB7 HXs7 HXa7 HRA7
  clear hal7
  have hal8 : Below ((w3.setCell ⟨w1.heap.size + 1, 4, none⟩ (.slice pA' (n4 + 1) dA')).alloc (.cells #[.slice q0 n0 c0, .slice q1 n1 c1, .slice q2 n2 c2, .slice q3 n3 c3, .slice pA' (n4 + 1) dA'] 30)).heap.size ((w3.setCell ⟨w1.heap.size + 1, 4, none⟩ (.slice pA' (n4 + 1) dA')).alloc (.cells #[.slice q0 n0 c0, .slice q1 n1 c1, .slice q2 n2 c2, .slice q3 n3 c3, .slice pA' (n4 + 1) dA'] 30)) (((w3.setCell ⟨w1.heap.size + 1, 4, none⟩ (.slice pA' (n4 + 1) dA')).alloc (.cells #[.slice q0 n0 c0, .slice q1 n1 c1, .slice q2 n2 c2, .slice q3 n3 c3, .slice pA' (n4 + 1) dA'] 30)).alloc (.cells #[] 33)) := (Below.refl _ _).alloc (Nat.le_refl _) _
  have HB9 : Hid (Below w1.heap.size w1 (((w3.setCell ⟨w1.heap.size + 1, 4, none⟩ (.slice pA' (n4 + 1) dA')).alloc (.cells #[.slice q0 n0 c0, .slice q1 n1 c1, .slice q2 n2 c2, .slice q3 n3 c3, .slice pA' (n4 + 1) dA'] 30)).alloc (.cells #[] 33))) := HB8.out.alloc HB8.out.size _
  have HXs9 : Hid ((((w3.setCell ⟨w1.heap.size + 1, 4, none⟩ (.slice pA' (n4 + 1) dA')).alloc (.cells #[.slice q0 n0 c0, .slice q1 n1 c1, .slice q2 n2 c2, .slice q3 n3 c3, .slice pA' (n4 + 1) dA'] 30)).alloc (.cells #[] 33)).heap[w1.heap.size]? = some (.cells #[.slice q0 n0 c0, .slice q1 n1 c1, .slice q2 n2 c2, .slice q3 n3 c3, .slice q4 n4 c4] 30)) := row_on HXs8.out hal8
  have HXa9 : Hid ((((w3.setCell ⟨w1.heap.size + 1, 4, none⟩ (.slice pA' (n4 + 1) dA')).alloc (.cells #[.slice q0 n0 c0, .slice q1 n1 c1, .slice q2 n2 c2, .slice q3 n3 c3, .slice pA' (n4 + 1) dA'] 30)).alloc (.cells #[] 33)).heap[w1.heap.size + 1]? = some (.cells #[.slice q0 n0 c0, .slice q1 n1 c1, .slice q2 n2 c2, .slice q3 n3 c3, .slice pA' (n4 + 1) dA'] 30)) := row_on HXa8.out hal8
  have HXb9 : Hid ((((w3.setCell ⟨w1.heap.size + 1, 4, none⟩ (.slice pA' (n4 + 1) dA')).alloc (.cells #[.slice q0 n0 c0, .slice q1 n1 c1, .slice q2 n2 c2, .slice q3 n3 c3, .slice pA' (n4 + 1) dA'] 30)).alloc (.cells #[] 33)).heap[w3.heap.size]? = some (.cells #[.slice q0 n0 c0, .slice q1 n1 c1, .slice q2 n2 c2, .slice q3 n3 c3, .slice pA' (n4 + 1) dA'] 30)) := row_on HXb8.out hal8
  have HRA9 : Hid ((((w3.setCell ⟨w1.heap.size + 1, 4, none⟩ (.slice pA' (n4 + 1) dA')).alloc (.cells #[.slice q0 n0 c0, .slice q1 n1 c1, .slice q2 n2 c2, .slice q3 n3 c3, .slice pA' (n4 + 1) dA'] 30)).alloc (.cells #[] 33)).ownsRow w1.heap.size 9 1 (.slice pA' (n4 + 1) dA') (n4 + 1) (S.strV (X.S ++ [⟨#[]⟩]))) := HRA8.out.alloc _
  have HNB : Hid ((((w3.setCell ⟨w1.heap.size + 1, 4, none⟩ (.slice pA' (n4 + 1) dA')).alloc (.cells #[.slice q0 n0 c0, .slice q1 n1 c1, .slice q2 n2 c2, .slice q3 n3 c3, .slice pA' (n4 + 1) dA'] 30)).alloc (.cells #[] 33)).ownsRow w1.heap.size 33 3 (.slice (some ⟨w3.heap.size + 1, 0, none⟩) 0 0) 0 []) := by
    have h1 := own_new ((w3.setCell ⟨w1.heap.size + 1, 4, none⟩ (.slice pA' (n4 + 1) dA')).alloc (.cells #[.slice q0 n0 c0, .slice q1 n1 c1, .slice q2 n2 c2, .slice q3 n3 c3, .slice pA' (n4 + 1) dA'] 30)) w1.heap.size 33 3 HB8.out.size
    have e1 : ((w3.setCell ⟨w1.heap.size + 1, 4, none⟩ (.slice pA' (n4 + 1) dA')).alloc (.cells #[.slice q0 n0 c0, .slice q1 n1 c1, .slice q2 n2 c2, .slice q3 n3 c3, .slice pA' (n4 + 1) dA'] 30)).heap.size = w3.heap.size + 1 := by simp
    rw [e1] at h1
    exact h1
  clear HB8 HXs8 HXa8 HXb8 HRA8
  clear hal8
  have ks9 := boxO_cells HXs9.out
  have hsrc : (((w3.setCell ⟨w1.heap.size + 1, 4, none⟩ (.slice pA' (n4 + 1) dA')).alloc (.cells #[.slice q0 n0 c0, .slice q1 n1 c1, .slice q2 n2 c2, .slice q3 n3 c3, .slice pA' (n4 + 1) dA'] 30)).alloc (.cells #[] 33)).ownsRow w0.heap.size 33 3 (.slice q3 n3 c3) n3 (rulV X.U) := (HO1.out.bel HB9.out).o3
  have hbz := HB9.out.size
  go_wp2_with (at_builtin; refine wpList_append_copy rfl _ _ 27 rfl w1.heap.size 33 j3 (.agg #[.int .i64 0, .int .i64 0, .int .i64 0]) 3 24 Tryd.underlying27 hi3 hz30 hz31 hz32 rfl (by decide) (w3.heap.size + 1) rfl HNB.out w0.heap.size q3 n3 c3 (rulV X.U) rfl hsrc oneU (by omega) (by decide) hbz ?_)
  intro v' w4 hown' hg
  obtain ⟨pB, dB, hv'⟩ := own_shapeW hown'
  subst hv'
  have HB10 : Hid (Below w1.heap.size w1 w4) := HB9.out.grown hg HB9.out.size (own_ge14 HNB.out)
  have HXs10 : Hid (w4.heap[w1.heap.size]? = some (.cells #[.slice q0 n0 c0, .slice q1 n1 c1, .slice q2 n2 c2, .slice q3 n3 c3, .slice q4 n4 c4] 30)) := own_gr14 HNB.out hg (by decide) HXs9.out
  have HXa10 : Hid (w4.heap[w1.heap.size + 1]? = some (.cells #[.slice q0 n0 c0, .slice q1 n1 c1, .slice q2 n2 c2, .slice q3 n3 c3, .slice pA' (n4 + 1) dA'] 30)) := own_gr14 HNB.out hg (by decide) HXa9.out
  have HXb10 : Hid (w4.heap[w3.heap.size]? = some (.cells #[.slice q0 n0 c0, .slice q1 n1 c1, .slice q2 n2 c2, .slice q3 n3 c3, .slice pA' (n4 + 1) dA'] 30)) := own_gr14 HNB.out hg (by decide) HXb9.out
  have HRA10 : Hid (w4.ownsRow w1.heap.size 9 1 (.slice pA' (n4 + 1) dA') (n4 + 1) (S.strV (X.S ++ [⟨#[]⟩]))) := own_other11 HRA9.out hg (own_apart11 HRA9.out HNB.out (by decide))
  have HRB10 : Hid (w4.ownsRow w1.heap.size 33 3 (.slice pB n3 dB) (n3) (rulV (X.U))) := hown'
  clear HB9 HXs9 HXa9 HXb9 HRA9
  clear hown' hg hsrc hbz HNB
  clear ka6 ka7 ks9
  have hal10 : Below w4.heap.size w4 (w4.alloc (.cells #[.int .i64 0, .int .i64 0, .int .i64 0] 33)) := (Below.refl _ _).alloc (Nat.le_refl _) _
  have HB11 : Hid (Below w1.heap.size w1 (w4.alloc (.cells #[.int .i64 0, .int .i64 0, .int .i64 0] 33))) := HB10.out.alloc HB10.out.size _
  have HXs11 : Hid ((w4.alloc (.cells #[.int .i64 0, .int .i64 0, .int .i64 0] 33)).heap[w1.heap.size]? = some (.cells #[.slice q0 n0 c0, .slice q1 n1 c1, .slice q2 n2 c2, .slice q3 n3 c3, .slice q4 n4 c4] 30)) := row_on HXs10.out hal10
  have HXa11 : Hid ((w4.alloc (.cells #[.int .i64 0, .int .i64 0, .int .i64 0] 33)).heap[w1.heap.size + 1]? = some (.cells #[.slice q0 n0 c0, .slice q1 n1 c1, .slice q2 n2 c2, .slice q3 n3 c3, .slice pA' (n4 + 1) dA'] 30)) := row_on HXa10.out hal10
  have HXb11 : Hid ((w4.alloc (.cells #[.int .i64 0, .int .i64 0, .int .i64 0] 33)).heap[w3.heap.size]? = some (.cells #[.slice q0 n0 c0, .slice q1 n1 c1, .slice q2 n2 c2, .slice q3 n3 c3, .slice pA' (n4 + 1) dA'] 30)) := row_on HXb10.out hal10
  have HRA11 : Hid ((w4.alloc (.cells #[.int .i64 0, .int .i64 0, .int .i64 0] 33)).ownsRow w1.heap.size 9 1 (.slice pA' (n4 + 1) dA') (n4 + 1) (S.strV (X.S ++ [⟨#[]⟩]))) := HRA10.out.alloc _
  have HRB11 : Hid ((w4.alloc (.cells #[.int .i64 0, .int .i64 0, .int .i64 0] 33)).ownsRow w1.heap.size 33 3 (.slice pB n3 dB) (n3) (rulV (X.U))) := HRB10.out.alloc _
  clear HB10 HXs10 HXa10 HXb10 HRA10 HRB10
  clear hal10
  have hbz := HB11.out.size
  have hown := HRB11.out
  go_wp2_with (at_builtin; refine wpList_append_own_at _ rfl _ _ 27 rfl w1.heap.size 33 j3 (.agg #[.int .i64 0, .int .i64 0, .int .i64 0]) 3 24 Tryd.underlying27 hi3 hz30 hz31 hz32 rfl (by decide) _ _ _ rfl hown ⟨w4.heap.size, 0, none⟩ 1 1 [.int .i64 0, .int .i64 0, .int .i64 0] rfl rfl ?c1 ?c2 ?c3 ?c4 hbz ?_)
  case c1 => exact cell_k14 (by simp)
  case c2 => intro u hu; simp at hu; subst hu; rfl
  case c3 => unfold maxLen; omega
  case c4 => omega
  intro v' w5 hown' hg _ _
  obtain ⟨pB', dB', hv'⟩ := own_shapeW hown'
  subst hv'
  have HB12 : Hid (Below w1.heap.size w1 w5) := HB11.out.grown hg HB11.out.size (own_ge14 hown)
  have HXs12 : Hid (w5.heap[w1.heap.size]? = some (.cells #[.slice q0 n0 c0, .slice q1 n1 c1, .slice q2 n2 c2, .slice q3 n3 c3, .slice q4 n4 c4] 30)) := own_gr14 hown hg (by decide) HXs11.out
  have HXa12 : Hid (w5.heap[w1.heap.size + 1]? = some (.cells #[.slice q0 n0 c0, .slice q1 n1 c1, .slice q2 n2 c2, .slice q3 n3 c3, .slice pA' (n4 + 1) dA'] 30)) := own_gr14 hown hg (by decide) HXa11.out
  have HXb12 : Hid (w5.heap[w3.heap.size]? = some (.cells #[.slice q0 n0 c0, .slice q1 n1 c1, .slice q2 n2 c2, .slice q3 n3 c3, .slice pA' (n4 + 1) dA'] 30)) := own_gr14 hown hg (by decide) HXb11.out
  have HRA12 : Hid (w5.ownsRow w1.heap.size 9 1 (.slice pA' (n4 + 1) dA') (n4 + 1) (S.strV (X.S ++ [⟨#[]⟩]))) := own_other11 HRA11.out hg (own_apart11 HRA11.out hown (by decide))
  have HRB12 : Hid (w5.ownsRow w1.heap.size 33 3 (.slice pB' (n3 + 1) dB') (n3 + 1) (rulV (X.U ++ [(0, 0, 0)]))) := by show World.ownsRow _ _ _ _ _ _ _; rw [rulV_append]; exact hown'
  clear HB11 HXs11 HXa11 HXb11 HRA11 HRB11
  clear hown hown' hg hbz
  have oB : w3.heap.size < w5.heap.size := row_lt HXb12.out
  have kb12 := boxO_cells HXb12.out
  have HB13 : Hid (Below w1.heap.size w1 (w5.setCell ⟨w3.heap.size, 3, none⟩ (.slice pB' (n3 + 1) dB'))) := HB12.out.setCell (by show w1.heap.size ≤ w3.heap.size; omega) _
  have HXs13 : Hid ((w5.setCell ⟨w3.heap.size, 3, none⟩ (.slice pB' (n3 + 1) dB')).heap[w1.heap.size]? = some (.cells #[.slice q0 n0 c0, .slice q1 n1 c1, .slice q2 n2 c2, .slice q3 n3 c3, .slice q4 n4 c4] 30)) := set_far HXs12.out (by omega)
  have HXa13 : Hid ((w5.setCell ⟨w3.heap.size, 3, none⟩ (.slice pB' (n3 + 1) dB')).heap[w1.heap.size + 1]? = some (.cells #[.slice q0 n0 c0, .slice q1 n1 c1, .slice q2 n2 c2, .slice q3 n3 c3, .slice pA' (n4 + 1) dA'] 30)) := set_far HXa12.out (by omega)
  have HXb13 : Hid ((w5.setCell ⟨w3.heap.size, 3, none⟩ (.slice pB' (n3 + 1) dB')).heap[w3.heap.size]? = some (.cells #[.slice q0 n0 c0, .slice q1 n1 c1, .slice q2 n2 c2, .slice pB' (n3 + 1) dB', .slice pA' (n4 + 1) dA'] 30)) := set_row5 HXb12.out 3 _
  have HRA13 : Hid ((w5.setCell ⟨w3.heap.size, 3, none⟩ (.slice pB' (n3 + 1) dB')).ownsRow w1.heap.size 9 1 (.slice pA' (n4 + 1) dA') (n4 + 1) (S.strV (X.S ++ [⟨#[]⟩]))) := own_set11 HRA12.out (own_far11 HRA12.out HXb12.out (by decide))
  have HRB13 : Hid ((w5.setCell ⟨w3.heap.size, 3, none⟩ (.slice pB' (n3 + 1) dB')).ownsRow w1.heap.size 33 3 (.slice pB' (n3 + 1) dB') (n3 + 1) (rulV (X.U ++ [(0, 0, 0)]))) := own_set11 HRB12.out (own_far11 HRB12.out HXb12.out (by decide))
  clear HB12 HXs12 HXa12 HXb12 HRA12 HRB12
  have kb13 := boxO_cells HXb13.out
  have hal13 : Below (w5.setCell ⟨w3.heap.size, 3, none⟩ (.slice pB' (n3 + 1) dB')).heap.size (w5.setCell ⟨w3.heap.size, 3, none⟩ (.slice pB' (n3 + 1) dB')) ((w5.setCell ⟨w3.heap.size, 3, none⟩ (.slice pB' (n3 + 1) dB')).alloc (.cells #[.slice q0 n0 c0, .slice q1 n1 c1, .slice q2 n2 c2, .slice pB' (n3 + 1) dB', .slice pA' (n4 + 1) dA'] 30)) := (Below.refl _ _).alloc (Nat.le_refl _) _
  have HB14 : Hid (Below w1.heap.size w1 ((w5.setCell ⟨w3.heap.size, 3, none⟩ (.slice pB' (n3 + 1) dB')).alloc (.cells #[.slice q0 n0 c0, .slice q1 n1 c1, .slice q2 n2 c2, .slice pB' (n3 + 1) dB', .slice pA' (n4 + 1) dA'] 30))) := HB13.out.alloc HB13.out.size _
  have HXs14 : Hid (((w5.setCell ⟨w3.heap.size, 3, none⟩ (.slice pB' (n3 + 1) dB')).alloc (.cells #[.slice q0 n0 c0, .slice q1 n1 c1, .slice q2 n2 c2, .slice pB' (n3 + 1) dB', .slice pA' (n4 + 1) dA'] 30)).heap[w1.heap.size]? = some (.cells #[.slice q0 n0 c0, .slice q1 n1 c1, .slice q2 n2 c2, .slice q3 n3 c3, .slice q4 n4 c4] 30)) := row_on HXs13.out hal13
  have HXa14 : Hid (((w5.setCell ⟨w3.heap.size, 3, none⟩ (.slice pB' (n3 + 1) dB')).alloc (.cells #[.slice q0 n0 c0, .slice q1 n1 c1, .slice q2 n2 c2, .slice pB' (n3 + 1) dB', .slice pA' (n4 + 1) dA'] 30)).heap[w1.heap.size + 1]? = some (.cells #[.slice q0 n0 c0, .slice q1 n1 c1, .slice q2 n2 c2, .slice q3 n3 c3, .slice pA' (n4 + 1) dA'] 30)) := row_on HXa13.out hal13
  have HXb14 : Hid (((w5.setCell ⟨w3.heap.size, 3, none⟩ (.slice pB' (n3 + 1) dB')).alloc (.cells #[.slice q0 n0 c0, .slice q1 n1 c1, .slice q2 n2 c2, .slice pB' (n3 + 1) dB', .slice pA' (n4 + 1) dA'] 30)).heap[w3.heap.size]? = some (.cells #[.slice q0 n0 c0, .slice q1 n1 c1, .slice q2 n2 c2, .slice pB' (n3 + 1) dB', .slice pA' (n4 + 1) dA'] 30)) := row_on HXb13.out hal13
  have HRA14 : Hid (((w5.setCell ⟨w3.heap.size, 3, none⟩ (.slice pB' (n3 + 1) dB')).alloc (.cells #[.slice q0 n0 c0, .slice q1 n1 c1, .slice q2 n2 c2, .slice pB' (n3 + 1) dB', .slice pA' (n4 + 1) dA'] 30)).ownsRow w1.heap.size 9 1 (.slice pA' (n4 + 1) dA') (n4 + 1) (S.strV (X.S ++ [⟨#[]⟩]))) := HRA13.out.alloc _
  have HRB14 : Hid (((w5.setCell ⟨w3.heap.size, 3, none⟩ (.slice pB' (n3 + 1) dB')).alloc (.cells #[.slice q0 n0 c0, .slice q1 n1 c1, .slice q2 n2 c2, .slice pB' (n3 + 1) dB', .slice pA' (n4 + 1) dA'] 30)).ownsRow w1.heap.size 33 3 (.slice pB' (n3 + 1) dB') (n3 + 1) (rulV (X.U ++ [(0, 0, 0)]))) := HRB13.out.alloc _
  have hz14 := heap_new (w5.setCell ⟨w3.heap.size, 3, none⟩ (.slice pB' (n3 + 1) dB')) (.cells #[.slice q0 n0 c0, .slice q1 n1 c1, .slice q2 n2 c2, .slice pB' (n3 + 1) dB', .slice pA' (n4 + 1) dA'] 30)
  have HXc14 : Hid (((w5.setCell ⟨w3.heap.size, 3, none⟩ (.slice pB' (n3 + 1) dB')).alloc (.cells #[.slice q0 n0 c0, .slice q1 n1 c1, .slice q2 n2 c2, .slice pB' (n3 + 1) dB', .slice pA' (n4 + 1) dA'] 30)).heap[w5.heap.size]? = some (.cells #[.slice q0 n0 c0, .slice q1 n1 c1, .slice q2 n2 c2, .slice pB' (n3 + 1) dB', .slice pA' (n4 + 1) dA'] 30)) := by
    have e1 : (w5.setCell ⟨w3.heap.size, 3, none⟩ (.slice pB' (n3 + 1) dB')).heap.size = w5.heap.size := by simp
    rw [e1] at hz14
    exact hz14
  clear hz14
  clear HB13 HXs13 HXa13 HXb13 HRA13 HRB13
  clear hal13
  have hal14 : Below ((w5.setCell ⟨w3.heap.size, 3, none⟩ (.slice pB' (n3 + 1) dB')).alloc (.cells #[.slice q0 n0 c0, .slice q1 n1 c1, .slice q2 n2 c2, .slice pB' (n3 + 1) dB', .slice pA' (n4 + 1) dA'] 30)).heap.size ((w5.setCell ⟨w3.heap.size, 3, none⟩ (.slice pB' (n3 + 1) dB')).alloc (.cells #[.slice q0 n0 c0, .slice q1 n1 c1, .slice q2 n2 c2, .slice pB' (n3 + 1) dB', .slice pA' (n4 + 1) dA'] 30)) (((w5.setCell ⟨w3.heap.size, 3, none⟩ (.slice pB' (n3 + 1) dB')).alloc (.cells #[.slice q0 n0 c0, .slice q1 n1 c1, .slice q2 n2 c2, .slice pB' (n3 + 1) dB', .slice pA' (n4 + 1) dA'] 30)).alloc (.cells #[] 35)) := (Below.refl _ _).alloc (Nat.le_refl _) _
  have HB15 : Hid (Below w1.heap.size w1 (((w5.setCell ⟨w3.heap.size, 3, none⟩ (.slice pB' (n3 + 1) dB')).alloc (.cells #[.slice q0 n0 c0, .slice q1 n1 c1, .slice q2 n2 c2, .slice pB' (n3 + 1) dB', .slice pA' (n4 + 1) dA'] 30)).alloc (.cells #[] 35))) := HB14.out.alloc HB14.out.size _
  have HXs15 : Hid ((((w5.setCell ⟨w3.heap.size, 3, none⟩ (.slice pB' (n3 + 1) dB')).alloc (.cells #[.slice q0 n0 c0, .slice q1 n1 c1, .slice q2 n2 c2, .slice pB' (n3 + 1) dB', .slice pA' (n4 + 1) dA'] 30)).alloc (.cells #[] 35)).heap[w1.heap.size]? = some (.cells #[.slice q0 n0 c0, .slice q1 n1 c1, .slice q2 n2 c2, .slice q3 n3 c3, .slice q4 n4 c4] 30)) := row_on HXs14.out hal14
  have HXa15 : Hid ((((w5.setCell ⟨w3.heap.size, 3, none⟩ (.slice pB' (n3 + 1) dB')).alloc (.cells #[.slice q0 n0 c0, .slice q1 n1 c1, .slice q2 n2 c2, .slice pB' (n3 + 1) dB', .slice pA' (n4 + 1) dA'] 30)).alloc (.cells #[] 35)).heap[w1.heap.size + 1]? = some (.cells #[.slice q0 n0 c0, .slice q1 n1 c1, .slice q2 n2 c2, .slice q3 n3 c3, .slice pA' (n4 + 1) dA'] 30)) := row_on HXa14.out hal14
  have HXb15 : Hid ((((w5.setCell ⟨w3.heap.size, 3, none⟩ (.slice pB' (n3 + 1) dB')).alloc (.cells #[.slice q0 n0 c0, .slice q1 n1 c1, .slice q2 n2 c2, .slice pB' (n3 + 1) dB', .slice pA' (n4 + 1) dA'] 30)).alloc (.cells #[] 35)).heap[w3.heap.size]? = some (.cells #[.slice q0 n0 c0, .slice q1 n1 c1, .slice q2 n2 c2, .slice pB' (n3 + 1) dB', .slice pA' (n4 + 1) dA'] 30)) := row_on HXb14.out hal14
  have HXc15 : Hid ((((w5.setCell ⟨w3.heap.size, 3, none⟩ (.slice pB' (n3 + 1) dB')).alloc (.cells #[.slice q0 n0 c0, .slice q1 n1 c1, .slice q2 n2 c2, .slice pB' (n3 + 1) dB', .slice pA' (n4 + 1) dA'] 30)).alloc (.cells #[] 35)).heap[w5.heap.size]? = some (.cells #[.slice q0 n0 c0, .slice q1 n1 c1, .slice q2 n2 c2, .slice pB' (n3 + 1) dB', .slice pA' (n4 + 1) dA'] 30)) := row_on HXc14.out hal14
  have HRA15 : Hid ((((w5.setCell ⟨w3.heap.size, 3, none⟩ (.slice pB' (n3 + 1) dB')).alloc (.cells #[.slice q0 n0 c0, .slice q1 n1 c1, .slice q2 n2 c2, .slice pB' (n3 + 1) dB', .slice pA' (n4 + 1) dA'] 30)).alloc (.cells #[] 35)).ownsRow w1.heap.size 9 1 (.slice pA' (n4 + 1) dA') (n4 + 1) (S.strV (X.S ++ [⟨#[]⟩]))) := HRA14.out.alloc _
  have HRB15 : Hid ((((w5.setCell ⟨w3.heap.size, 3, none⟩ (.slice pB' (n3 + 1) dB')).alloc (.cells #[.slice q0 n0 c0, .slice q1 n1 c1, .slice q2 n2 c2, .slice pB' (n3 + 1) dB', .slice pA' (n4 + 1) dA'] 30)).alloc (.cells #[] 35)).ownsRow w1.heap.size 33 3 (.slice pB' (n3 + 1) dB') (n3 + 1) (rulV (X.U ++ [(0, 0, 0)]))) := HRB14.out.alloc _
  have HNC : Hid ((((w5.setCell ⟨w3.heap.size, 3, none⟩ (.slice pB' (n3 + 1) dB')).alloc (.cells #[.slice q0 n0 c0, .slice q1 n1 c1, .slice q2 n2 c2, .slice pB' (n3 + 1) dB', .slice pA' (n4 + 1) dA'] 30)).alloc (.cells #[] 35)).ownsRow w1.heap.size 35 5 (.slice (some ⟨w5.heap.size + 1, 0, none⟩) 0 0) 0 []) := by
    have h1 := own_new ((w5.setCell ⟨w3.heap.size, 3, none⟩ (.slice pB' (n3 + 1) dB')).alloc (.cells #[.slice q0 n0 c0, .slice q1 n1 c1, .slice q2 n2 c2, .slice pB' (n3 + 1) dB', .slice pA' (n4 + 1) dA'] 30)) w1.heap.size 35 5 HB14.out.size
    have e1 : ((w5.setCell ⟨w3.heap.size, 3, none⟩ (.slice pB' (n3 + 1) dB')).alloc (.cells #[.slice q0 n0 c0, .slice q1 n1 c1, .slice q2 n2 c2, .slice pB' (n3 + 1) dB', .slice pA' (n4 + 1) dA'] 30)).heap.size = w5.heap.size + 1 := by simp
    rw [e1] at h1
    exact h1
  clear HB14 HXs14 HXa14 HXb14 HXc14 HRA14 HRB14
  clear hal14
  have ks15 := boxO_cells HXs15.out
  have hsrc : (((w5.setCell ⟨w3.heap.size, 3, none⟩ (.slice pB' (n3 + 1) dB')).alloc (.cells #[.slice q0 n0 c0, .slice q1 n1 c1, .slice q2 n2 c2, .slice pB' (n3 + 1) dB', .slice pA' (n4 + 1) dA'] 30)).alloc (.cells #[] 35)).ownsRow w0.heap.size 35 5 (.slice q2 n2 c2) n2 (prtV X.O) := (HO1.out.bel HB15.out).o2
  have hbz := HB15.out.size
  go_wp2_with (at_builtin; refine wpList_append_copy rfl _ _ 26 rfl w1.heap.size 35 j2 (.agg #[.int .i64 0, .int .i64 0, .int .i64 0, .int .i64 0, .int .i64 0]) 5 40 Tryd.underlying26 hi2 hz20 hz21 hz22 rfl (by decide) (w5.heap.size + 1) rfl HNC.out w0.heap.size q2 n2 c2 (prtV X.O) rfl hsrc oneO (by omega) (by decide) hbz ?_)
  intro v' w6 hown' hg
  obtain ⟨pC, dC, hv'⟩ := own_shapeW hown'
  subst hv'
  have HB16 : Hid (Below w1.heap.size w1 w6) := HB15.out.grown hg HB15.out.size (own_ge14 HNC.out)
  have HXs16 : Hid (w6.heap[w1.heap.size]? = some (.cells #[.slice q0 n0 c0, .slice q1 n1 c1, .slice q2 n2 c2, .slice q3 n3 c3, .slice q4 n4 c4] 30)) := own_gr14 HNC.out hg (by decide) HXs15.out
  have HXa16 : Hid (w6.heap[w1.heap.size + 1]? = some (.cells #[.slice q0 n0 c0, .slice q1 n1 c1, .slice q2 n2 c2, .slice q3 n3 c3, .slice pA' (n4 + 1) dA'] 30)) := own_gr14 HNC.out hg (by decide) HXa15.out
  have HXb16 : Hid (w6.heap[w3.heap.size]? = some (.cells #[.slice q0 n0 c0, .slice q1 n1 c1, .slice q2 n2 c2, .slice pB' (n3 + 1) dB', .slice pA' (n4 + 1) dA'] 30)) := own_gr14 HNC.out hg (by decide) HXb15.out
  have HXc16 : Hid (w6.heap[w5.heap.size]? = some (.cells #[.slice q0 n0 c0, .slice q1 n1 c1, .slice q2 n2 c2, .slice pB' (n3 + 1) dB', .slice pA' (n4 + 1) dA'] 30)) := own_gr14 HNC.out hg (by decide) HXc15.out
  have HRA16 : Hid (w6.ownsRow w1.heap.size 9 1 (.slice pA' (n4 + 1) dA') (n4 + 1) (S.strV (X.S ++ [⟨#[]⟩]))) := own_other11 HRA15.out hg (own_apart11 HRA15.out HNC.out (by decide))
  have HRB16 : Hid (w6.ownsRow w1.heap.size 33 3 (.slice pB' (n3 + 1) dB') (n3 + 1) (rulV (X.U ++ [(0, 0, 0)]))) := own_other11 HRB15.out hg (own_apart11 HRB15.out HNC.out (by decide))
  have HRC16 : Hid (w6.ownsRow w1.heap.size 35 5 (.slice pC n2 dC) (n2) (prtV (X.O))) := hown'
  clear HB15 HXs15 HXa15 HXb15 HXc15 HRA15 HRB15
  clear hown' hg hsrc hbz HNC
  clear kb12 kb13 ks15
  have hal16 : Below w6.heap.size w6 (w6.alloc (.cells #[.int .i64 0, .int .i64 0, .int .i64 0, .int .i64 0, .int .i64 0] 35)) := (Below.refl _ _).alloc (Nat.le_refl _) _
  have HB17 : Hid (Below w1.heap.size w1 (w6.alloc (.cells #[.int .i64 0, .int .i64 0, .int .i64 0, .int .i64 0, .int .i64 0] 35))) := HB16.out.alloc HB16.out.size _
  have HXs17 : Hid ((w6.alloc (.cells #[.int .i64 0, .int .i64 0, .int .i64 0, .int .i64 0, .int .i64 0] 35)).heap[w1.heap.size]? = some (.cells #[.slice q0 n0 c0, .slice q1 n1 c1, .slice q2 n2 c2, .slice q3 n3 c3, .slice q4 n4 c4] 30)) := row_on HXs16.out hal16
  have HXa17 : Hid ((w6.alloc (.cells #[.int .i64 0, .int .i64 0, .int .i64 0, .int .i64 0, .int .i64 0] 35)).heap[w1.heap.size + 1]? = some (.cells #[.slice q0 n0 c0, .slice q1 n1 c1, .slice q2 n2 c2, .slice q3 n3 c3, .slice pA' (n4 + 1) dA'] 30)) := row_on HXa16.out hal16
  have HXb17 : Hid ((w6.alloc (.cells #[.int .i64 0, .int .i64 0, .int .i64 0, .int .i64 0, .int .i64 0] 35)).heap[w3.heap.size]? = some (.cells #[.slice q0 n0 c0, .slice q1 n1 c1, .slice q2 n2 c2, .slice pB' (n3 + 1) dB', .slice pA' (n4 + 1) dA'] 30)) := row_on HXb16.out hal16
  have HXc17 : Hid ((w6.alloc (.cells #[.int .i64 0, .int .i64 0, .int .i64 0, .int .i64 0, .int .i64 0] 35)).heap[w5.heap.size]? = some (.cells #[.slice q0 n0 c0, .slice q1 n1 c1, .slice q2 n2 c2, .slice pB' (n3 + 1) dB', .slice pA' (n4 + 1) dA'] 30)) := row_on HXc16.out hal16
  have HRA17 : Hid ((w6.alloc (.cells #[.int .i64 0, .int .i64 0, .int .i64 0, .int .i64 0, .int .i64 0] 35)).ownsRow w1.heap.size 9 1 (.slice pA' (n4 + 1) dA') (n4 + 1) (S.strV (X.S ++ [⟨#[]⟩]))) := HRA16.out.alloc _
  have HRB17 : Hid ((w6.alloc (.cells #[.int .i64 0, .int .i64 0, .int .i64 0, .int .i64 0, .int .i64 0] 35)).ownsRow w1.heap.size 33 3 (.slice pB' (n3 + 1) dB') (n3 + 1) (rulV (X.U ++ [(0, 0, 0)]))) := HRB16.out.alloc _
  have HRC17 : Hid ((w6.alloc (.cells #[.int .i64 0, .int .i64 0, .int .i64 0, .int .i64 0, .int .i64 0] 35)).ownsRow w1.heap.size 35 5 (.slice pC n2 dC) (n2) (prtV (X.O))) := HRC16.out.alloc _
  clear HB16 HXs16 HXa16 HXb16 HXc16 HRA16 HRB16 HRC16
  clear hal16
  have hbz := HB17.out.size
  have hown := HRC17.out
  go_wp2_with (at_builtin; refine wpList_append_own_at _ rfl _ _ 26 rfl w1.heap.size 35 j2 (.agg #[.int .i64 0, .int .i64 0, .int .i64 0, .int .i64 0, .int .i64 0]) 5 40 Tryd.underlying26 hi2 hz20 hz21 hz22 rfl (by decide) _ _ _ rfl hown ⟨w6.heap.size, 0, none⟩ 1 1 [.int .i64 0, .int .i64 0, .int .i64 0, .int .i64 0, .int .i64 0] rfl rfl ?c1 ?c2 ?c3 ?c4 hbz ?_)
  case c1 => exact cell_k14 (by simp)
  case c2 => intro u hu; simp at hu; subst hu; rfl
  case c3 => unfold maxLen; omega
  case c4 => omega
  intro v' w7 hown' hg _ _
  obtain ⟨pC', dC', hv'⟩ := own_shapeW hown'
  subst hv'
  have HB18 : Hid (Below w1.heap.size w1 w7) := HB17.out.grown hg HB17.out.size (own_ge14 hown)
  have HXs18 : Hid (w7.heap[w1.heap.size]? = some (.cells #[.slice q0 n0 c0, .slice q1 n1 c1, .slice q2 n2 c2, .slice q3 n3 c3, .slice q4 n4 c4] 30)) := own_gr14 hown hg (by decide) HXs17.out
  have HXa18 : Hid (w7.heap[w1.heap.size + 1]? = some (.cells #[.slice q0 n0 c0, .slice q1 n1 c1, .slice q2 n2 c2, .slice q3 n3 c3, .slice pA' (n4 + 1) dA'] 30)) := own_gr14 hown hg (by decide) HXa17.out
  have HXb18 : Hid (w7.heap[w3.heap.size]? = some (.cells #[.slice q0 n0 c0, .slice q1 n1 c1, .slice q2 n2 c2, .slice pB' (n3 + 1) dB', .slice pA' (n4 + 1) dA'] 30)) := own_gr14 hown hg (by decide) HXb17.out
  have HXc18 : Hid (w7.heap[w5.heap.size]? = some (.cells #[.slice q0 n0 c0, .slice q1 n1 c1, .slice q2 n2 c2, .slice pB' (n3 + 1) dB', .slice pA' (n4 + 1) dA'] 30)) := own_gr14 hown hg (by decide) HXc17.out
  have HRA18 : Hid (w7.ownsRow w1.heap.size 9 1 (.slice pA' (n4 + 1) dA') (n4 + 1) (S.strV (X.S ++ [⟨#[]⟩]))) := own_other11 HRA17.out hg (own_apart11 HRA17.out hown (by decide))
  have HRB18 : Hid (w7.ownsRow w1.heap.size 33 3 (.slice pB' (n3 + 1) dB') (n3 + 1) (rulV (X.U ++ [(0, 0, 0)]))) := own_other11 HRB17.out hg (own_apart11 HRB17.out hown (by decide))
  have HRC18 : Hid (w7.ownsRow w1.heap.size 35 5 (.slice pC' (n2 + 1) dC') (n2 + 1) (prtV (X.O ++ [(0, 0, 0, 0, 0)]))) := by show World.ownsRow _ _ _ _ _ _ _; rw [prtV_append]; exact hown'
  clear HB17 HXs17 HXa17 HXb17 HXc17 HRA17 HRB17 HRC17
  clear hown hown' hg hbz
  have oC : w5.heap.size < w7.heap.size := row_lt HXc18.out
  have kc18 := boxO_cells HXc18.out
  have HB19 : Hid (Below w1.heap.size w1 (w7.setCell ⟨w5.heap.size, 2, none⟩ (.slice pC' (n2 + 1) dC'))) := HB18.out.setCell (by show w1.heap.size ≤ w5.heap.size; omega) _
  have HXs19 : Hid ((w7.setCell ⟨w5.heap.size, 2, none⟩ (.slice pC' (n2 + 1) dC')).heap[w1.heap.size]? = some (.cells #[.slice q0 n0 c0, .slice q1 n1 c1, .slice q2 n2 c2, .slice q3 n3 c3, .slice q4 n4 c4] 30)) := set_far HXs18.out (by omega)
  have HXa19 : Hid ((w7.setCell ⟨w5.heap.size, 2, none⟩ (.slice pC' (n2 + 1) dC')).heap[w1.heap.size + 1]? = some (.cells #[.slice q0 n0 c0, .slice q1 n1 c1, .slice q2 n2 c2, .slice q3 n3 c3, .slice pA' (n4 + 1) dA'] 30)) := set_far HXa18.out (by omega)
  have HXb19 : Hid ((w7.setCell ⟨w5.heap.size, 2, none⟩ (.slice pC' (n2 + 1) dC')).heap[w3.heap.size]? = some (.cells #[.slice q0 n0 c0, .slice q1 n1 c1, .slice q2 n2 c2, .slice pB' (n3 + 1) dB', .slice pA' (n4 + 1) dA'] 30)) := set_far HXb18.out (by omega)
  have HXc19 : Hid ((w7.setCell ⟨w5.heap.size, 2, none⟩ (.slice pC' (n2 + 1) dC')).heap[w5.heap.size]? = some (.cells #[.slice q0 n0 c0, .slice q1 n1 c1, .slice pC' (n2 + 1) dC', .slice pB' (n3 + 1) dB', .slice pA' (n4 + 1) dA'] 30)) := set_row5 HXc18.out 2 _
  have HRA19 : Hid ((w7.setCell ⟨w5.heap.size, 2, none⟩ (.slice pC' (n2 + 1) dC')).ownsRow w1.heap.size 9 1 (.slice pA' (n4 + 1) dA') (n4 + 1) (S.strV (X.S ++ [⟨#[]⟩]))) := own_set11 HRA18.out (own_far11 HRA18.out HXc18.out (by decide))
  have HRB19 : Hid ((w7.setCell ⟨w5.heap.size, 2, none⟩ (.slice pC' (n2 + 1) dC')).ownsRow w1.heap.size 33 3 (.slice pB' (n3 + 1) dB') (n3 + 1) (rulV (X.U ++ [(0, 0, 0)]))) := own_set11 HRB18.out (own_far11 HRB18.out HXc18.out (by decide))
  have HRC19 : Hid ((w7.setCell ⟨w5.heap.size, 2, none⟩ (.slice pC' (n2 + 1) dC')).ownsRow w1.heap.size 35 5 (.slice pC' (n2 + 1) dC') (n2 + 1) (prtV (X.O ++ [(0, 0, 0, 0, 0)]))) := own_set11 HRC18.out (own_far11 HRC18.out HXc18.out (by decide))
  clear HB18 HXs18 HXa18 HXb18 HXc18 HRA18 HRB18 HRC18
  go_upto_region 10 with fail
  clear kc18
  obtain ⟨x1, hxx1⟩ : ∃ x, (w7.setCell ⟨w5.heap.size, 2, none⟩ (.slice pC' (n2 + 1) dC')) = x := ⟨_, rfl⟩
  rw [hxx1] at HB19 HXs19 HXa19 HXb19 HXc19 HRA19 HRB19 HRC19 ⊢
  clear hxx1
  have oD : w5.heap.size < x1.heap.size := row_lt HXc19.out
  have kc19 := boxO_cells HXc19.out
  have hal19 : Below x1.heap.size x1 (x1.alloc (.cells #[.slice q0 n0 c0, .slice q1 n1 c1, .slice pC' (n2 + 1) dC', .slice pB' (n3 + 1) dB', .slice pA' (n4 + 1) dA'] 30)) := (Below.refl _ _).alloc (Nat.le_refl _) _
  have HB20 : Hid (Below w1.heap.size w1 (x1.alloc (.cells #[.slice q0 n0 c0, .slice q1 n1 c1, .slice pC' (n2 + 1) dC', .slice pB' (n3 + 1) dB', .slice pA' (n4 + 1) dA'] 30))) := HB19.out.alloc HB19.out.size _
  have HXs20 : Hid ((x1.alloc (.cells #[.slice q0 n0 c0, .slice q1 n1 c1, .slice pC' (n2 + 1) dC', .slice pB' (n3 + 1) dB', .slice pA' (n4 + 1) dA'] 30)).heap[w1.heap.size]? = some (.cells #[.slice q0 n0 c0, .slice q1 n1 c1, .slice q2 n2 c2, .slice q3 n3 c3, .slice q4 n4 c4] 30)) := row_on HXs19.out hal19
  have HXa20 : Hid ((x1.alloc (.cells #[.slice q0 n0 c0, .slice q1 n1 c1, .slice pC' (n2 + 1) dC', .slice pB' (n3 + 1) dB', .slice pA' (n4 + 1) dA'] 30)).heap[w1.heap.size + 1]? = some (.cells #[.slice q0 n0 c0, .slice q1 n1 c1, .slice q2 n2 c2, .slice q3 n3 c3, .slice pA' (n4 + 1) dA'] 30)) := row_on HXa19.out hal19
  have HXb20 : Hid ((x1.alloc (.cells #[.slice q0 n0 c0, .slice q1 n1 c1, .slice pC' (n2 + 1) dC', .slice pB' (n3 + 1) dB', .slice pA' (n4 + 1) dA'] 30)).heap[w3.heap.size]? = some (.cells #[.slice q0 n0 c0, .slice q1 n1 c1, .slice q2 n2 c2, .slice pB' (n3 + 1) dB', .slice pA' (n4 + 1) dA'] 30)) := row_on HXb19.out hal19
  have HXc20 : Hid ((x1.alloc (.cells #[.slice q0 n0 c0, .slice q1 n1 c1, .slice pC' (n2 + 1) dC', .slice pB' (n3 + 1) dB', .slice pA' (n4 + 1) dA'] 30)).heap[w5.heap.size]? = some (.cells #[.slice q0 n0 c0, .slice q1 n1 c1, .slice pC' (n2 + 1) dC', .slice pB' (n3 + 1) dB', .slice pA' (n4 + 1) dA'] 30)) := row_on HXc19.out hal19
  have HRA20 : Hid ((x1.alloc (.cells #[.slice q0 n0 c0, .slice q1 n1 c1, .slice pC' (n2 + 1) dC', .slice pB' (n3 + 1) dB', .slice pA' (n4 + 1) dA'] 30)).ownsRow w1.heap.size 9 1 (.slice pA' (n4 + 1) dA') (n4 + 1) (S.strV (X.S ++ [⟨#[]⟩]))) := HRA19.out.alloc _
  have HRB20 : Hid ((x1.alloc (.cells #[.slice q0 n0 c0, .slice q1 n1 c1, .slice pC' (n2 + 1) dC', .slice pB' (n3 + 1) dB', .slice pA' (n4 + 1) dA'] 30)).ownsRow w1.heap.size 33 3 (.slice pB' (n3 + 1) dB') (n3 + 1) (rulV (X.U ++ [(0, 0, 0)]))) := HRB19.out.alloc _
  have HRC20 : Hid ((x1.alloc (.cells #[.slice q0 n0 c0, .slice q1 n1 c1, .slice pC' (n2 + 1) dC', .slice pB' (n3 + 1) dB', .slice pA' (n4 + 1) dA'] 30)).ownsRow w1.heap.size 35 5 (.slice pC' (n2 + 1) dC') (n2 + 1) (prtV (X.O ++ [(0, 0, 0, 0, 0)]))) := HRC19.out.alloc _
  have hz20 := heap_new x1 (.cells #[.slice q0 n0 c0, .slice q1 n1 c1, .slice pC' (n2 + 1) dC', .slice pB' (n3 + 1) dB', .slice pA' (n4 + 1) dA'] 30)
  have HXd20 : Hid ((x1.alloc (.cells #[.slice q0 n0 c0, .slice q1 n1 c1, .slice pC' (n2 + 1) dC', .slice pB' (n3 + 1) dB', .slice pA' (n4 + 1) dA'] 30)).heap[x1.heap.size]? = some (.cells #[.slice q0 n0 c0, .slice q1 n1 c1, .slice pC' (n2 + 1) dC', .slice pB' (n3 + 1) dB', .slice pA' (n4 + 1) dA'] 30)) := by
    have e1 : x1.heap.size = x1.heap.size := by simp
    rw [e1] at hz20
    exact hz20
  clear hz20
  clear HB19 HXs19 HXa19 HXb19 HXc19 HRA19 HRB19 HRC19
  clear hal19
  go_upto_region 11 with fail
  clear kc19
  obtain ⟨x5, hxx5⟩ : ∃ x, (x1.alloc (.cells #[.slice q0 n0 c0, .slice q1 n1 c1, .slice pC' (n2 + 1) dC', .slice pB' (n3 + 1) dB', .slice pA' (n4 + 1) dA'] 30)) = x := ⟨_, rfl⟩
  rw [hxx5] at HB20 HXs20 HXa20 HXb20 HXc20 HXd20 HRA20 HRB20 HRC20 ⊢
  clear hxx5
  have oD5 : x1.heap.size < x5.heap.size := row_lt HXd20.out
  have kdz := boxO_cells (show (x5.alloc (.cells #[] 37)).heap[x1.heap.size]? = some (.cells #[.slice q0 n0 c0, .slice q1 n1 c1, .slice pC' (n2 + 1) dC', .slice pB' (n3 + 1) dB', .slice pA' (n4 + 1) dA'] 30) from row_on HXd20.out ((Below.refl _ _).alloc (Nat.le_refl _) _))
  have HB21 : Hid (Below w1.heap.size w1 (x5.setCell ⟨x1.heap.size, 1, none⟩ (.slice (some ⟨x5.heap.size, 0, none⟩) 0 0))) := HB20.out.setCell (by show w1.heap.size ≤ x1.heap.size; omega) _
  have HXs21 : Hid ((x5.setCell ⟨x1.heap.size, 1, none⟩ (.slice (some ⟨x5.heap.size, 0, none⟩) 0 0)).heap[w1.heap.size]? = some (.cells #[.slice q0 n0 c0, .slice q1 n1 c1, .slice q2 n2 c2, .slice q3 n3 c3, .slice q4 n4 c4] 30)) := set_far HXs20.out (by omega)
  have HXa21 : Hid ((x5.setCell ⟨x1.heap.size, 1, none⟩ (.slice (some ⟨x5.heap.size, 0, none⟩) 0 0)).heap[w1.heap.size + 1]? = some (.cells #[.slice q0 n0 c0, .slice q1 n1 c1, .slice q2 n2 c2, .slice q3 n3 c3, .slice pA' (n4 + 1) dA'] 30)) := set_far HXa20.out (by omega)
  have HXb21 : Hid ((x5.setCell ⟨x1.heap.size, 1, none⟩ (.slice (some ⟨x5.heap.size, 0, none⟩) 0 0)).heap[w3.heap.size]? = some (.cells #[.slice q0 n0 c0, .slice q1 n1 c1, .slice q2 n2 c2, .slice pB' (n3 + 1) dB', .slice pA' (n4 + 1) dA'] 30)) := set_far HXb20.out (by omega)
  have HXc21 : Hid ((x5.setCell ⟨x1.heap.size, 1, none⟩ (.slice (some ⟨x5.heap.size, 0, none⟩) 0 0)).heap[w5.heap.size]? = some (.cells #[.slice q0 n0 c0, .slice q1 n1 c1, .slice pC' (n2 + 1) dC', .slice pB' (n3 + 1) dB', .slice pA' (n4 + 1) dA'] 30)) := set_far HXc20.out (by omega)
  have HXd21 : Hid ((x5.setCell ⟨x1.heap.size, 1, none⟩ (.slice (some ⟨x5.heap.size, 0, none⟩) 0 0)).heap[x1.heap.size]? = some (.cells #[.slice q0 n0 c0, .slice (some ⟨x5.heap.size, 0, none⟩) 0 0, .slice pC' (n2 + 1) dC', .slice pB' (n3 + 1) dB', .slice pA' (n4 + 1) dA'] 30)) := set_row5 HXd20.out 1 _
  have HRA21 : Hid ((x5.setCell ⟨x1.heap.size, 1, none⟩ (.slice (some ⟨x5.heap.size, 0, none⟩) 0 0)).ownsRow w1.heap.size 9 1 (.slice pA' (n4 + 1) dA') (n4 + 1) (S.strV (X.S ++ [⟨#[]⟩]))) := own_set11 HRA20.out (own_far11 HRA20.out HXd20.out (by decide))
  have HRB21 : Hid ((x5.setCell ⟨x1.heap.size, 1, none⟩ (.slice (some ⟨x5.heap.size, 0, none⟩) 0 0)).ownsRow w1.heap.size 33 3 (.slice pB' (n3 + 1) dB') (n3 + 1) (rulV (X.U ++ [(0, 0, 0)]))) := own_set11 HRB20.out (own_far11 HRB20.out HXd20.out (by decide))
  have HRC21 : Hid ((x5.setCell ⟨x1.heap.size, 1, none⟩ (.slice (some ⟨x5.heap.size, 0, none⟩) 0 0)).ownsRow w1.heap.size 35 5 (.slice pC' (n2 + 1) dC') (n2 + 1) (prtV (X.O ++ [(0, 0, 0, 0, 0)]))) := own_set11 HRC20.out (own_far11 HRC20.out HXd20.out (by decide))
  clear HB20 HXs20 HXa20 HXb20 HXc20 HXd20 HRA20 HRB20 HRC20
  have hal21 : Below (x5.setCell ⟨x1.heap.size, 1, none⟩ (.slice (some ⟨x5.heap.size, 0, none⟩) 0 0)).heap.size (x5.setCell ⟨x1.heap.size, 1, none⟩ (.slice (some ⟨x5.heap.size, 0, none⟩) 0 0)) ((x5.setCell ⟨x1.heap.size, 1, none⟩ (.slice (some ⟨x5.heap.size, 0, none⟩) 0 0)).alloc (.cells #[] 37)) := (Below.refl _ _).alloc (Nat.le_refl _) _
  have HB22 : Hid (Below w1.heap.size w1 ((x5.setCell ⟨x1.heap.size, 1, none⟩ (.slice (some ⟨x5.heap.size, 0, none⟩) 0 0)).alloc (.cells #[] 37))) := HB21.out.alloc HB21.out.size _
  have HXs22 : Hid (((x5.setCell ⟨x1.heap.size, 1, none⟩ (.slice (some ⟨x5.heap.size, 0, none⟩) 0 0)).alloc (.cells #[] 37)).heap[w1.heap.size]? = some (.cells #[.slice q0 n0 c0, .slice q1 n1 c1, .slice q2 n2 c2, .slice q3 n3 c3, .slice q4 n4 c4] 30)) := row_on HXs21.out hal21
  have HXa22 : Hid (((x5.setCell ⟨x1.heap.size, 1, none⟩ (.slice (some ⟨x5.heap.size, 0, none⟩) 0 0)).alloc (.cells #[] 37)).heap[w1.heap.size + 1]? = some (.cells #[.slice q0 n0 c0, .slice q1 n1 c1, .slice q2 n2 c2, .slice q3 n3 c3, .slice pA' (n4 + 1) dA'] 30)) := row_on HXa21.out hal21
  have HXb22 : Hid (((x5.setCell ⟨x1.heap.size, 1, none⟩ (.slice (some ⟨x5.heap.size, 0, none⟩) 0 0)).alloc (.cells #[] 37)).heap[w3.heap.size]? = some (.cells #[.slice q0 n0 c0, .slice q1 n1 c1, .slice q2 n2 c2, .slice pB' (n3 + 1) dB', .slice pA' (n4 + 1) dA'] 30)) := row_on HXb21.out hal21
  have HXc22 : Hid (((x5.setCell ⟨x1.heap.size, 1, none⟩ (.slice (some ⟨x5.heap.size, 0, none⟩) 0 0)).alloc (.cells #[] 37)).heap[w5.heap.size]? = some (.cells #[.slice q0 n0 c0, .slice q1 n1 c1, .slice pC' (n2 + 1) dC', .slice pB' (n3 + 1) dB', .slice pA' (n4 + 1) dA'] 30)) := row_on HXc21.out hal21
  have HXd22 : Hid (((x5.setCell ⟨x1.heap.size, 1, none⟩ (.slice (some ⟨x5.heap.size, 0, none⟩) 0 0)).alloc (.cells #[] 37)).heap[x1.heap.size]? = some (.cells #[.slice q0 n0 c0, .slice (some ⟨x5.heap.size, 0, none⟩) 0 0, .slice pC' (n2 + 1) dC', .slice pB' (n3 + 1) dB', .slice pA' (n4 + 1) dA'] 30)) := row_on HXd21.out hal21
  have HRA22 : Hid (((x5.setCell ⟨x1.heap.size, 1, none⟩ (.slice (some ⟨x5.heap.size, 0, none⟩) 0 0)).alloc (.cells #[] 37)).ownsRow w1.heap.size 9 1 (.slice pA' (n4 + 1) dA') (n4 + 1) (S.strV (X.S ++ [⟨#[]⟩]))) := HRA21.out.alloc _
  have HRB22 : Hid (((x5.setCell ⟨x1.heap.size, 1, none⟩ (.slice (some ⟨x5.heap.size, 0, none⟩) 0 0)).alloc (.cells #[] 37)).ownsRow w1.heap.size 33 3 (.slice pB' (n3 + 1) dB') (n3 + 1) (rulV (X.U ++ [(0, 0, 0)]))) := HRB21.out.alloc _
  have HRC22 : Hid (((x5.setCell ⟨x1.heap.size, 1, none⟩ (.slice (some ⟨x5.heap.size, 0, none⟩) 0 0)).alloc (.cells #[] 37)).ownsRow w1.heap.size 35 5 (.slice pC' (n2 + 1) dC') (n2 + 1) (prtV (X.O ++ [(0, 0, 0, 0, 0)]))) := HRC21.out.alloc _
  clear HB21 HXs21 HXa21 HXb21 HXc21 HXd21 HRA21 HRB21 HRC21
  clear hal21
  go_upto_region 12 with fail
  clear kdz
  obtain ⟨x2, hxx2⟩ : ∃ x, ((x5.setCell ⟨x1.heap.size, 1, none⟩ (.slice (some ⟨x5.heap.size, 0, none⟩) 0 0)).alloc (.cells #[] 37)) = x := ⟨_, rfl⟩
  rw [hxx2] at HB22 HXs22 HXa22 HXb22 HXc22 HXd22 HRA22 HRB22 HRC22 ⊢
  clear hxx2
  have oE : x1.heap.size < x2.heap.size := row_lt HXd22.out
  have kd22 := boxO_cells HXd22.out
  have hal22 : Below x2.heap.size x2 (x2.alloc (.cells #[.slice q0 n0 c0, .slice (some ⟨x5.heap.size, 0, none⟩) 0 0, .slice pC' (n2 + 1) dC', .slice pB' (n3 + 1) dB', .slice pA' (n4 + 1) dA'] 30)) := (Below.refl _ _).alloc (Nat.le_refl _) _
  have HB23 : Hid (Below w1.heap.size w1 (x2.alloc (.cells #[.slice q0 n0 c0, .slice (some ⟨x5.heap.size, 0, none⟩) 0 0, .slice pC' (n2 + 1) dC', .slice pB' (n3 + 1) dB', .slice pA' (n4 + 1) dA'] 30))) := HB22.out.alloc HB22.out.size _
  have HXs23 : Hid ((x2.alloc (.cells #[.slice q0 n0 c0, .slice (some ⟨x5.heap.size, 0, none⟩) 0 0, .slice pC' (n2 + 1) dC', .slice pB' (n3 + 1) dB', .slice pA' (n4 + 1) dA'] 30)).heap[w1.heap.size]? = some (.cells #[.slice q0 n0 c0, .slice q1 n1 c1, .slice q2 n2 c2, .slice q3 n3 c3, .slice q4 n4 c4] 30)) := row_on HXs22.out hal22
  have HXa23 : Hid ((x2.alloc (.cells #[.slice q0 n0 c0, .slice (some ⟨x5.heap.size, 0, none⟩) 0 0, .slice pC' (n2 + 1) dC', .slice pB' (n3 + 1) dB', .slice pA' (n4 + 1) dA'] 30)).heap[w1.heap.size + 1]? = some (.cells #[.slice q0 n0 c0, .slice q1 n1 c1, .slice q2 n2 c2, .slice q3 n3 c3, .slice pA' (n4 + 1) dA'] 30)) := row_on HXa22.out hal22
  have HXb23 : Hid ((x2.alloc (.cells #[.slice q0 n0 c0, .slice (some ⟨x5.heap.size, 0, none⟩) 0 0, .slice pC' (n2 + 1) dC', .slice pB' (n3 + 1) dB', .slice pA' (n4 + 1) dA'] 30)).heap[w3.heap.size]? = some (.cells #[.slice q0 n0 c0, .slice q1 n1 c1, .slice q2 n2 c2, .slice pB' (n3 + 1) dB', .slice pA' (n4 + 1) dA'] 30)) := row_on HXb22.out hal22
  have HXc23 : Hid ((x2.alloc (.cells #[.slice q0 n0 c0, .slice (some ⟨x5.heap.size, 0, none⟩) 0 0, .slice pC' (n2 + 1) dC', .slice pB' (n3 + 1) dB', .slice pA' (n4 + 1) dA'] 30)).heap[w5.heap.size]? = some (.cells #[.slice q0 n0 c0, .slice q1 n1 c1, .slice pC' (n2 + 1) dC', .slice pB' (n3 + 1) dB', .slice pA' (n4 + 1) dA'] 30)) := row_on HXc22.out hal22
  have HXd23 : Hid ((x2.alloc (.cells #[.slice q0 n0 c0, .slice (some ⟨x5.heap.size, 0, none⟩) 0 0, .slice pC' (n2 + 1) dC', .slice pB' (n3 + 1) dB', .slice pA' (n4 + 1) dA'] 30)).heap[x1.heap.size]? = some (.cells #[.slice q0 n0 c0, .slice (some ⟨x5.heap.size, 0, none⟩) 0 0, .slice pC' (n2 + 1) dC', .slice pB' (n3 + 1) dB', .slice pA' (n4 + 1) dA'] 30)) := row_on HXd22.out hal22
  have HRA23 : Hid ((x2.alloc (.cells #[.slice q0 n0 c0, .slice (some ⟨x5.heap.size, 0, none⟩) 0 0, .slice pC' (n2 + 1) dC', .slice pB' (n3 + 1) dB', .slice pA' (n4 + 1) dA'] 30)).ownsRow w1.heap.size 9 1 (.slice pA' (n4 + 1) dA') (n4 + 1) (S.strV (X.S ++ [⟨#[]⟩]))) := HRA22.out.alloc _
  have HRB23 : Hid ((x2.alloc (.cells #[.slice q0 n0 c0, .slice (some ⟨x5.heap.size, 0, none⟩) 0 0, .slice pC' (n2 + 1) dC', .slice pB' (n3 + 1) dB', .slice pA' (n4 + 1) dA'] 30)).ownsRow w1.heap.size 33 3 (.slice pB' (n3 + 1) dB') (n3 + 1) (rulV (X.U ++ [(0, 0, 0)]))) := HRB22.out.alloc _
  have HRC23 : Hid ((x2.alloc (.cells #[.slice q0 n0 c0, .slice (some ⟨x5.heap.size, 0, none⟩) 0 0, .slice pC' (n2 + 1) dC', .slice pB' (n3 + 1) dB', .slice pA' (n4 + 1) dA'] 30)).ownsRow w1.heap.size 35 5 (.slice pC' (n2 + 1) dC') (n2 + 1) (prtV (X.O ++ [(0, 0, 0, 0, 0)]))) := HRC22.out.alloc _
  have hz23 := heap_new x2 (.cells #[.slice q0 n0 c0, .slice (some ⟨x5.heap.size, 0, none⟩) 0 0, .slice pC' (n2 + 1) dC', .slice pB' (n3 + 1) dB', .slice pA' (n4 + 1) dA'] 30)
  have HXe23 : Hid ((x2.alloc (.cells #[.slice q0 n0 c0, .slice (some ⟨x5.heap.size, 0, none⟩) 0 0, .slice pC' (n2 + 1) dC', .slice pB' (n3 + 1) dB', .slice pA' (n4 + 1) dA'] 30)).heap[x2.heap.size]? = some (.cells #[.slice q0 n0 c0, .slice (some ⟨x5.heap.size, 0, none⟩) 0 0, .slice pC' (n2 + 1) dC', .slice pB' (n3 + 1) dB', .slice pA' (n4 + 1) dA'] 30)) := by
    have e1 : x2.heap.size = x2.heap.size := by simp
    rw [e1] at hz23
    exact hz23
  clear hz23
  clear HB22 HXs22 HXa22 HXb22 HXc22 HXd22 HRA22 HRB22 HRC22
  clear hal22
  go_upto_region 13 with fail
  clear kd22
  obtain ⟨x6, hxx6⟩ : ∃ x, (x2.alloc (.cells #[.slice q0 n0 c0, .slice (some ⟨x5.heap.size, 0, none⟩) 0 0, .slice pC' (n2 + 1) dC', .slice pB' (n3 + 1) dB', .slice pA' (n4 + 1) dA'] 30)) = x := ⟨_, rfl⟩
  rw [hxx6] at HB23 HXs23 HXa23 HXb23 HXc23 HXd23 HXe23 HRA23 HRB23 HRC23 ⊢
  clear hxx6
  have oE6 : x2.heap.size < x6.heap.size := row_lt HXe23.out
  have kez := boxO_cells (show (x6.alloc (.cells #[] 85)).heap[x2.heap.size]? = some (.cells #[.slice q0 n0 c0, .slice (some ⟨x5.heap.size, 0, none⟩) 0 0, .slice pC' (n2 + 1) dC', .slice pB' (n3 + 1) dB', .slice pA' (n4 + 1) dA'] 30) from row_on HXe23.out ((Below.refl _ _).alloc (Nat.le_refl _) _))
  have HB24 : Hid (Below w1.heap.size w1 (x6.setCell ⟨x2.heap.size, 0, none⟩ (.slice (some ⟨x6.heap.size, 0, none⟩) 0 0))) := HB23.out.setCell (by show w1.heap.size ≤ x2.heap.size; omega) _
  have HXs24 : Hid ((x6.setCell ⟨x2.heap.size, 0, none⟩ (.slice (some ⟨x6.heap.size, 0, none⟩) 0 0)).heap[w1.heap.size]? = some (.cells #[.slice q0 n0 c0, .slice q1 n1 c1, .slice q2 n2 c2, .slice q3 n3 c3, .slice q4 n4 c4] 30)) := set_far HXs23.out (by omega)
  have HXa24 : Hid ((x6.setCell ⟨x2.heap.size, 0, none⟩ (.slice (some ⟨x6.heap.size, 0, none⟩) 0 0)).heap[w1.heap.size + 1]? = some (.cells #[.slice q0 n0 c0, .slice q1 n1 c1, .slice q2 n2 c2, .slice q3 n3 c3, .slice pA' (n4 + 1) dA'] 30)) := set_far HXa23.out (by omega)
  have HXb24 : Hid ((x6.setCell ⟨x2.heap.size, 0, none⟩ (.slice (some ⟨x6.heap.size, 0, none⟩) 0 0)).heap[w3.heap.size]? = some (.cells #[.slice q0 n0 c0, .slice q1 n1 c1, .slice q2 n2 c2, .slice pB' (n3 + 1) dB', .slice pA' (n4 + 1) dA'] 30)) := set_far HXb23.out (by omega)
  have HXc24 : Hid ((x6.setCell ⟨x2.heap.size, 0, none⟩ (.slice (some ⟨x6.heap.size, 0, none⟩) 0 0)).heap[w5.heap.size]? = some (.cells #[.slice q0 n0 c0, .slice q1 n1 c1, .slice pC' (n2 + 1) dC', .slice pB' (n3 + 1) dB', .slice pA' (n4 + 1) dA'] 30)) := set_far HXc23.out (by omega)
  have HXd24 : Hid ((x6.setCell ⟨x2.heap.size, 0, none⟩ (.slice (some ⟨x6.heap.size, 0, none⟩) 0 0)).heap[x1.heap.size]? = some (.cells #[.slice q0 n0 c0, .slice (some ⟨x5.heap.size, 0, none⟩) 0 0, .slice pC' (n2 + 1) dC', .slice pB' (n3 + 1) dB', .slice pA' (n4 + 1) dA'] 30)) := set_far HXd23.out (by omega)
  have HXe24 : Hid ((x6.setCell ⟨x2.heap.size, 0, none⟩ (.slice (some ⟨x6.heap.size, 0, none⟩) 0 0)).heap[x2.heap.size]? = some (.cells #[.slice (some ⟨x6.heap.size, 0, none⟩) 0 0, .slice (some ⟨x5.heap.size, 0, none⟩) 0 0, .slice pC' (n2 + 1) dC', .slice pB' (n3 + 1) dB', .slice pA' (n4 + 1) dA'] 30)) := set_row5 HXe23.out 0 _
  have HRA24 : Hid ((x6.setCell ⟨x2.heap.size, 0, none⟩ (.slice (some ⟨x6.heap.size, 0, none⟩) 0 0)).ownsRow w1.heap.size 9 1 (.slice pA' (n4 + 1) dA') (n4 + 1) (S.strV (X.S ++ [⟨#[]⟩]))) := own_set11 HRA23.out (own_far11 HRA23.out HXe23.out (by decide))
  have HRB24 : Hid ((x6.setCell ⟨x2.heap.size, 0, none⟩ (.slice (some ⟨x6.heap.size, 0, none⟩) 0 0)).ownsRow w1.heap.size 33 3 (.slice pB' (n3 + 1) dB') (n3 + 1) (rulV (X.U ++ [(0, 0, 0)]))) := own_set11 HRB23.out (own_far11 HRB23.out HXe23.out (by decide))
  have HRC24 : Hid ((x6.setCell ⟨x2.heap.size, 0, none⟩ (.slice (some ⟨x6.heap.size, 0, none⟩) 0 0)).ownsRow w1.heap.size 35 5 (.slice pC' (n2 + 1) dC') (n2 + 1) (prtV (X.O ++ [(0, 0, 0, 0, 0)]))) := own_set11 HRC23.out (own_far11 HRC23.out HXe23.out (by decide))
  clear HB23 HXs23 HXa23 HXb23 HXc23 HXd23 HXe23 HRA23 HRB23 HRC23
  have hal24 : Below (x6.setCell ⟨x2.heap.size, 0, none⟩ (.slice (some ⟨x6.heap.size, 0, none⟩) 0 0)).heap.size (x6.setCell ⟨x2.heap.size, 0, none⟩ (.slice (some ⟨x6.heap.size, 0, none⟩) 0 0)) ((x6.setCell ⟨x2.heap.size, 0, none⟩ (.slice (some ⟨x6.heap.size, 0, none⟩) 0 0)).alloc (.cells #[] 85)) := (Below.refl _ _).alloc (Nat.le_refl _) _
  have HB25 : Hid (Below w1.heap.size w1 ((x6.setCell ⟨x2.heap.size, 0, none⟩ (.slice (some ⟨x6.heap.size, 0, none⟩) 0 0)).alloc (.cells #[] 85))) := HB24.out.alloc HB24.out.size _
  have HXs25 : Hid (((x6.setCell ⟨x2.heap.size, 0, none⟩ (.slice (some ⟨x6.heap.size, 0, none⟩) 0 0)).alloc (.cells #[] 85)).heap[w1.heap.size]? = some (.cells #[.slice q0 n0 c0, .slice q1 n1 c1, .slice q2 n2 c2, .slice q3 n3 c3, .slice q4 n4 c4] 30)) := row_on HXs24.out hal24
  have HXa25 : Hid (((x6.setCell ⟨x2.heap.size, 0, none⟩ (.slice (some ⟨x6.heap.size, 0, none⟩) 0 0)).alloc (.cells #[] 85)).heap[w1.heap.size + 1]? = some (.cells #[.slice q0 n0 c0, .slice q1 n1 c1, .slice q2 n2 c2, .slice q3 n3 c3, .slice pA' (n4 + 1) dA'] 30)) := row_on HXa24.out hal24
  have HXb25 : Hid (((x6.setCell ⟨x2.heap.size, 0, none⟩ (.slice (some ⟨x6.heap.size, 0, none⟩) 0 0)).alloc (.cells #[] 85)).heap[w3.heap.size]? = some (.cells #[.slice q0 n0 c0, .slice q1 n1 c1, .slice q2 n2 c2, .slice pB' (n3 + 1) dB', .slice pA' (n4 + 1) dA'] 30)) := row_on HXb24.out hal24
  have HXc25 : Hid (((x6.setCell ⟨x2.heap.size, 0, none⟩ (.slice (some ⟨x6.heap.size, 0, none⟩) 0 0)).alloc (.cells #[] 85)).heap[w5.heap.size]? = some (.cells #[.slice q0 n0 c0, .slice q1 n1 c1, .slice pC' (n2 + 1) dC', .slice pB' (n3 + 1) dB', .slice pA' (n4 + 1) dA'] 30)) := row_on HXc24.out hal24
  have HXd25 : Hid (((x6.setCell ⟨x2.heap.size, 0, none⟩ (.slice (some ⟨x6.heap.size, 0, none⟩) 0 0)).alloc (.cells #[] 85)).heap[x1.heap.size]? = some (.cells #[.slice q0 n0 c0, .slice (some ⟨x5.heap.size, 0, none⟩) 0 0, .slice pC' (n2 + 1) dC', .slice pB' (n3 + 1) dB', .slice pA' (n4 + 1) dA'] 30)) := row_on HXd24.out hal24
  have HXe25 : Hid (((x6.setCell ⟨x2.heap.size, 0, none⟩ (.slice (some ⟨x6.heap.size, 0, none⟩) 0 0)).alloc (.cells #[] 85)).heap[x2.heap.size]? = some (.cells #[.slice (some ⟨x6.heap.size, 0, none⟩) 0 0, .slice (some ⟨x5.heap.size, 0, none⟩) 0 0, .slice pC' (n2 + 1) dC', .slice pB' (n3 + 1) dB', .slice pA' (n4 + 1) dA'] 30)) := row_on HXe24.out hal24
  have HRA25 : Hid (((x6.setCell ⟨x2.heap.size, 0, none⟩ (.slice (some ⟨x6.heap.size, 0, none⟩) 0 0)).alloc (.cells #[] 85)).ownsRow w1.heap.size 9 1 (.slice pA' (n4 + 1) dA') (n4 + 1) (S.strV (X.S ++ [⟨#[]⟩]))) := HRA24.out.alloc _
  have HRB25 : Hid (((x6.setCell ⟨x2.heap.size, 0, none⟩ (.slice (some ⟨x6.heap.size, 0, none⟩) 0 0)).alloc (.cells #[] 85)).ownsRow w1.heap.size 33 3 (.slice pB' (n3 + 1) dB') (n3 + 1) (rulV (X.U ++ [(0, 0, 0)]))) := HRB24.out.alloc _
  have HRC25 : Hid (((x6.setCell ⟨x2.heap.size, 0, none⟩ (.slice (some ⟨x6.heap.size, 0, none⟩) 0 0)).alloc (.cells #[] 85)).ownsRow w1.heap.size 35 5 (.slice pC' (n2 + 1) dC') (n2 + 1) (prtV (X.O ++ [(0, 0, 0, 0, 0)]))) := HRC24.out.alloc _
  clear HB24 HXs24 HXa24 HXb24 HXc24 HXd24 HXe24 HRA24 HRB24 HRC24
  clear hal24
  go_upto_region 14 with fail
  clear kez
  obtain ⟨x3, hxx3⟩ : ∃ x, ((x6.setCell ⟨x2.heap.size, 0, none⟩ (.slice (some ⟨x6.heap.size, 0, none⟩) 0 0)).alloc (.cells #[] 85)) = x := ⟨_, rfl⟩
  rw [hxx3] at HB25 HXs25 HXa25 HXb25 HXc25 HXd25 HXe25 HRA25 HRB25 HRC25 ⊢
  clear hxx3
  have oG : x2.heap.size < x3.heap.size := row_lt HXe25.out
  have ks25 := boxO_cells HXs25.out
  have hal25 : Below x3.heap.size x3 (x3.alloc (.cells #[.slice q0 n0 c0, .slice q1 n1 c1, .slice q2 n2 c2, .slice q3 n3 c3, .slice q4 n4 c4] 30)) := (Below.refl _ _).alloc (Nat.le_refl _) _
  have HB26 : Hid (Below w1.heap.size w1 (x3.alloc (.cells #[.slice q0 n0 c0, .slice q1 n1 c1, .slice q2 n2 c2, .slice q3 n3 c3, .slice q4 n4 c4] 30))) := HB25.out.alloc HB25.out.size _
  have HXs26 : Hid ((x3.alloc (.cells #[.slice q0 n0 c0, .slice q1 n1 c1, .slice q2 n2 c2, .slice q3 n3 c3, .slice q4 n4 c4] 30)).heap[w1.heap.size]? = some (.cells #[.slice q0 n0 c0, .slice q1 n1 c1, .slice q2 n2 c2, .slice q3 n3 c3, .slice q4 n4 c4] 30)) := row_on HXs25.out hal25
  have HXa26 : Hid ((x3.alloc (.cells #[.slice q0 n0 c0, .slice q1 n1 c1, .slice q2 n2 c2, .slice q3 n3 c3, .slice q4 n4 c4] 30)).heap[w1.heap.size + 1]? = some (.cells #[.slice q0 n0 c0, .slice q1 n1 c1, .slice q2 n2 c2, .slice q3 n3 c3, .slice pA' (n4 + 1) dA'] 30)) := row_on HXa25.out hal25
  have HXb26 : Hid ((x3.alloc (.cells #[.slice q0 n0 c0, .slice q1 n1 c1, .slice q2 n2 c2, .slice q3 n3 c3, .slice q4 n4 c4] 30)).heap[w3.heap.size]? = some (.cells #[.slice q0 n0 c0, .slice q1 n1 c1, .slice q2 n2 c2, .slice pB' (n3 + 1) dB', .slice pA' (n4 + 1) dA'] 30)) := row_on HXb25.out hal25
  have HXc26 : Hid ((x3.alloc (.cells #[.slice q0 n0 c0, .slice q1 n1 c1, .slice q2 n2 c2, .slice q3 n3 c3, .slice q4 n4 c4] 30)).heap[w5.heap.size]? = some (.cells #[.slice q0 n0 c0, .slice q1 n1 c1, .slice pC' (n2 + 1) dC', .slice pB' (n3 + 1) dB', .slice pA' (n4 + 1) dA'] 30)) := row_on HXc25.out hal25
  have HXd26 : Hid ((x3.alloc (.cells #[.slice q0 n0 c0, .slice q1 n1 c1, .slice q2 n2 c2, .slice q3 n3 c3, .slice q4 n4 c4] 30)).heap[x1.heap.size]? = some (.cells #[.slice q0 n0 c0, .slice (some ⟨x5.heap.size, 0, none⟩) 0 0, .slice pC' (n2 + 1) dC', .slice pB' (n3 + 1) dB', .slice pA' (n4 + 1) dA'] 30)) := row_on HXd25.out hal25
  have HXe26 : Hid ((x3.alloc (.cells #[.slice q0 n0 c0, .slice q1 n1 c1, .slice q2 n2 c2, .slice q3 n3 c3, .slice q4 n4 c4] 30)).heap[x2.heap.size]? = some (.cells #[.slice (some ⟨x6.heap.size, 0, none⟩) 0 0, .slice (some ⟨x5.heap.size, 0, none⟩) 0 0, .slice pC' (n2 + 1) dC', .slice pB' (n3 + 1) dB', .slice pA' (n4 + 1) dA'] 30)) := row_on HXe25.out hal25
  have HRA26 : Hid ((x3.alloc (.cells #[.slice q0 n0 c0, .slice q1 n1 c1, .slice q2 n2 c2, .slice q3 n3 c3, .slice q4 n4 c4] 30)).ownsRow w1.heap.size 9 1 (.slice pA' (n4 + 1) dA') (n4 + 1) (S.strV (X.S ++ [⟨#[]⟩]))) := HRA25.out.alloc _
  have HRB26 : Hid ((x3.alloc (.cells #[.slice q0 n0 c0, .slice q1 n1 c1, .slice q2 n2 c2, .slice q3 n3 c3, .slice q4 n4 c4] 30)).ownsRow w1.heap.size 33 3 (.slice pB' (n3 + 1) dB') (n3 + 1) (rulV (X.U ++ [(0, 0, 0)]))) := HRB25.out.alloc _
  have HRC26 : Hid ((x3.alloc (.cells #[.slice q0 n0 c0, .slice q1 n1 c1, .slice q2 n2 c2, .slice q3 n3 c3, .slice q4 n4 c4] 30)).ownsRow w1.heap.size 35 5 (.slice pC' (n2 + 1) dC') (n2 + 1) (prtV (X.O ++ [(0, 0, 0, 0, 0)]))) := HRC25.out.alloc _
  have hz26 := heap_new x3 (.cells #[.slice q0 n0 c0, .slice q1 n1 c1, .slice q2 n2 c2, .slice q3 n3 c3, .slice q4 n4 c4] 30)
  have HXf26 : Hid ((x3.alloc (.cells #[.slice q0 n0 c0, .slice q1 n1 c1, .slice q2 n2 c2, .slice q3 n3 c3, .slice q4 n4 c4] 30)).heap[x3.heap.size]? = some (.cells #[.slice q0 n0 c0, .slice q1 n1 c1, .slice q2 n2 c2, .slice q3 n3 c3, .slice q4 n4 c4] 30)) := by
    have e1 : x3.heap.size = x3.heap.size := by simp
    rw [e1] at hz26
    exact hz26
  clear hz26
  clear HB25 HXs25 HXa25 HXb25 HXc25 HXd25 HXe25 HRA25 HRB25 HRC25
  clear hal25
  have hal26 : Below (x3.alloc (.cells #[.slice q0 n0 c0, .slice q1 n1 c1, .slice q2 n2 c2, .slice q3 n3 c3, .slice q4 n4 c4] 30)).heap.size (x3.alloc (.cells #[.slice q0 n0 c0, .slice q1 n1 c1, .slice q2 n2 c2, .slice q3 n3 c3, .slice q4 n4 c4] 30)) ((x3.alloc (.cells #[.slice q0 n0 c0, .slice q1 n1 c1, .slice q2 n2 c2, .slice q3 n3 c3, .slice q4 n4 c4] 30)).alloc (.cells #[] 37)) := (Below.refl _ _).alloc (Nat.le_refl _) _
  have HB27 : Hid (Below w1.heap.size w1 ((x3.alloc (.cells #[.slice q0 n0 c0, .slice q1 n1 c1, .slice q2 n2 c2, .slice q3 n3 c3, .slice q4 n4 c4] 30)).alloc (.cells #[] 37))) := HB26.out.alloc HB26.out.size _
  have HXs27 : Hid (((x3.alloc (.cells #[.slice q0 n0 c0, .slice q1 n1 c1, .slice q2 n2 c2, .slice q3 n3 c3, .slice q4 n4 c4] 30)).alloc (.cells #[] 37)).heap[w1.heap.size]? = some (.cells #[.slice q0 n0 c0, .slice q1 n1 c1, .slice q2 n2 c2, .slice q3 n3 c3, .slice q4 n4 c4] 30)) := row_on HXs26.out hal26
  have HXa27 : Hid (((x3.alloc (.cells #[.slice q0 n0 c0, .slice q1 n1 c1, .slice q2 n2 c2, .slice q3 n3 c3, .slice q4 n4 c4] 30)).alloc (.cells #[] 37)).heap[w1.heap.size + 1]? = some (.cells #[.slice q0 n0 c0, .slice q1 n1 c1, .slice q2 n2 c2, .slice q3 n3 c3, .slice pA' (n4 + 1) dA'] 30)) := row_on HXa26.out hal26
  have HXb27 : Hid (((x3.alloc (.cells #[.slice q0 n0 c0, .slice q1 n1 c1, .slice q2 n2 c2, .slice q3 n3 c3, .slice q4 n4 c4] 30)).alloc (.cells #[] 37)).heap[w3.heap.size]? = some (.cells #[.slice q0 n0 c0, .slice q1 n1 c1, .slice q2 n2 c2, .slice pB' (n3 + 1) dB', .slice pA' (n4 + 1) dA'] 30)) := row_on HXb26.out hal26
  have HXc27 : Hid (((x3.alloc (.cells #[.slice q0 n0 c0, .slice q1 n1 c1, .slice q2 n2 c2, .slice q3 n3 c3, .slice q4 n4 c4] 30)).alloc (.cells #[] 37)).heap[w5.heap.size]? = some (.cells #[.slice q0 n0 c0, .slice q1 n1 c1, .slice pC' (n2 + 1) dC', .slice pB' (n3 + 1) dB', .slice pA' (n4 + 1) dA'] 30)) := row_on HXc26.out hal26
  have HXd27 : Hid (((x3.alloc (.cells #[.slice q0 n0 c0, .slice q1 n1 c1, .slice q2 n2 c2, .slice q3 n3 c3, .slice q4 n4 c4] 30)).alloc (.cells #[] 37)).heap[x1.heap.size]? = some (.cells #[.slice q0 n0 c0, .slice (some ⟨x5.heap.size, 0, none⟩) 0 0, .slice pC' (n2 + 1) dC', .slice pB' (n3 + 1) dB', .slice pA' (n4 + 1) dA'] 30)) := row_on HXd26.out hal26
  have HXe27 : Hid (((x3.alloc (.cells #[.slice q0 n0 c0, .slice q1 n1 c1, .slice q2 n2 c2, .slice q3 n3 c3, .slice q4 n4 c4] 30)).alloc (.cells #[] 37)).heap[x2.heap.size]? = some (.cells #[.slice (some ⟨x6.heap.size, 0, none⟩) 0 0, .slice (some ⟨x5.heap.size, 0, none⟩) 0 0, .slice pC' (n2 + 1) dC', .slice pB' (n3 + 1) dB', .slice pA' (n4 + 1) dA'] 30)) := row_on HXe26.out hal26
  have HXf27 : Hid (((x3.alloc (.cells #[.slice q0 n0 c0, .slice q1 n1 c1, .slice q2 n2 c2, .slice q3 n3 c3, .slice q4 n4 c4] 30)).alloc (.cells #[] 37)).heap[x3.heap.size]? = some (.cells #[.slice q0 n0 c0, .slice q1 n1 c1, .slice q2 n2 c2, .slice q3 n3 c3, .slice q4 n4 c4] 30)) := row_on HXf26.out hal26
  have HRA27 : Hid (((x3.alloc (.cells #[.slice q0 n0 c0, .slice q1 n1 c1, .slice q2 n2 c2, .slice q3 n3 c3, .slice q4 n4 c4] 30)).alloc (.cells #[] 37)).ownsRow w1.heap.size 9 1 (.slice pA' (n4 + 1) dA') (n4 + 1) (S.strV (X.S ++ [⟨#[]⟩]))) := HRA26.out.alloc _
  have HRB27 : Hid (((x3.alloc (.cells #[.slice q0 n0 c0, .slice q1 n1 c1, .slice q2 n2 c2, .slice q3 n3 c3, .slice q4 n4 c4] 30)).alloc (.cells #[] 37)).ownsRow w1.heap.size 33 3 (.slice pB' (n3 + 1) dB') (n3 + 1) (rulV (X.U ++ [(0, 0, 0)]))) := HRB26.out.alloc _
  have HRC27 : Hid (((x3.alloc (.cells #[.slice q0 n0 c0, .slice q1 n1 c1, .slice q2 n2 c2, .slice q3 n3 c3, .slice q4 n4 c4] 30)).alloc (.cells #[] 37)).ownsRow w1.heap.size 35 5 (.slice pC' (n2 + 1) dC') (n2 + 1) (prtV (X.O ++ [(0, 0, 0, 0, 0)]))) := HRC26.out.alloc _
  have HNF : Hid (((x3.alloc (.cells #[.slice q0 n0 c0, .slice q1 n1 c1, .slice q2 n2 c2, .slice q3 n3 c3, .slice q4 n4 c4] 30)).alloc (.cells #[] 37)).ownsRow w1.heap.size 37 2 (.slice (some ⟨x3.heap.size + 1, 0, none⟩) 0 0) 0 []) := by
    have h1 := own_new (x3.alloc (.cells #[.slice q0 n0 c0, .slice q1 n1 c1, .slice q2 n2 c2, .slice q3 n3 c3, .slice q4 n4 c4] 30)) w1.heap.size 37 2 HB26.out.size
    have e1 : (x3.alloc (.cells #[.slice q0 n0 c0, .slice q1 n1 c1, .slice q2 n2 c2, .slice q3 n3 c3, .slice q4 n4 c4] 30)).heap.size = x3.heap.size + 1 := by simp
    rw [e1] at h1
    exact h1
  clear HB26 HXs26 HXa26 HXb26 HXc26 HXd26 HXe26 HXf26 HRA26 HRB26 HRC26
  clear hal26
  have ks27 := boxO_cells HXs27.out
  have hsrc : ((x3.alloc (.cells #[.slice q0 n0 c0, .slice q1 n1 c1, .slice q2 n2 c2, .slice q3 n3 c3, .slice q4 n4 c4] 30)).alloc (.cells #[] 37)).ownsRow w0.heap.size 37 2 (.slice q1 n1 c1) n1 (regsV X.W) := (HO1.out.bel HB27.out).o1
  have hbz := HB27.out.size
  go_wp2_with (at_builtin; refine wpList_append_copy rfl _ _ 25 rfl w1.heap.size 37 j1 (.agg #[.int .i64 0, .int .i64 0]) 2 16 Tryd.underlying25 hi1 hz10 hz11 hz12 rfl (by decide) (x3.heap.size + 1) rfl HNF.out w0.heap.size q1 n1 c1 (regsV X.W) rfl hsrc oneW (by omega) (by decide) hbz ?_)
  intro v' w8 hown' hg
  obtain ⟨pF, dF, hv'⟩ := own_shapeW hown'
  subst hv'
  have HB28 : Hid (Below w1.heap.size w1 w8) := HB27.out.grown hg HB27.out.size (own_ge14 HNF.out)
  have HXs28 : Hid (w8.heap[w1.heap.size]? = some (.cells #[.slice q0 n0 c0, .slice q1 n1 c1, .slice q2 n2 c2, .slice q3 n3 c3, .slice q4 n4 c4] 30)) := own_gr14 HNF.out hg (by decide) HXs27.out
  have HXa28 : Hid (w8.heap[w1.heap.size + 1]? = some (.cells #[.slice q0 n0 c0, .slice q1 n1 c1, .slice q2 n2 c2, .slice q3 n3 c3, .slice pA' (n4 + 1) dA'] 30)) := own_gr14 HNF.out hg (by decide) HXa27.out
  have HXb28 : Hid (w8.heap[w3.heap.size]? = some (.cells #[.slice q0 n0 c0, .slice q1 n1 c1, .slice q2 n2 c2, .slice pB' (n3 + 1) dB', .slice pA' (n4 + 1) dA'] 30)) := own_gr14 HNF.out hg (by decide) HXb27.out
  have HXc28 : Hid (w8.heap[w5.heap.size]? = some (.cells #[.slice q0 n0 c0, .slice q1 n1 c1, .slice pC' (n2 + 1) dC', .slice pB' (n3 + 1) dB', .slice pA' (n4 + 1) dA'] 30)) := own_gr14 HNF.out hg (by decide) HXc27.out
  have HXd28 : Hid (w8.heap[x1.heap.size]? = some (.cells #[.slice q0 n0 c0, .slice (some ⟨x5.heap.size, 0, none⟩) 0 0, .slice pC' (n2 + 1) dC', .slice pB' (n3 + 1) dB', .slice pA' (n4 + 1) dA'] 30)) := own_gr14 HNF.out hg (by decide) HXd27.out
  have HXe28 : Hid (w8.heap[x2.heap.size]? = some (.cells #[.slice (some ⟨x6.heap.size, 0, none⟩) 0 0, .slice (some ⟨x5.heap.size, 0, none⟩) 0 0, .slice pC' (n2 + 1) dC', .slice pB' (n3 + 1) dB', .slice pA' (n4 + 1) dA'] 30)) := own_gr14 HNF.out hg (by decide) HXe27.out
  have HXf28 : Hid (w8.heap[x3.heap.size]? = some (.cells #[.slice q0 n0 c0, .slice q1 n1 c1, .slice q2 n2 c2, .slice q3 n3 c3, .slice q4 n4 c4] 30)) := own_gr14 HNF.out hg (by decide) HXf27.out
  have HRA28 : Hid (w8.ownsRow w1.heap.size 9 1 (.slice pA' (n4 + 1) dA') (n4 + 1) (S.strV (X.S ++ [⟨#[]⟩]))) := own_other11 HRA27.out hg (own_apart11 HRA27.out HNF.out (by decide))
  have HRB28 : Hid (w8.ownsRow w1.heap.size 33 3 (.slice pB' (n3 + 1) dB') (n3 + 1) (rulV (X.U ++ [(0, 0, 0)]))) := own_other11 HRB27.out hg (own_apart11 HRB27.out HNF.out (by decide))
  have HRC28 : Hid (w8.ownsRow w1.heap.size 35 5 (.slice pC' (n2 + 1) dC') (n2 + 1) (prtV (X.O ++ [(0, 0, 0, 0, 0)]))) := own_other11 HRC27.out hg (own_apart11 HRC27.out HNF.out (by decide))
  have HRF28 : Hid (w8.ownsRow w1.heap.size 37 2 (.slice pF n1 dF) (n1) (regsV (X.W))) := hown'
  clear HB27 HXs27 HXa27 HXb27 HXc27 HXd27 HXe27 HXf27 HRA27 HRB27 HRC27
  clear hown' hg hsrc hbz HNF
  clear ks25 ks27
  have hal28 : Below w8.heap.size w8 (w8.alloc (.cells #[.int .i64 4, .int .i64 1] 37)) := (Below.refl _ _).alloc (Nat.le_refl _) _
  have HB29 : Hid (Below w1.heap.size w1 (w8.alloc (.cells #[.int .i64 4, .int .i64 1] 37))) := HB28.out.alloc HB28.out.size _
  have HXs29 : Hid ((w8.alloc (.cells #[.int .i64 4, .int .i64 1] 37)).heap[w1.heap.size]? = some (.cells #[.slice q0 n0 c0, .slice q1 n1 c1, .slice q2 n2 c2, .slice q3 n3 c3, .slice q4 n4 c4] 30)) := row_on HXs28.out hal28
  have HXa29 : Hid ((w8.alloc (.cells #[.int .i64 4, .int .i64 1] 37)).heap[w1.heap.size + 1]? = some (.cells #[.slice q0 n0 c0, .slice q1 n1 c1, .slice q2 n2 c2, .slice q3 n3 c3, .slice pA' (n4 + 1) dA'] 30)) := row_on HXa28.out hal28
  have HXb29 : Hid ((w8.alloc (.cells #[.int .i64 4, .int .i64 1] 37)).heap[w3.heap.size]? = some (.cells #[.slice q0 n0 c0, .slice q1 n1 c1, .slice q2 n2 c2, .slice pB' (n3 + 1) dB', .slice pA' (n4 + 1) dA'] 30)) := row_on HXb28.out hal28
  have HXc29 : Hid ((w8.alloc (.cells #[.int .i64 4, .int .i64 1] 37)).heap[w5.heap.size]? = some (.cells #[.slice q0 n0 c0, .slice q1 n1 c1, .slice pC' (n2 + 1) dC', .slice pB' (n3 + 1) dB', .slice pA' (n4 + 1) dA'] 30)) := row_on HXc28.out hal28
  have HXd29 : Hid ((w8.alloc (.cells #[.int .i64 4, .int .i64 1] 37)).heap[x1.heap.size]? = some (.cells #[.slice q0 n0 c0, .slice (some ⟨x5.heap.size, 0, none⟩) 0 0, .slice pC' (n2 + 1) dC', .slice pB' (n3 + 1) dB', .slice pA' (n4 + 1) dA'] 30)) := row_on HXd28.out hal28
  have HXe29 : Hid ((w8.alloc (.cells #[.int .i64 4, .int .i64 1] 37)).heap[x2.heap.size]? = some (.cells #[.slice (some ⟨x6.heap.size, 0, none⟩) 0 0, .slice (some ⟨x5.heap.size, 0, none⟩) 0 0, .slice pC' (n2 + 1) dC', .slice pB' (n3 + 1) dB', .slice pA' (n4 + 1) dA'] 30)) := row_on HXe28.out hal28
  have HXf29 : Hid ((w8.alloc (.cells #[.int .i64 4, .int .i64 1] 37)).heap[x3.heap.size]? = some (.cells #[.slice q0 n0 c0, .slice q1 n1 c1, .slice q2 n2 c2, .slice q3 n3 c3, .slice q4 n4 c4] 30)) := row_on HXf28.out hal28
  have HRA29 : Hid ((w8.alloc (.cells #[.int .i64 4, .int .i64 1] 37)).ownsRow w1.heap.size 9 1 (.slice pA' (n4 + 1) dA') (n4 + 1) (S.strV (X.S ++ [⟨#[]⟩]))) := HRA28.out.alloc _
  have HRB29 : Hid ((w8.alloc (.cells #[.int .i64 4, .int .i64 1] 37)).ownsRow w1.heap.size 33 3 (.slice pB' (n3 + 1) dB') (n3 + 1) (rulV (X.U ++ [(0, 0, 0)]))) := HRB28.out.alloc _
  have HRC29 : Hid ((w8.alloc (.cells #[.int .i64 4, .int .i64 1] 37)).ownsRow w1.heap.size 35 5 (.slice pC' (n2 + 1) dC') (n2 + 1) (prtV (X.O ++ [(0, 0, 0, 0, 0)]))) := HRC28.out.alloc _
  have HRF29 : Hid ((w8.alloc (.cells #[.int .i64 4, .int .i64 1] 37)).ownsRow w1.heap.size 37 2 (.slice pF n1 dF) (n1) (regsV (X.W))) := HRF28.out.alloc _
  clear HB28 HXs28 HXa28 HXb28 HXc28 HXd28 HXe28 HXf28 HRA28 HRB28 HRC28 HRF28
  clear hal28
  have hbz := HB29.out.size
  have hown := HRF29.out
  go_wp2_with (at_builtin; refine wpList_append_own_at _ rfl _ _ 25 rfl w1.heap.size 37 j1 (.agg #[.int .i64 0, .int .i64 0]) 2 16 Tryd.underlying25 hi1 hz10 hz11 hz12 rfl (by decide) _ _ _ rfl hown ⟨w8.heap.size, 0, none⟩ 1 1 [.int .i64 4, .int .i64 1] rfl rfl ?c1 ?c2 ?c3 ?c4 hbz ?_)
  case c1 => exact cell_k14 (by simp)
  case c2 => intro u hu; simp at hu; rcases hu with rfl | rfl <;> rfl
  case c3 => unfold maxLen; omega
  case c4 => omega
  intro v' w9 hown' hg _ _
  obtain ⟨pF', dF', hv'⟩ := own_shapeW hown'
  subst hv'
  have HB30 : Hid (Below w1.heap.size w1 w9) := HB29.out.grown hg HB29.out.size (own_ge14 hown)
  have HXs30 : Hid (w9.heap[w1.heap.size]? = some (.cells #[.slice q0 n0 c0, .slice q1 n1 c1, .slice q2 n2 c2, .slice q3 n3 c3, .slice q4 n4 c4] 30)) := own_gr14 hown hg (by decide) HXs29.out
  have HXa30 : Hid (w9.heap[w1.heap.size + 1]? = some (.cells #[.slice q0 n0 c0, .slice q1 n1 c1, .slice q2 n2 c2, .slice q3 n3 c3, .slice pA' (n4 + 1) dA'] 30)) := own_gr14 hown hg (by decide) HXa29.out
  have HXb30 : Hid (w9.heap[w3.heap.size]? = some (.cells #[.slice q0 n0 c0, .slice q1 n1 c1, .slice q2 n2 c2, .slice pB' (n3 + 1) dB', .slice pA' (n4 + 1) dA'] 30)) := own_gr14 hown hg (by decide) HXb29.out
  have HXc30 : Hid (w9.heap[w5.heap.size]? = some (.cells #[.slice q0 n0 c0, .slice q1 n1 c1, .slice pC' (n2 + 1) dC', .slice pB' (n3 + 1) dB', .slice pA' (n4 + 1) dA'] 30)) := own_gr14 hown hg (by decide) HXc29.out
  have HXd30 : Hid (w9.heap[x1.heap.size]? = some (.cells #[.slice q0 n0 c0, .slice (some ⟨x5.heap.size, 0, none⟩) 0 0, .slice pC' (n2 + 1) dC', .slice pB' (n3 + 1) dB', .slice pA' (n4 + 1) dA'] 30)) := own_gr14 hown hg (by decide) HXd29.out
  have HXe30 : Hid (w9.heap[x2.heap.size]? = some (.cells #[.slice (some ⟨x6.heap.size, 0, none⟩) 0 0, .slice (some ⟨x5.heap.size, 0, none⟩) 0 0, .slice pC' (n2 + 1) dC', .slice pB' (n3 + 1) dB', .slice pA' (n4 + 1) dA'] 30)) := own_gr14 hown hg (by decide) HXe29.out
  have HXf30 : Hid (w9.heap[x3.heap.size]? = some (.cells #[.slice q0 n0 c0, .slice q1 n1 c1, .slice q2 n2 c2, .slice q3 n3 c3, .slice q4 n4 c4] 30)) := own_gr14 hown hg (by decide) HXf29.out
  have HRA30 : Hid (w9.ownsRow w1.heap.size 9 1 (.slice pA' (n4 + 1) dA') (n4 + 1) (S.strV (X.S ++ [⟨#[]⟩]))) := own_other11 HRA29.out hg (own_apart11 HRA29.out hown (by decide))
  have HRB30 : Hid (w9.ownsRow w1.heap.size 33 3 (.slice pB' (n3 + 1) dB') (n3 + 1) (rulV (X.U ++ [(0, 0, 0)]))) := own_other11 HRB29.out hg (own_apart11 HRB29.out hown (by decide))
  have HRC30 : Hid (w9.ownsRow w1.heap.size 35 5 (.slice pC' (n2 + 1) dC') (n2 + 1) (prtV (X.O ++ [(0, 0, 0, 0, 0)]))) := own_other11 HRC29.out hg (own_apart11 HRC29.out hown (by decide))
  have HRF30 : Hid (w9.ownsRow w1.heap.size 37 2 (.slice pF' (n1 + 1) dF') (n1 + 1) (regsV (X.W ++ [(4, 1)]))) := by show World.ownsRow _ _ _ _ _ _ _; rw [regsV_append]; exact hown'
  clear HB29 HXs29 HXa29 HXb29 HXc29 HXd29 HXe29 HXf29 HRA29 HRB29 HRC29 HRF29
  clear hown hown' hg hbz
  have oF : x3.heap.size < w9.heap.size := row_lt HXf30.out
  have kf30 := boxO_cells HXf30.out
  have HB31 : Hid (Below w1.heap.size w1 (w9.setCell ⟨x3.heap.size, 1, none⟩ (.slice pF' (n1 + 1) dF'))) := HB30.out.setCell (by show w1.heap.size ≤ x3.heap.size; omega) _
  have HXs31 : Hid ((w9.setCell ⟨x3.heap.size, 1, none⟩ (.slice pF' (n1 + 1) dF')).heap[w1.heap.size]? = some (.cells #[.slice q0 n0 c0, .slice q1 n1 c1, .slice q2 n2 c2, .slice q3 n3 c3, .slice q4 n4 c4] 30)) := set_far HXs30.out (by omega)
  have HXa31 : Hid ((w9.setCell ⟨x3.heap.size, 1, none⟩ (.slice pF' (n1 + 1) dF')).heap[w1.heap.size + 1]? = some (.cells #[.slice q0 n0 c0, .slice q1 n1 c1, .slice q2 n2 c2, .slice q3 n3 c3, .slice pA' (n4 + 1) dA'] 30)) := set_far HXa30.out (by omega)
  have HXb31 : Hid ((w9.setCell ⟨x3.heap.size, 1, none⟩ (.slice pF' (n1 + 1) dF')).heap[w3.heap.size]? = some (.cells #[.slice q0 n0 c0, .slice q1 n1 c1, .slice q2 n2 c2, .slice pB' (n3 + 1) dB', .slice pA' (n4 + 1) dA'] 30)) := set_far HXb30.out (by omega)
  have HXc31 : Hid ((w9.setCell ⟨x3.heap.size, 1, none⟩ (.slice pF' (n1 + 1) dF')).heap[w5.heap.size]? = some (.cells #[.slice q0 n0 c0, .slice q1 n1 c1, .slice pC' (n2 + 1) dC', .slice pB' (n3 + 1) dB', .slice pA' (n4 + 1) dA'] 30)) := set_far HXc30.out (by omega)
  have HXd31 : Hid ((w9.setCell ⟨x3.heap.size, 1, none⟩ (.slice pF' (n1 + 1) dF')).heap[x1.heap.size]? = some (.cells #[.slice q0 n0 c0, .slice (some ⟨x5.heap.size, 0, none⟩) 0 0, .slice pC' (n2 + 1) dC', .slice pB' (n3 + 1) dB', .slice pA' (n4 + 1) dA'] 30)) := set_far HXd30.out (by omega)
  have HXe31 : Hid ((w9.setCell ⟨x3.heap.size, 1, none⟩ (.slice pF' (n1 + 1) dF')).heap[x2.heap.size]? = some (.cells #[.slice (some ⟨x6.heap.size, 0, none⟩) 0 0, .slice (some ⟨x5.heap.size, 0, none⟩) 0 0, .slice pC' (n2 + 1) dC', .slice pB' (n3 + 1) dB', .slice pA' (n4 + 1) dA'] 30)) := set_far HXe30.out (by omega)
  have HXf31 : Hid ((w9.setCell ⟨x3.heap.size, 1, none⟩ (.slice pF' (n1 + 1) dF')).heap[x3.heap.size]? = some (.cells #[.slice q0 n0 c0, .slice pF' (n1 + 1) dF', .slice q2 n2 c2, .slice q3 n3 c3, .slice q4 n4 c4] 30)) := set_row5 HXf30.out 1 _
  have HRA31 : Hid ((w9.setCell ⟨x3.heap.size, 1, none⟩ (.slice pF' (n1 + 1) dF')).ownsRow w1.heap.size 9 1 (.slice pA' (n4 + 1) dA') (n4 + 1) (S.strV (X.S ++ [⟨#[]⟩]))) := own_set11 HRA30.out (own_far11 HRA30.out HXf30.out (by decide))
  have HRB31 : Hid ((w9.setCell ⟨x3.heap.size, 1, none⟩ (.slice pF' (n1 + 1) dF')).ownsRow w1.heap.size 33 3 (.slice pB' (n3 + 1) dB') (n3 + 1) (rulV (X.U ++ [(0, 0, 0)]))) := own_set11 HRB30.out (own_far11 HRB30.out HXf30.out (by decide))
  have HRC31 : Hid ((w9.setCell ⟨x3.heap.size, 1, none⟩ (.slice pF' (n1 + 1) dF')).ownsRow w1.heap.size 35 5 (.slice pC' (n2 + 1) dC') (n2 + 1) (prtV (X.O ++ [(0, 0, 0, 0, 0)]))) := own_set11 HRC30.out (own_far11 HRC30.out HXf30.out (by decide))
  have HRF31 : Hid ((w9.setCell ⟨x3.heap.size, 1, none⟩ (.slice pF' (n1 + 1) dF')).ownsRow w1.heap.size 37 2 (.slice pF' (n1 + 1) dF') (n1 + 1) (regsV (X.W ++ [(4, 1)]))) := own_set11 HRF30.out (own_far11 HRF30.out HXf30.out (by decide))
  clear HB30 HXs30 HXa30 HXb30 HXc30 HXd30 HXe30 HXf30 HRA30 HRB30 HRC30 HRF30
  go_upto_region 16 with fail
  clear kf30
  obtain ⟨x4, hxx4⟩ : ∃ x, (w9.setCell ⟨x3.heap.size, 1, none⟩ (.slice pF' (n1 + 1) dF')) = x := ⟨_, rfl⟩
  rw [hxx4] at HB31 HXs31 HXa31 HXb31 HXc31 HXd31 HXe31 HXf31 HRA31 HRB31 HRC31 HRF31 ⊢
  clear hxx4
  have HFW : Hid (∀ V, Below x4.heap.size x4 V → Below w1.heap.size w1 V ∧ V.heap[w1.heap.size]? = some (.cells #[.slice q0 n0 c0, .slice q1 n1 c1, .slice q2 n2 c2, .slice q3 n3 c3, .slice q4 n4 c4] 30) ∧ V.heap[w1.heap.size + 1]? = some (.cells #[.slice q0 n0 c0, .slice q1 n1 c1, .slice q2 n2 c2, .slice q3 n3 c3, .slice pA' (n4 + 1) dA'] 30) ∧ V.heap[w3.heap.size]? = some (.cells #[.slice q0 n0 c0, .slice q1 n1 c1, .slice q2 n2 c2, .slice pB' (n3 + 1) dB', .slice pA' (n4 + 1) dA'] 30) ∧ V.heap[w5.heap.size]? = some (.cells #[.slice q0 n0 c0, .slice q1 n1 c1, .slice pC' (n2 + 1) dC', .slice pB' (n3 + 1) dB', .slice pA' (n4 + 1) dA'] 30) ∧ V.heap[x1.heap.size]? = some (.cells #[.slice q0 n0 c0, .slice (some ⟨x5.heap.size, 0, none⟩) 0 0, .slice pC' (n2 + 1) dC', .slice pB' (n3 + 1) dB', .slice pA' (n4 + 1) dA'] 30) ∧ V.heap[x2.heap.size]? = some (.cells #[.slice (some ⟨x6.heap.size, 0, none⟩) 0 0, .slice (some ⟨x5.heap.size, 0, none⟩) 0 0, .slice pC' (n2 + 1) dC', .slice pB' (n3 + 1) dB', .slice pA' (n4 + 1) dA'] 30) ∧ V.heap[x3.heap.size]? = some (.cells #[.slice q0 n0 c0, .slice pF' (n1 + 1) dF', .slice q2 n2 c2, .slice q3 n3 c3, .slice q4 n4 c4] 30) ∧ RdX V ⟨q0, n0, c0, q1, n1, c1, q2, n2, c2, q3, n3, c3, q4, n4, c4⟩ (X) ∧ RdX V ⟨q0, n0, c0, q1, n1, c1, q2, n2, c2, q3, n3, c3, pA', n4 + 1, dA'⟩ (xA X) ∧ RdX V ⟨q0, n0, c0, q1, n1, c1, q2, n2, c2, pB', n3 + 1, dB', pA', n4 + 1, dA'⟩ (xB X) ∧ RdX V ⟨q0, n0, c0, q1, n1, c1, pC', n2 + 1, dC', pB', n3 + 1, dB', pA', n4 + 1, dA'⟩ (xC X) ∧ RdX V ⟨q0, n0, c0, some ⟨x5.heap.size, 0, none⟩, 0, 0, pC', n2 + 1, dC', pB', n3 + 1, dB', pA', n4 + 1, dA'⟩ (xD X) ∧ RdX V ⟨some ⟨x6.heap.size, 0, none⟩, 0, 0, some ⟨x5.heap.size, 0, none⟩, 0, 0, pC', n2 + 1, dC', pB', n3 + 1, dB', pA', n4 + 1, dA'⟩ (xE X) ∧ RdX V ⟨q0, n0, c0, pF', n1 + 1, dF', q2, n2, c2, q3, n3, c3, q4, n4, c4⟩ (xF X)) := fun V hV => by
    have hb1 : Below w1.heap.size w1 V := bel_on (Nat.le_refl _) HB31.out hV
    have hr : RdX V ⟨q0, n0, c0, q1, n1, c1, q2, n2, c2, q3, n3, c3, q4, n4, c4⟩ X := (HO1.out.bel hb1).rd
    have oA4 := own_keep HRA31.out hV (own_lt HRA31.out)
    have oB3 := own_keep HRB31.out hV (own_lt HRB31.out)
    have oC2 := own_keep HRC31.out hV (own_lt HRC31.out)
    have oF1 := own_keep HRF31.out hV (own_lt HRF31.out)
    have lA : (X.S ++ [(⟨#[]⟩ : ByteArray)]).length = n4 + 1 := by rw [List.length_append, HLL.out.2.2.2.2]; rfl
    have lB : (X.U ++ [((0 : Int), (0 : Int), (0 : Int))]).length = n3 + 1 := by rw [List.length_append, HLL.out.2.2.2.1]; rfl
    have lC : (X.O ++ [((0 : Int), (0 : Int), (0 : Int), (0 : Int), (0 : Int))]).length = n2 + 1 := by rw [List.length_append, HLL.out.2.2.1]; rfl
    have lF : (X.W ++ [((4 : Int), (1 : Int))]).length = n1 + 1 := by rw [List.length_append, HLL.out.2.1]; rfl
    have rA : S.RdS V pA' (X.S ++ [(⟨#[]⟩ : ByteArray)]) := S.rdS_own oA4
    have rB : RdU V pB' (X.U ++ [((0 : Int), (0 : Int), (0 : Int))]) := OwnU.rd oB3
    have rC : RdO V pC' (X.O ++ [((0 : Int), (0 : Int), (0 : Int), (0 : Int), (0 : Int))]) := OwnO.rd oC2
    have rF : RdR V pF' (X.W ++ [((4 : Int), (1 : Int))]) := by obtain ⟨a, cap, hv, _, _, hr⟩ := own_rdR oF1; cases hv; exact hr
    exact ⟨hb1, row_on HXs31.out hV, row_on HXa31.out hV, row_on HXb31.out hV, row_on HXc31.out hV, row_on HXd31.out hV, row_on HXe31.out hV, row_on HXf31.out hV, ⟨hr.l0, hr.r0, hr.l1, hr.r1, hr.l2, hr.r2, hr.l3, hr.r3, hr.l4, hr.r4⟩, ⟨hr.l0, hr.r0, hr.l1, hr.r1, hr.l2, hr.r2, hr.l3, hr.r3, lA, rA⟩, ⟨hr.l0, hr.r0, hr.l1, hr.r1, hr.l2, hr.r2, lB, rB, lA, rA⟩, ⟨hr.l0, hr.r0, hr.l1, hr.r1, lC, rC, lB, rB, lA, rA⟩, ⟨hr.l0, hr.r0, rfl, (fun h => absurd h (Nat.lt_irrefl _)), lC, rC, lB, rB, lA, rA⟩, ⟨rfl, (fun h => absurd h (Nat.lt_irrefl _)), rfl, (fun h => absurd h (Nat.lt_irrefl _)), lC, rC, lB, rB, lA, rA⟩, ⟨hr.l0, hr.r0, lF, rF, hr.l2, hr.r2, hr.l3, hr.r3, hr.l4, hr.r4⟩⟩
  have HBS : Hid (S.bytesS X.S ≤ 1000) := by
    have h1 := bytes_le (l := X.S) (k := 120) HXR.out.num.s.2
    have h2 := HLL.out.2.2.2.2
    show _ ≤ _
    omega
  have ks31 := boxO_cells HXs31.out
  clear HB31 HXs31 HXa31 HXb31 HXc31 HXd31 HXe31 HXf31 HRA31 HRB31 HRC31 HRF31
  by_cases h4 : (n0 : Int) < 4
  · have HFF : Hid (FaultX (xF X) 6) := by
      have h1 := faultF HXR.out (by have := HLL.out.2.1; omega)
      rw [if_pos (by rw [HLL.out.1]; exact h4)] at h1
      exact h1
    have HQ0 : Hid (Below x4.heap.size x4 x4) := Below.refl _ _
    go_wp2_with fail
    refine (faultI ⟨q0, n0, c0, q1, n1, c1, q2, n2, c2, q3, n3, c3, q4, n4, c4⟩ (X) (0) (fault_zero HXR.out) _ ((HFW.out _ HQ0.out).2.2.2.2.2.2.2.2.1) (few_sm11 ⟨by show n0 ≤ 20; omega, by show n1 ≤ 20; omega, by show n2 ≤ 20; omega, by show n3 ≤ 20; omega, by show n4 ≤ 20; omega⟩ HBS.out) (right_wf HXR.out) HCAP.out (HG.out.on (bel_on (Nat.le_refl _) HB00.out (HFW.out _ HQ0.out).1))).mono ?_
    rintro e y1 ⟨rfl, hb⟩
    have HQ1 : Hid (Below x4.heap.size x4 y1) := bel_on (Nat.le_refl _) HQ0.out hb
    clear hb HQ0
    have kk1 := boxO_cells ((HFW.out _ HQ1.out).2.2.1)
    go_wp2_with fail
    refine (faultI ⟨q0, n0, c0, q1, n1, c1, q2, n2, c2, q3, n3, c3, pA', n4 + 1, dA'⟩ (xA X) (5) (faultA HXR.out) _ ((HFW.out _ HQ1.out).2.2.2.2.2.2.2.2.2.1) (few_sm11 ⟨by show n0 ≤ 20; omega, by show n1 ≤ 20; omega, by show n2 ≤ 20; omega, by show n3 ≤ 20; omega, by show n4 + 1 ≤ 20; omega⟩ (by show S.bytesS (X.S ++ [(⟨#[]⟩ : ByteArray)]) ≤ 1000; rw [bytes_nil]; exact HBS.out)) (show WfU X.U from right_wf HXR.out) HCAP.out (HG.out.on (bel_on (Nat.le_refl _) HB00.out (HFW.out _ HQ1.out).1))).mono ?_
    rintro e y2 ⟨rfl, hb⟩
    have HQ2 : Hid (Below x4.heap.size x4 y2) := bel_on (Nat.le_refl _) HQ1.out hb
    clear hb HQ1 kk1
    have kk2 := boxO_cells ((HFW.out _ HQ2.out).2.2.2.1)
    go_wp2_with fail
    refine (faultI ⟨q0, n0, c0, q1, n1, c1, q2, n2, c2, pB', n3 + 1, dB', pA', n4 + 1, dA'⟩ (xB X) (4) (faultB HXR.out) _ ((HFW.out _ HQ2.out).2.2.2.2.2.2.2.2.2.2.1) (few_sm11 ⟨by show n0 ≤ 20; omega, by show n1 ≤ 20; omega, by show n2 ≤ 20; omega, by show n3 + 1 ≤ 20; omega, by show n4 + 1 ≤ 20; omega⟩ (by show S.bytesS (X.S ++ [(⟨#[]⟩ : ByteArray)]) ≤ 1000; rw [bytes_nil]; exact HBS.out)) (show WfU (X.U ++ [(0, 0, 0)]) from wf_zero (right_wf HXR.out)) HCAP.out (HG.out.on (bel_on (Nat.le_refl _) HB00.out (HFW.out _ HQ2.out).1))).mono ?_
    rintro e y3 ⟨rfl, hb⟩
    have HQ3 : Hid (Below x4.heap.size x4 y3) := bel_on (Nat.le_refl _) HQ2.out hb
    clear hb HQ2 kk2
    have kk3 := boxO_cells ((HFW.out _ HQ3.out).2.2.2.2.1)
    go_wp2_with fail
    refine (faultI ⟨q0, n0, c0, q1, n1, c1, pC', n2 + 1, dC', pB', n3 + 1, dB', pA', n4 + 1, dA'⟩ (xC X) (3) (faultC HXR.out) _ ((HFW.out _ HQ3.out).2.2.2.2.2.2.2.2.2.2.2.1) (few_sm11 ⟨by show n0 ≤ 20; omega, by show n1 ≤ 20; omega, by show n2 + 1 ≤ 20; omega, by show n3 + 1 ≤ 20; omega, by show n4 + 1 ≤ 20; omega⟩ (by show S.bytesS (X.S ++ [(⟨#[]⟩ : ByteArray)]) ≤ 1000; rw [bytes_nil]; exact HBS.out)) (show WfU (X.U ++ [(0, 0, 0)]) from wf_zero (right_wf HXR.out)) HCAP.out (HG.out.on (bel_on (Nat.le_refl _) HB00.out (HFW.out _ HQ3.out).1))).mono ?_
    rintro e y4 ⟨rfl, hb⟩
    have HQ4 : Hid (Below x4.heap.size x4 y4) := bel_on (Nat.le_refl _) HQ3.out hb
    clear hb HQ3 kk3
    have kk4 := boxO_cells ((HFW.out _ HQ4.out).2.2.2.2.2.1)
    go_wp2_with fail
    refine (faultI ⟨q0, n0, c0, some ⟨x5.heap.size, 0, none⟩, 0, 0, pC', n2 + 1, dC', pB', n3 + 1, dB', pA', n4 + 1, dA'⟩ (xD X) (2) (faultD HXR.out) _ ((HFW.out _ HQ4.out).2.2.2.2.2.2.2.2.2.2.2.2.1) (few_sm11 ⟨by show n0 ≤ 20; omega, by show 0 ≤ 20; omega, by show n2 + 1 ≤ 20; omega, by show n3 + 1 ≤ 20; omega, by show n4 + 1 ≤ 20; omega⟩ (by show S.bytesS (X.S ++ [(⟨#[]⟩ : ByteArray)]) ≤ 1000; rw [bytes_nil]; exact HBS.out)) (show WfU (X.U ++ [(0, 0, 0)]) from wf_zero (right_wf HXR.out)) HCAP.out (HG.out.on (bel_on (Nat.le_refl _) HB00.out (HFW.out _ HQ4.out).1))).mono ?_
    rintro e y5 ⟨rfl, hb⟩
    have HQ5 : Hid (Below x4.heap.size x4 y5) := bel_on (Nat.le_refl _) HQ4.out hb
    clear hb HQ4 kk4
    have kk5 := boxO_cells ((HFW.out _ HQ5.out).2.2.2.2.2.2.1)
    go_wp2_with fail
    refine (faultI ⟨some ⟨x6.heap.size, 0, none⟩, 0, 0, some ⟨x5.heap.size, 0, none⟩, 0, 0, pC', n2 + 1, dC', pB', n3 + 1, dB', pA', n4 + 1, dA'⟩ (xE X) (1) (faultE HXR.out) _ ((HFW.out _ HQ5.out).2.2.2.2.2.2.2.2.2.2.2.2.2.1) (few_sm11 ⟨by show 0 ≤ 20; omega, by show 0 ≤ 20; omega, by show n2 + 1 ≤ 20; omega, by show n3 + 1 ≤ 20; omega, by show n4 + 1 ≤ 20; omega⟩ (by show S.bytesS (X.S ++ [(⟨#[]⟩ : ByteArray)]) ≤ 1000; rw [bytes_nil]; exact HBS.out)) (show WfU (X.U ++ [(0, 0, 0)]) from wf_zero (right_wf HXR.out)) (Nat.le_refl _) (HG.out.on (bel_on (Nat.le_refl _) HB00.out (HFW.out _ HQ5.out).1))).mono ?_
    rintro e y6 ⟨rfl, hb⟩
    have HQ6 : Hid (Below x4.heap.size x4 y6) := bel_on (Nat.le_refl _) HQ5.out hb
    clear hb HQ5 kk5
    have kk6 := boxO_cells ((HFW.out _ HQ6.out).2.2.2.2.2.2.2.1)
    go_wp2_with fail
    refine (faultI ⟨q0, n0, c0, pF', n1 + 1, dF', q2, n2, c2, q3, n3, c3, q4, n4, c4⟩ (xF X) (6) (HFF.out) _ ((HFW.out _ HQ6.out).2.2.2.2.2.2.2.2.2.2.2.2.2.2) (few_sm11 ⟨by show n0 ≤ 20; omega, by show n1 + 1 ≤ 20; omega, by show n2 ≤ 20; omega, by show n3 ≤ 20; omega, by show n4 ≤ 20; omega⟩ HBS.out) (show WfU X.U from right_wf HXR.out) HCAP.out (HG.out.on (bel_on (Nat.le_refl _) HB00.out (HFW.out _ HQ6.out).1))).mono ?_
    rintro e y7 ⟨rfl, hb⟩
    have HQ7 : Hid (Below x4.heap.size x4 y7) := bel_on (Nat.le_refl _) HQ6.out hb
    clear hb HQ6 kk6
    have HE : Hid (Below w0.heap.size w0 y7) := bel_on (Nat.le_refl _) HB00.out (HFW.out _ HQ7.out).1
    clear HQ7 HFW
    go_wp2
    go_ret
    exact ⟨rfl, HE.out⟩
  · have HFF : Hid (FaultX (xF X) 0) := by
      have h1 := faultF HXR.out (by have := HLL.out.2.1; omega)
      rw [if_neg (by rw [HLL.out.1]; exact h4)] at h1
      exact h1
    have HQ0 : Hid (Below x4.heap.size x4 x4) := Below.refl _ _
    go_wp2_with fail
    refine (faultI ⟨q0, n0, c0, q1, n1, c1, q2, n2, c2, q3, n3, c3, q4, n4, c4⟩ (X) (0) (fault_zero HXR.out) _ ((HFW.out _ HQ0.out).2.2.2.2.2.2.2.2.1) (few_sm11 ⟨by show n0 ≤ 20; omega, by show n1 ≤ 20; omega, by show n2 ≤ 20; omega, by show n3 ≤ 20; omega, by show n4 ≤ 20; omega⟩ HBS.out) (right_wf HXR.out) HCAP.out (HG.out.on (bel_on (Nat.le_refl _) HB00.out (HFW.out _ HQ0.out).1))).mono ?_
    rintro e y1 ⟨rfl, hb⟩
    have HQ1 : Hid (Below x4.heap.size x4 y1) := bel_on (Nat.le_refl _) HQ0.out hb
    clear hb HQ0
    have kk1 := boxO_cells ((HFW.out _ HQ1.out).2.2.1)
    go_wp2_with fail
    refine (faultI ⟨q0, n0, c0, q1, n1, c1, q2, n2, c2, q3, n3, c3, pA', n4 + 1, dA'⟩ (xA X) (5) (faultA HXR.out) _ ((HFW.out _ HQ1.out).2.2.2.2.2.2.2.2.2.1) (few_sm11 ⟨by show n0 ≤ 20; omega, by show n1 ≤ 20; omega, by show n2 ≤ 20; omega, by show n3 ≤ 20; omega, by show n4 + 1 ≤ 20; omega⟩ (by show S.bytesS (X.S ++ [(⟨#[]⟩ : ByteArray)]) ≤ 1000; rw [bytes_nil]; exact HBS.out)) (show WfU X.U from right_wf HXR.out) HCAP.out (HG.out.on (bel_on (Nat.le_refl _) HB00.out (HFW.out _ HQ1.out).1))).mono ?_
    rintro e y2 ⟨rfl, hb⟩
    have HQ2 : Hid (Below x4.heap.size x4 y2) := bel_on (Nat.le_refl _) HQ1.out hb
    clear hb HQ1 kk1
    have kk2 := boxO_cells ((HFW.out _ HQ2.out).2.2.2.1)
    go_wp2_with fail
    refine (faultI ⟨q0, n0, c0, q1, n1, c1, q2, n2, c2, pB', n3 + 1, dB', pA', n4 + 1, dA'⟩ (xB X) (4) (faultB HXR.out) _ ((HFW.out _ HQ2.out).2.2.2.2.2.2.2.2.2.2.1) (few_sm11 ⟨by show n0 ≤ 20; omega, by show n1 ≤ 20; omega, by show n2 ≤ 20; omega, by show n3 + 1 ≤ 20; omega, by show n4 + 1 ≤ 20; omega⟩ (by show S.bytesS (X.S ++ [(⟨#[]⟩ : ByteArray)]) ≤ 1000; rw [bytes_nil]; exact HBS.out)) (show WfU (X.U ++ [(0, 0, 0)]) from wf_zero (right_wf HXR.out)) HCAP.out (HG.out.on (bel_on (Nat.le_refl _) HB00.out (HFW.out _ HQ2.out).1))).mono ?_
    rintro e y3 ⟨rfl, hb⟩
    have HQ3 : Hid (Below x4.heap.size x4 y3) := bel_on (Nat.le_refl _) HQ2.out hb
    clear hb HQ2 kk2
    have kk3 := boxO_cells ((HFW.out _ HQ3.out).2.2.2.2.1)
    go_wp2_with fail
    refine (faultI ⟨q0, n0, c0, q1, n1, c1, pC', n2 + 1, dC', pB', n3 + 1, dB', pA', n4 + 1, dA'⟩ (xC X) (3) (faultC HXR.out) _ ((HFW.out _ HQ3.out).2.2.2.2.2.2.2.2.2.2.2.1) (few_sm11 ⟨by show n0 ≤ 20; omega, by show n1 ≤ 20; omega, by show n2 + 1 ≤ 20; omega, by show n3 + 1 ≤ 20; omega, by show n4 + 1 ≤ 20; omega⟩ (by show S.bytesS (X.S ++ [(⟨#[]⟩ : ByteArray)]) ≤ 1000; rw [bytes_nil]; exact HBS.out)) (show WfU (X.U ++ [(0, 0, 0)]) from wf_zero (right_wf HXR.out)) HCAP.out (HG.out.on (bel_on (Nat.le_refl _) HB00.out (HFW.out _ HQ3.out).1))).mono ?_
    rintro e y4 ⟨rfl, hb⟩
    have HQ4 : Hid (Below x4.heap.size x4 y4) := bel_on (Nat.le_refl _) HQ3.out hb
    clear hb HQ3 kk3
    have kk4 := boxO_cells ((HFW.out _ HQ4.out).2.2.2.2.2.1)
    go_wp2_with fail
    refine (faultI ⟨q0, n0, c0, some ⟨x5.heap.size, 0, none⟩, 0, 0, pC', n2 + 1, dC', pB', n3 + 1, dB', pA', n4 + 1, dA'⟩ (xD X) (2) (faultD HXR.out) _ ((HFW.out _ HQ4.out).2.2.2.2.2.2.2.2.2.2.2.2.1) (few_sm11 ⟨by show n0 ≤ 20; omega, by show 0 ≤ 20; omega, by show n2 + 1 ≤ 20; omega, by show n3 + 1 ≤ 20; omega, by show n4 + 1 ≤ 20; omega⟩ (by show S.bytesS (X.S ++ [(⟨#[]⟩ : ByteArray)]) ≤ 1000; rw [bytes_nil]; exact HBS.out)) (show WfU (X.U ++ [(0, 0, 0)]) from wf_zero (right_wf HXR.out)) HCAP.out (HG.out.on (bel_on (Nat.le_refl _) HB00.out (HFW.out _ HQ4.out).1))).mono ?_
    rintro e y5 ⟨rfl, hb⟩
    have HQ5 : Hid (Below x4.heap.size x4 y5) := bel_on (Nat.le_refl _) HQ4.out hb
    clear hb HQ4 kk4
    have kk5 := boxO_cells ((HFW.out _ HQ5.out).2.2.2.2.2.2.1)
    go_wp2_with fail
    refine (faultI ⟨some ⟨x6.heap.size, 0, none⟩, 0, 0, some ⟨x5.heap.size, 0, none⟩, 0, 0, pC', n2 + 1, dC', pB', n3 + 1, dB', pA', n4 + 1, dA'⟩ (xE X) (1) (faultE HXR.out) _ ((HFW.out _ HQ5.out).2.2.2.2.2.2.2.2.2.2.2.2.2.1) (few_sm11 ⟨by show 0 ≤ 20; omega, by show 0 ≤ 20; omega, by show n2 + 1 ≤ 20; omega, by show n3 + 1 ≤ 20; omega, by show n4 + 1 ≤ 20; omega⟩ (by show S.bytesS (X.S ++ [(⟨#[]⟩ : ByteArray)]) ≤ 1000; rw [bytes_nil]; exact HBS.out)) (show WfU (X.U ++ [(0, 0, 0)]) from wf_zero (right_wf HXR.out)) (Nat.le_refl _) (HG.out.on (bel_on (Nat.le_refl _) HB00.out (HFW.out _ HQ5.out).1))).mono ?_
    rintro e y6 ⟨rfl, hb⟩
    have HQ6 : Hid (Below x4.heap.size x4 y6) := bel_on (Nat.le_refl _) HQ5.out hb
    clear hb HQ5 kk5
    have kk6 := boxO_cells ((HFW.out _ HQ6.out).2.2.2.2.2.2.2.1)
    go_wp2_with fail
    refine (faultI ⟨q0, n0, c0, pF', n1 + 1, dF', q2, n2, c2, q3, n3, c3, q4, n4, c4⟩ (xF X) (0) (HFF.out) _ ((HFW.out _ HQ6.out).2.2.2.2.2.2.2.2.2.2.2.2.2.2) (few_sm11 ⟨by show n0 ≤ 20; omega, by show n1 + 1 ≤ 20; omega, by show n2 ≤ 20; omega, by show n3 ≤ 20; omega, by show n4 ≤ 20; omega⟩ HBS.out) (show WfU X.U from right_wf HXR.out) HCAP.out (HG.out.on (bel_on (Nat.le_refl _) HB00.out (HFW.out _ HQ6.out).1))).mono ?_
    rintro e y7 ⟨rfl, hb⟩
    have HQ7 : Hid (Below x4.heap.size x4 y7) := bel_on (Nat.le_refl _) HQ6.out hb
    clear hb HQ6 kk6
    have HE : Hid (Below w0.heap.size w0 y7) := bel_on (Nat.le_refl _) HB00.out (HFW.out _ HQ7.out).1
    clear HQ7 HFW
    go_wp2
    go_ret
    exact ⟨rfl, HE.out⟩
end Go.Proofs.YtadbekhekggpkaaDoor

namespace Go.Proofs.YtadbekhekggpkaaDoor
open Go.ChangeShapes Go.WideShapes Go.ChangeAt Go.RowKit

theorem h_et : Tryd.prog.globalNamed "errors.errorType" = some 0 := by kernel_rfl
theorem h_oneRow : ((List.range 200).filter fun t => Tryd.prog.rowNamed t [101, 114, 114, 111, 114]) = [58] := by kernel_rfl
theorem h_size : Tryd.prog.types.size = 200 := by kernel_rfl
theorem handle_of {W : World} (h : laidMetH Tryd.prog [("errors.errorType", Rows.laid_errors_errorType)] W) : Hnd W := by
  have h' : laidMet Tryd.prog [] W ∧ handlesMet Tryd.prog [("errors.errorType", Rows.laid_errors_errorType)] W := h
  obtain ⟨name, u, ty, e1, e2, e3, e4, e5⟩ := h'.2 _ (List.mem_singleton.2 rfl)
  have en : name = [101, 114, 114, 111, 114] := (Option.some.inj e1).symm
  subst en
  have hu : some u = some 138 := e2.symm.trans (by kernel_rfl)
  obtain rfl := (Option.some.inj hu).symm
  have hm : ty ∈ (List.range 200).filter fun t => Tryd.prog.rowNamed t [101, 114, 114, 111, 114] := List.mem_filter.2 ⟨List.mem_range.2 (by rw [← h_size]; exact e3), e4⟩
  rw [h_oneRow] at hm
  obtain rfl := List.mem_singleton.1 hm
  have hh : typeHandle Tryd.prog 58 = .pointer (some ⟨1, 58, none⟩) := by kernel_rfl
  rw [hh] at e5
  show W.cell? _ = _
  simpa using World.var?_cell h_et e5 0
def setRowH (cs : Array Value) : Obj → Obj
  | .cells _ t frozen => .cells cs t frozen
  | o => o
/-- a world whose variable holds the handle -/
def layH (w : World) : World := { w with heap := w.heap.modify 0 (setRowH #[.iface 138 (.agg #[.pointer (some ⟨1, 58, none⟩)])]) }
end Go.Proofs.YtadbekhekggpkaaDoor

namespace Go.Proofs.YtadbekhekggpkaaDoor
open Go.ChangeShapes Go.WideShapes Go.ChangeAt Go.RowKit Go.PlainAid
set_option linter.unusedVariables false

/-- what the walk is told of a list of bytes that came in -/
def IsRow (k : IntKind) (w : World) (a : Option Addr) (len cap : Nat) (zs : List Int) : Prop :=
  (a = none ∧ len = 0 ∧ cap = 0 ∧ zs = []) ∨
  ∃ x, a = some x ∧ len ≤ cap ∧ cap ≤ maxLen ∧ zs.length = cap ∧ (∀ i, i < zs.length → w.cell? (x.add i) = some (.int k (zs.getD i 0))) ∧ ∀ n ∈ zs, (Lit.int k n).wf = true

theorem byte_wf {n : Int} (h : (Lit.int .u8 n).wf = true) : 0 ≤ n ∧ n ≤ 255 := by
  simpa [Lit.wf, IntKind.min, IntKind.max, IntKind.signed, IntKind.bits] using h

theorem code_of_row {w : World} {a : Option Addr} {len cap : Nat} {zs : List Int} (h : IsRow .u8 w a len cap zs) (hl : len ≤ 1048576) : CodeOk w w.heap.size a len := by
  refine ⟨hl, fun hp => ?_⟩
  rcases h with ⟨rfl, rfl, rfl, rfl⟩ | ⟨x, rfl, h1, h2, h3, h4, h5⟩
  · omega
  · obtain ⟨b, off, rfl, hc⟩ := ints_at h4 (by omega)
    refine ⟨b, off, rfl, ?_, fun j hj => ?_⟩
    · have := hc 0 (by omega)
      exact World.block_lt_of_cell? w _ this
    · have hj' : j < zs.length := by omega
      have hm : zs.getD j 0 ∈ zs := by simp [List.getD_eq_getElem?_getD, List.getElem?_eq_getElem hj']
      have hw := byte_wf (h5 _ hm)
      exact ⟨zs.getD j 0, hw.1, hw.2, hc j hj'⟩

set_option maxRecDepth 100000 in
theorem open_code {H : Type} {enc : TypeId × Value → H} {W : World} {base : Nat} {held : Bool} {v : Value} {d : DataW H} {ps : List MemPlace} {bs : Nat}
    (hv : Value.okWide Tryd.prog W .any base 22 v) (h : DataW.Trod enc Tryd.prog W bs (fun _ => true) held 22 v d ps) :
    ∃ a len cap zs, v = .slice a len cap ∧ IsRow .u8 W a len cap zs := by
  obtain ⟨a, len, cap, rfl⟩ := okWide_slice Tryd.underlying22 hv
  obtain ⟨fuel, hf⟩ := h
  rcases open_ints Tryd.underlying22 Tryd.underlying5 (by kernel_rfl) hf with ⟨hcs, _⟩ | ⟨x, l, c, zs, hcs, _, hl, hm, hz, _, hcell, hwz⟩
  · simp [Value.cells] at hcs
    obtain ⟨rfl, rfl, rfl⟩ := hcs
    exact ⟨none, 0, 0, [], rfl, .inl ⟨rfl, rfl, rfl, rfl⟩⟩
  · simp [Value.cells] at hcs
    obtain ⟨rfl, rfl, rfl⟩ := hcs
    exact ⟨_, _, _, zs, rfl, .inr ⟨_, rfl, hl, hm, by simpa using hz, hcell, hwz⟩⟩
end Go.Proofs.YtadbekhekggpkaaDoor

namespace Go.Proofs.YtadbekhekggpkaaDoor.fnFaults
open Go.ChangeShapes Go.WideShapes Go.ChangeAt Go.RowKit Go.PlainAid
open Go.ChangeMaps (open_string shut_string)
set_option linter.unusedVariables false

theorem own : ownKnob Tryd.prog.godebug = none := by kernel_rfl
theorem laidOut : laidOutB Tryd.prog = true := by kernel_rfl

theorem walk (a0 : Option Addr) (len0 cap0 : Nat) (z0 : List Int) (w : World) (w0 : IsRow .u8 w a0 len0 cap0 z0) (hg : Hnd w) :
    Calls Tryd.prog 3 #[.slice a0 len0 cap0] w fun e w' => e = .returned (.bool true) ∧ Below w.heap.size w w' := by
  have hlen : len0 ≤ 9223372036854775807 := by
    rcases w0 with ⟨_, h, _⟩ | ⟨x, _, h1, h2, _⟩
    · omega
    · unfold maxLen at h2; omega
  by_cases hb : len0 ≤ 1048576
  · exact faultsIn a0 len0 cap0 hb w (code_of_row w0 hb) hg
  · have hb' : 1048576 < len0 := by omega
    clear hg
    go_enter Tryd.func3, Tryd.ntmps3
    go_wp2_with fail
    refine (big5 a0 len0 cap0 hlen _).mono ?_
    rintro e w1 ⟨rfl, rfl⟩
    rw [decide_eq_true (by omega)]
    go_wp2
    go_ret
    exact ⟨rfl, Below.refl _ _⟩

set_option maxRecDepth 100000 in
theorem contract (H : Type) (enc : TypeId × Value → H) (W : World) (base : Nat) (args : Array Value) (ds gs : List (DataW H)) (before : List MemPlace)
    (hval : ∀ (j : Nat) t v, Tryd.f3.params[j]? = some t → args[j]? = some v → Value.okWide Tryd.prog W .any base t v)
    (hW : DataW.Whole enc Tryd.prog Tryd.f3.params.toList Rows.fnFaultsSpec.vars false W args.toList ds gs before) (hL : laidMetH Tryd.prog Rows.fnFaultsRow.laid W) :
    Calls Tryd.prog 3 args W fun e W' => ∃ v, e = .returned v ∧ Rows.fnFaultsSpec.post enc Tryd.prog Tryd.f3 false true false false W args v W' := by
  have hW' := hW
  obtain ⟨p, q, hA0, hV, rfl, hfz, hnd⟩ := hW
  have hA : DataW.TrodAll enc Tryd.prog W 0 (fun _ => true) true Tryd.f3.params.toList args.toList ds p := hA0
  rw [Tryd.params3] at hA hval
  obtain ⟨v0, vs0, d0, ds0, p0, q0, hargs, rfl, rfl, h0, r0⟩ := trodAll_cons hA
  obtain ⟨rfl, rfl, rfl⟩ := trodAll_nil r0
  obtain rfl : args = #[v0] := by cases args; simp_all
  obtain ⟨rfl, rfl⟩ := trodVars_none hV
  have k0 := h0
  have lt0 : ∀ x ∈ p0, x.block < W.heap.size := by obtain ⟨m, hm⟩ := k0; exact DataW.trod_lt m _ _ _ hm
  obtain ⟨a0, len0, cap0, z0, rfl, w0⟩ := open_code (hval 0 22 v0 rfl rfl) h0
  clear hA0
  refine (walk a0 len0 cap0 z0 W w0 (handle_of hL)).mono fun e W' ⟨he, bel⟩ => ?_
  subst he
  exact ⟨_, rfl, _, _, _, [], _, [], hW', trodAll_mk1 (shut_bool Tryd.underlying4 _), (trodAll_cons_mk (Below.trod laidOut (by kernel_rfl) (of_decide_eq_true (by kernel_rfl)) k0 bel lt0) trodAll_mk0), rfl, bel.frame _, fun h => by cases h⟩

set_option maxRecDepth 100000 in
theorem laid_met (os : Os) : laidMetH Tryd.prog Rows.fnFaultsRow.laid ((layH (World.holding Tryd.prog os ⟨#[], #[], []⟩)).forCall (fun _ _ => 0) ⟨#[], #[.slice none 0 0], []⟩).memory :=
  laidMetH_of_parts (laidMet_nil _ _) (by kernel_rfl)
set_option maxRecDepth 100000 in
theorem reads (os : Os) {H : Type} (enc : TypeId × Value → H) : ∃ places, DataW.whole enc Tryd.prog ((layH (World.holding Tryd.prog os ⟨#[], #[], []⟩)).forCall (fun _ _ => 0) ⟨#[], #[.slice none 0 0], []⟩).memory Tryd.f3.params.toList Rows.fnFaultsSpec.vars false #[Value.slice none 0 0].toList 8 = some ([.nil], [], places) :=
  ⟨[], by kernel_rfl⟩

set_option maxRecDepth 100000 in
theorem lifted (os : Os) (started : os.Started) (H : Type) (enc : TypeId × Value → H) (F : Stop.Interp) :
    ReturnsInHanded {} Tryd.checked os 3 .any ((OpenSpec.ofChange Rows.fnFaultsSpec).preRow enc Tryd.prog Tryd.f3 Rows.fnFaultsRow.domain false Rows.fnFaultsRow.laid) (((OpenSpec.ofChange Rows.fnFaultsSpec).at F).post enc Tryd.prog Tryd.f3 false true false false) := by
  obtain ⟨places, hx⟩ := reads os enc
  refine returnsInHanded_of_row (C := Tryd.checked) (s := OpenSpec.ofChange Rows.fnFaultsSpec) own started (by kernel_rfl) Tryd.func3
    (witness_row_at (enc := enc) (C := Tryd.checked) false (layH (World.holding Tryd.prog os ⟨#[], #[], []⟩)) #[.slice none 0 0] rfl (by kernel_rfl) (by kernel_rfl) (by kernel_rfl)
      (OpenSpec.preRow_of_cond 8 hx (by kernel_rfl) (fun k hk => by cases hk) (by kernel_rfl) (laid_met os))) ?_
  intro W base args ds gs before hval hW _ _ _ hL _ _
  exact contract H enc W base args ds gs before hval hW hL

theorem said : Rows.FnFaultsSaid :=
  OpenClaim.holds_of_cond 3 Tryd.f3 rfl rfl rfl rfl rfl rfl rfl ⟨rfl, rfl, rfl, rfl, rfl⟩ rfl rfl rfl rfl rfl (by kernel_rfl) Tryd.func3 (by kernel_rfl)
    (of_decide_eq_true (by kernel_rfl)) (by unfold Func.isWrapper; first | (rw [if_pos (by decide +kernel)]; kernel_rfl) | (rw [if_neg (by decide +kernel)]; exact ⟨rfl, rfl⟩))
    (fun os started H enc _ F => by rw [OpenClaim.pre_eq_preRow]; exact lifted os started H enc F)

theorem plain (f : FuncId) (fn : Func) (hf : Tryd.pinned.checked.prog.funcNamed Rows.fnFaultsRow.func = some f) (hfn : Tryd.pinned.checked.prog.funcs[f]? = some fn) :
    true = Tryd.pinned.checked.prog.looks [] ∧ ∀ (j : Nat) t, fn.params[j]? = some t → Tryd.pinned.checked.prog.wantsStandIn t = false := by
  obtain rfl : f = 3 := Option.some.inj ((show Tryd.prog.funcNamed Rows.fnFaultsRow.func = some 3 by kernel_rfl).symm.trans hf) |>.symm
  obtain rfl : fn = Tryd.f3 := (Option.some.inj (Tryd.func3.symm.trans hfn)).symm
  refine ⟨by kernel_rfl, fun j t ht => ?_⟩
  rw [Tryd.params3] at ht
  obtain rfl : t = 22 := by simpa using Array.mem_of_getElem? ht
  exact (show Tryd.prog.wantsStandIn 22 = false by kernel_rfl)

theorem card : Rows.FnFaultsCardSaid :=
  Claim7.holds_tied_plain_at .later [] _ _ _ _ said (fun _ h => by cases h) (by kernel_rfl) (fun _ h => by cases h) fnFaults_row_tie rfl ⟨rfl, rfl⟩ (by kernel_rfl) rfl plain (by kernel_rfl)

end Go.Proofs.YtadbekhekggpkaaDoor.fnFaults
namespace Go.Proofs.YtadbekhekggpkaaDoor
theorem fnFaults_card : Rows.FnFaultsCardSaid :=
  fnFaults.card
#print axioms fnFaults_card
end Go.Proofs.YtadbekhekggpkaaDoor
