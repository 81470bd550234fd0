/-
  The places of a right set-up's text.
-/
import Derived.Test.YtadbekhekggpkaaGreatDoorRS11
namespace Go.Proofs.YtadbekhekggpkaaGreatDoor
open Go.RowKit Go.PlainAid
set_option linter.unusedVariables false

theorem tail0 (Y : SX) : txt Y = vX Y.R.length ++ pT Y.R ++ (vX Y.W.length ++ (pT Y.W ++ (vX Y.O.length ++ (oT Y.O ++ (vX Y.U.length ++ (uT Y.U ++ sT Y.S)))))) := by
  unfold txt tD tC tB tA
  simp only [ba_assoc]
theorem tail1 (Y : SX) : txt Y = tA Y ++ vX Y.W.length ++ pT Y.W ++ (vX Y.O.length ++ (oT Y.O ++ (vX Y.U.length ++ (uT Y.U ++ sT Y.S)))) := by
  unfold txt tD tC tB tA
  simp only [ba_assoc]
theorem tail2 (Y : SX) : txt Y = tB Y ++ vX Y.O.length ++ oT Y.O ++ (vX Y.U.length ++ (uT Y.U ++ sT Y.S)) := by
  unfold txt tD tC tB tA
  simp only [ba_assoc]
theorem tail3 (Y : SX) : txt Y = tC Y ++ vX Y.U.length ++ uT Y.U ++ (sT Y.S) := by
  unfold txt tD tC tB tA
  simp only [ba_assoc]
theorem tail4 (Y : SX) : txt Y = tD Y ++ sT Y.S ++ (⟨#[]⟩) := by
  unfold txt tD tC tB tA
  simp only [ba_assoc, ba_nil]
theorem cnt0 (Y : SX) : ∃ r, txt Y = (⟨#[]⟩ : ByteArray) ++ vX Y.R.length ++ r := by
  refine ⟨pT Y.R ++ (vX Y.W.length ++ (pT Y.W ++ (vX Y.O.length ++ (oT Y.O ++ (vX Y.U.length ++ (uT Y.U ++ sT Y.S)))))), ?_⟩
  rw [tail0 Y]
  simp only [ba_assoc, ba_nil']
theorem cnt1 (Y : SX) : ∃ r, txt Y = tA Y ++ vX Y.W.length ++ r := by
  refine ⟨pT Y.W ++ (vX Y.O.length ++ (oT Y.O ++ (vX Y.U.length ++ (uT Y.U ++ sT Y.S)))), ?_⟩
  rw [tail1 Y]
  simp only [ba_assoc]
theorem cnt2 (Y : SX) : ∃ r, txt Y = tB Y ++ vX Y.O.length ++ r := by
  refine ⟨oT Y.O ++ (vX Y.U.length ++ (uT Y.U ++ sT Y.S)), ?_⟩
  rw [tail2 Y]
  simp only [ba_assoc]
theorem cnt3 (Y : SX) : ∃ r, txt Y = tC Y ++ vX Y.U.length ++ r := by
  refine ⟨uT Y.U ++ (sT Y.S), ?_⟩
  rw [tail3 Y]
  simp only [ba_assoc]
theorem spl0_0 {Y : SX} {n : Nat} (h : n < Y.R.length) : ∃ r, txt Y = (vX Y.R.length ++ pT (Y.R.take n)) ++ vX (Y.R[n]).1 ++ r := by
  obtain ⟨r, hr⟩ := pT_split h
  refine ⟨vX (Y.R[n]).2 ++ r ++ (vX Y.W.length ++ (pT Y.W ++ (vX Y.O.length ++ (oT Y.O ++ (vX Y.U.length ++ (uT Y.U ++ sT Y.S)))))), ?_⟩
  rw [tail0 Y, hr]
  simp only [ba_assoc]
theorem spl0_1 {Y : SX} {n : Nat} (h : n < Y.R.length) : ∃ r, txt Y = (vX Y.R.length ++ pT (Y.R.take n)) ++ vX (Y.R[n]).1 ++ vX (Y.R[n]).2 ++ r := by
  obtain ⟨r, hr⟩ := pT_split h
  refine ⟨r ++ (vX Y.W.length ++ (pT Y.W ++ (vX Y.O.length ++ (oT Y.O ++ (vX Y.U.length ++ (uT Y.U ++ sT Y.S)))))), ?_⟩
  rw [tail0 Y, hr]
  simp only [ba_assoc]
theorem spl1_0 {Y : SX} {n : Nat} (h : n < Y.W.length) : ∃ r, txt Y = (tA Y ++ vX Y.W.length ++ pT (Y.W.take n)) ++ vX (Y.W[n]).1 ++ r := by
  obtain ⟨r, hr⟩ := pT_split h
  refine ⟨vX (Y.W[n]).2 ++ r ++ (vX Y.O.length ++ (oT Y.O ++ (vX Y.U.length ++ (uT Y.U ++ sT Y.S)))), ?_⟩
  rw [tail1 Y, hr]
  simp only [ba_assoc]
theorem spl1_1 {Y : SX} {n : Nat} (h : n < Y.W.length) : ∃ r, txt Y = (tA Y ++ vX Y.W.length ++ pT (Y.W.take n)) ++ vX (Y.W[n]).1 ++ vX (Y.W[n]).2 ++ r := by
  obtain ⟨r, hr⟩ := pT_split h
  refine ⟨r ++ (vX Y.O.length ++ (oT Y.O ++ (vX Y.U.length ++ (uT Y.U ++ sT Y.S)))), ?_⟩
  rw [tail1 Y, hr]
  simp only [ba_assoc]
theorem spl2_0 {Y : SX} {n : Nat} (h : n < Y.O.length) : ∃ r, txt Y = (tB Y ++ vX Y.O.length ++ oT (Y.O.take n)) ++ vX (Y.O[n]).1 ++ r := by
  obtain ⟨r, hr⟩ := oT_split h
  refine ⟨vX (Y.O[n]).2.1 ++ vX (Y.O[n]).2.2.1 ++ vX (Y.O[n]).2.2.2.1 ++ vX (Y.O[n]).2.2.2.2 ++ r ++ (vX Y.U.length ++ (uT Y.U ++ sT Y.S)), ?_⟩
  rw [tail2 Y, hr]
  simp only [ba_assoc]
theorem spl2_1 {Y : SX} {n : Nat} (h : n < Y.O.length) : ∃ r, txt Y = (tB Y ++ vX Y.O.length ++ oT (Y.O.take n)) ++ vX (Y.O[n]).1 ++ vX (Y.O[n]).2.1 ++ r := by
  obtain ⟨r, hr⟩ := oT_split h
  refine ⟨vX (Y.O[n]).2.2.1 ++ vX (Y.O[n]).2.2.2.1 ++ vX (Y.O[n]).2.2.2.2 ++ r ++ (vX Y.U.length ++ (uT Y.U ++ sT Y.S)), ?_⟩
  rw [tail2 Y, hr]
  simp only [ba_assoc]
theorem spl2_2 {Y : SX} {n : Nat} (h : n < Y.O.length) : ∃ r, txt Y = (tB Y ++ vX Y.O.length ++ oT (Y.O.take n)) ++ vX (Y.O[n]).1 ++ vX (Y.O[n]).2.1 ++ vX (Y.O[n]).2.2.1 ++ r := by
  obtain ⟨r, hr⟩ := oT_split h
  refine ⟨vX (Y.O[n]).2.2.2.1 ++ vX (Y.O[n]).2.2.2.2 ++ r ++ (vX Y.U.length ++ (uT Y.U ++ sT Y.S)), ?_⟩
  rw [tail2 Y, hr]
  simp only [ba_assoc]
theorem spl2_3 {Y : SX} {n : Nat} (h : n < Y.O.length) : ∃ r, txt Y = (tB Y ++ vX Y.O.length ++ oT (Y.O.take n)) ++ vX (Y.O[n]).1 ++ vX (Y.O[n]).2.1 ++ vX (Y.O[n]).2.2.1 ++ vX (Y.O[n]).2.2.2.1 ++ r := by
  obtain ⟨r, hr⟩ := oT_split h
  refine ⟨vX (Y.O[n]).2.2.2.2 ++ r ++ (vX Y.U.length ++ (uT Y.U ++ sT Y.S)), ?_⟩
  rw [tail2 Y, hr]
  simp only [ba_assoc]
theorem spl2_4 {Y : SX} {n : Nat} (h : n < Y.O.length) : ∃ r, txt Y = (tB Y ++ vX Y.O.length ++ oT (Y.O.take n)) ++ vX (Y.O[n]).1 ++ vX (Y.O[n]).2.1 ++ vX (Y.O[n]).2.2.1 ++ vX (Y.O[n]).2.2.2.1 ++ vX (Y.O[n]).2.2.2.2 ++ r := by
  obtain ⟨r, hr⟩ := oT_split h
  refine ⟨r ++ (vX Y.U.length ++ (uT Y.U ++ sT Y.S)), ?_⟩
  rw [tail2 Y, hr]
  simp only [ba_assoc]
theorem spl3_0 {Y : SX} {n : Nat} (h : n < Y.U.length) : ∃ r, txt Y = (tC Y ++ vX Y.U.length ++ uT (Y.U.take n)) ++ vX (Y.U[n]).1 ++ r := by
  obtain ⟨r, hr⟩ := uT_split h
  refine ⟨vX (Y.U[n]).2.1 ++ vX (Y.U[n]).2.2 ++ r ++ (sT Y.S), ?_⟩
  rw [tail3 Y, hr]
  simp only [ba_assoc]
theorem spl3_1 {Y : SX} {n : Nat} (h : n < Y.U.length) : ∃ r, txt Y = (tC Y ++ vX Y.U.length ++ uT (Y.U.take n)) ++ vX (Y.U[n]).1 ++ vX (Y.U[n]).2.1 ++ r := by
  obtain ⟨r, hr⟩ := uT_split h
  refine ⟨vX (Y.U[n]).2.2 ++ r ++ (sT Y.S), ?_⟩
  rw [tail3 Y, hr]
  simp only [ba_assoc]
theorem spl3_2 {Y : SX} {n : Nat} (h : n < Y.U.length) : ∃ r, txt Y = (tC Y ++ vX Y.U.length ++ uT (Y.U.take n)) ++ vX (Y.U[n]).1 ++ vX (Y.U[n]).2.1 ++ vX (Y.U[n]).2.2 ++ r := by
  obtain ⟨r, hr⟩ := uT_split h
  refine ⟨r ++ (sT Y.S), ?_⟩
  rw [tail3 Y, hr]
  simp only [ba_assoc]
theorem spl4 {Y : SX} {n : Nat} (h : n < Y.S.length) : ∃ r, txt Y = (tD Y ++ sT (Y.S.take n)) ++ vX (Y.S[n]).size ++ Y.S[n] ++ r := by
  obtain ⟨r, hr⟩ := sT_split h
  refine ⟨r, ?_⟩
  rw [tail4 Y, hr]
  simp only [ba_assoc, ba_nil]
theorem sum_step {t : ByteArray} {Y : SX} (hY : txt Y = t) {p : ByteArray} {m n : Int} {a a' : Nat} {b b' : Bool} (hs : StepV t a b n a' b') (hb : b = false) (ha : a = p.size) (hsp : ∃ r, txt Y = p ++ vX m ++ r) (h0 : 0 ≤ m) (h1 : m ≤ 1000) : n = m ∧ b' = false ∧ a' = (p ++ vX m).size := by
  obtain ⟨r, hr⟩ := hsp
  exact stepV_at ⟨hb, ha⟩ (hY.symm.trans hr) h0 h1 hs
/-- what is read is small -/
structure SmR (s : SH) (X : SX) : Prop where
  n0 : s.n0 ≤ 50
  n1 : s.n1 ≤ 50
  n2 : s.n2 ≤ 50
  n3 : s.n3 ≤ 50
  n4 : s.n4 ≤ 50
  b : S.bytesS X.S ≤ 20000 * s.n4
  u : WfU X.U
theorem SmR.sm {s : SH} {X : SX} (h : SmR s X) : SmX s X := ⟨Nat.le_trans h.n0 (by decide), Nat.le_trans h.n1 (by decide), Nat.le_trans h.n2 (by decide), Nat.le_trans h.n3 (by decide), Nat.le_trans h.n4 (by decide), by have := h.b; have := h.n4; omega⟩
theorem wf_big {n : Int} (h0 : 0 ≤ n) (h1 : n ≤ 1000000000) : wfI n := WalkArith.wf_i64 (by omega)
theorem wfU_add {l : List Rule} {x y z : Int} (h : WfU l) (hx : wfI x) (hy : wfI y) (hz : wfI z) : WfU (l ++ [(x, y, z)]) := fun j hj => by
  by_cases h' : j < l.length
  · rw [List.getElem_append_left h']
    exact h j h'
  · have e : j = l.length := by simp at hj; omega
    subst e
    simp
    exact ⟨hx, hy, hz⟩
theorem bytesS_add (l : List ByteArray) (x : ByteArray) : S.bytesS (l ++ [x]) = S.bytesS l + x.size := by
  induction l with
  | nil => simp [S.bytesS]
  | cons s t ih => simp only [List.cons_append, S.bytesS, ih]; omega
/-- no list's block is k -/
structure NeX (k : Nat) (s : SH) : Prop where
  n0 : (Value.slice s.q0 s.n0 s.c0).ownBlock ≠ some k
  n1 : (Value.slice s.q1 s.n1 s.c1).ownBlock ≠ some k
  n2 : (Value.slice s.q2 s.n2 s.c2).ownBlock ≠ some k
  n3 : (Value.slice s.q3 s.n3 s.c3).ownBlock ≠ some k
  n4 : (Value.slice s.q4 s.n4 s.c4).ownBlock ≠ some k
theorem OwnX.ne {W : World} {B : Nat} {s : SH} {X : SX} (h : OwnX W B s X) : NeX W.heap.size s :=
  ⟨fun e => Nat.lt_irrefl _ (own_lt h.o0 _ e), fun e => Nat.lt_irrefl _ (own_lt h.o1 _ e), fun e => Nat.lt_irrefl _ (own_lt h.o2 _ e), fun e => Nat.lt_irrefl _ (own_lt h.o3 _ e), fun e => Nat.lt_irrefl _ (own_lt h.o4 _ e)⟩
theorem OwnX.put5 {W : World} {B k : Nat} {s : SH} {X : SX} {a b c d e : Value} (h : OwnX W B s X) (hn : NeX k s) : OwnX (((((W.setCell ⟨k, 0, none⟩ a).setCell ⟨k, 1, none⟩ b).setCell ⟨k, 2, none⟩ c).setCell ⟨k, 3, none⟩ d).setCell ⟨k, 4, none⟩ e) B s X :=
  ⟨own_set11 (own_set11 (own_set11 (own_set11 (own_set11 h.o0 hn.n0) hn.n0) hn.n0) hn.n0) hn.n0, own_set11 (own_set11 (own_set11 (own_set11 (own_set11 h.o1 hn.n1) hn.n1) hn.n1) hn.n1) hn.n1, own_set11 (own_set11 (own_set11 (own_set11 (own_set11 h.o2 hn.n2) hn.n2) hn.n2) hn.n2) hn.n2, own_set11 (own_set11 (own_set11 (own_set11 (own_set11 h.o3 hn.n3) hn.n3) hn.n3) hn.n3) hn.n3, own_set11 (own_set11 (own_set11 (own_set11 (own_set11 h.o4 hn.n4) hn.n4) hn.n4) hn.n4) hn.n4⟩
theorem RS.put {w W : World} {t : ByteArray} {a : Nat} {b : Bool} {s : SH} {X : SX} {k : Nat} (h : RS w W t a b s X) (hk : w.heap.size + 1 + 1 < k) (hn : NeX k s) (i : Nat) (x : Value) : RS w (W.setCell ⟨k, i, none⟩ x) t a b s X :=
  ⟨h.bl.setCell (by show _ ≤ k; omega) _, set_far h.z (by omega), set_far h.c (by omega), set_far h.sb (by omega), ⟨own_set11 h.o.o0 hn.n0, own_set11 h.o.o1 hn.n1, own_set11 h.o.o2 hn.n2, own_set11 h.o.o3 hn.n3, own_set11 h.o.o4 hn.n4⟩⟩
theorem RS.low {w W : World} {t : ByteArray} {a : Nat} {b : Bool} {s : SH} {X : SX} (h : RS w W t a b s X) : w.heap.size + 1 + 1 < W.heap.size := row_lt h.sb
theorem RS.sbg {w W W' : World} {t : ByteArray} {a : Nat} {b : Bool} {s : SH} {X : SX} {B T z n : Nat} {v : Value} {xs : List Value} (h : RS w W t a b s X) (ho : W.ownsRow B T z v n xs) (h1 : T ≠ 30) (h2 : T ≠ 74) (hg : W.grownBy W' v.ownBlock) : W'.heap[w.heap.size + 1 + 1]? = some (.cells #[.slice s.q0 s.n0 s.c0, .slice s.q1 s.n1 s.c1, .slice s.q2 s.n2 s.c2, .slice s.q3 s.n3 s.c3, .slice s.q4 s.n4 s.c4] 30) :=
  (hg.block _ (row_lt h.sb) (fun e => (h.far ho h1 h2).2.2 e.symm)).trans h.sb
theorem row_rd {w W : World} {C k : Nat} {o : Obj} (hg : w.grownBy W (some C)) (h : w.heap[k]? = some o) (hk : k ≠ C) : W.heap[k]? = some o := (hg.block k (row_lt h) (fun e => by cases e; exact hk rfl)).trans h
theorem cell_k {wr : World} {xs : List Value} {T : TypeId} {a : Addr} (ha : a = ⟨wr.heap.size, 0, none⟩) : ∀ j u, xs[j]? = some u → (wr.alloc (.cells xs.toArray T)).cell? (a.add j) = some u := by
  intro j u hj
  subst ha
  rw [add_at, Nat.zero_add, cell_of_row _ wr.heap.size j _ _ (0, 0) (heap_new wr _)]
  simpa using hj
end Go.Proofs.YtadbekhekggpkaaGreatDoor
