/-
  The text of a set-up: mathematics.
-/
import Derived.Test.YtadbekhekggpkaaGreatDoorFaultM
import Derived.Test.YtadbekhekggpkaaGreatDoorLoopV
namespace Go.Proofs.YtadbekhekggpkaaGreatDoor
open Go.RowKit Go.PlainAid
set_option linter.unusedVariables false

/-- a number in bytes -/
def vX (n : Int) : ByteArray := ⟨(Plain.vt n.toNat).toArray⟩
theorem vX_size {n : Int} (h0 : 0 ≤ n) (h1 : n ≤ 1000) : (vX n).size ≤ 1001 := by
  have := Plain.vt_len n.toNat n.toNat (Nat.le_refl _)
  show (Plain.vt n.toNat).toArray.size ≤ 1001
  rw [List.size_toArray]
  omega
theorem varS (n : Int) (h0 : 0 ≤ n) (h1 : n ≤ 1000) (w : World) : Calls Tryz.prog 70 #[.int .i64 n] w fun e w' => e = .returned (.string (vX n)) ∧ Below w.heap.size w w' :=
  V.var22' n h0 (by omega) w
def pT : List (Int × Int) → ByteArray
  | [] => ⟨#[]⟩
  | r :: t => vX r.1 ++ vX r.2 ++ pT t
def oT : List Prt → ByteArray
  | [] => ⟨#[]⟩
  | r :: t => vX r.1 ++ vX r.2.1 ++ vX r.2.2.1 ++ vX r.2.2.2.1 ++ vX r.2.2.2.2 ++ oT t
def uT : List Rule → ByteArray
  | [] => ⟨#[]⟩
  | r :: t => vX r.1 ++ vX r.2.1 ++ vX r.2.2 ++ uT t
def sT : List ByteArray → ByteArray
  | [] => ⟨#[]⟩
  | s :: t => vX s.size ++ s ++ sT t
theorem ba_assoc (a b c : ByteArray) : a ++ b ++ c = a ++ (b ++ c) := by
  apply ByteArray.ext
  simp [ByteArray.data_append]
theorem ba_nil (a : ByteArray) : a ++ ⟨#[]⟩ = a := by
  apply ByteArray.ext
  simp [ByteArray.data_append]
theorem ba_nil' (a : ByteArray) : (⟨#[]⟩ : ByteArray) ++ a = a := by
  apply ByteArray.ext
  simp [ByteArray.data_append]
theorem pT_take : ∀ {l : List (Int × Int)} {j : Nat} (h : j < l.length), pT (l.take (j + 1)) = pT (l.take j) ++ vX (l[j]).1 ++ vX (l[j]).2
  | r :: t, 0, h => by simp [pT, ba_nil, ba_nil']
  | r :: t, j + 1, h => by
    have := pT_take (l := t) (j := j) (by simpa using h)
    simp only [List.take_succ_cons, pT, List.getElem_cons_succ] at this ⊢
    rw [this]
    simp only [ba_assoc]
theorem oT_take : ∀ {l : List Prt} {j : Nat} (h : j < l.length), oT (l.take (j + 1)) = oT (l.take j) ++ vX (l[j]).1 ++ vX (l[j]).2.1 ++ vX (l[j]).2.2.1 ++ vX (l[j]).2.2.2.1 ++ vX (l[j]).2.2.2.2
  | r :: t, 0, h => by simp [oT, ba_nil, ba_nil']
  | r :: t, j + 1, h => by
    have := oT_take (l := t) (j := j) (by simpa using h)
    simp only [List.take_succ_cons, oT, List.getElem_cons_succ] at this ⊢
    rw [this]
    simp only [ba_assoc]
theorem uT_take : ∀ {l : List Rule} {j : Nat} (h : j < l.length), uT (l.take (j + 1)) = uT (l.take j) ++ vX (l[j]).1 ++ vX (l[j]).2.1 ++ vX (l[j]).2.2
  | r :: t, 0, h => by simp [uT, ba_nil, ba_nil']
  | r :: t, j + 1, h => by
    have := uT_take (l := t) (j := j) (by simpa using h)
    simp only [List.take_succ_cons, uT, List.getElem_cons_succ] at this ⊢
    rw [this]
    simp only [ba_assoc]
theorem sT_take : ∀ {l : List ByteArray} {j : Nat} (h : j < l.length), sT (l.take (j + 1)) = sT (l.take j) ++ vX (l[j]).size ++ l[j]
  | r :: t, 0, h => by simp [sT, ba_nil, ba_nil']
  | r :: t, j + 1, h => by
    have := sT_take (l := t) (j := j) (by simpa using h)
    simp only [List.take_succ_cons, sT, List.getElem_cons_succ] at this ⊢
    rw [this]
    simp only [ba_assoc]
def tA (X : SX) : ByteArray := vX X.R.length ++ pT X.R
def tB (X : SX) : ByteArray := tA X ++ vX X.W.length ++ pT X.W
def tC (X : SX) : ByteArray := tB X ++ vX X.O.length ++ oT X.O
def tD (X : SX) : ByteArray := tC X ++ vX X.U.length ++ uT X.U
/-- the text of a set-up -/
def txt (X : SX) : ByteArray := tD X ++ sT X.S
theorem ba_size (a b : ByteArray) : (a ++ b).size = a.size + b.size := ByteArray.size_append
/-- a block, hidden -/
def BlkAt (w : World) (k : Nat) (o : Obj) : Prop := w.heap[k]? = some o
theorem tkeep2 {w W W' : World} {p0 p1 : Addr} {x y : Value} {r : Nat} {R : Obj} (hb : Below W.heap.size W W') (h : W.cell? p0 = some x ∧ W.cell? p1 = some y ∧ Below w.heap.size w W ∧ BlkAt W r R) : W'.cell? p0 = some x ∧ W'.cell? p1 = some y ∧ Below w.heap.size w W' ∧ BlkAt W' r R := by
  obtain ⟨h0, h1, hB, hR⟩ := h
  exact ⟨(hb.cell (World.block_lt_of_cell? W p0 h0)).trans h0, (hb.cell (World.block_lt_of_cell? W p1 h1)).trans h1, bel_on (Nat.le_refl _) hB hb, row_on hR hb⟩
theorem tkeep3 {w W W' : World} {p0 p1 p2 : Addr} {x y z : Value} {r : Nat} {R : Obj} (hb : Below W.heap.size W W') (h : W.cell? p0 = some x ∧ W.cell? p1 = some y ∧ W.cell? p2 = some z ∧ Below w.heap.size w W ∧ BlkAt W r R) : W'.cell? p0 = some x ∧ W'.cell? p1 = some y ∧ W'.cell? p2 = some z ∧ Below w.heap.size w W' ∧ BlkAt W' r R := by
  obtain ⟨h0, h1, h2, hB, hR⟩ := h
  exact ⟨(hb.cell (World.block_lt_of_cell? W p0 h0)).trans h0, (hb.cell (World.block_lt_of_cell? W p1 h1)).trans h1, (hb.cell (World.block_lt_of_cell? W p2 h2)).trans h2, bel_on (Nat.le_refl _) hB hb, row_on hR hb⟩
theorem tkeep4 {w W W' : World} {p0 p1 p2 p3 : Addr} {x y z u : Value} {r : Nat} {R : Obj} (hb : Below W.heap.size W W') (h : W.cell? p0 = some x ∧ W.cell? p1 = some y ∧ W.cell? p2 = some z ∧ W.cell? p3 = some u ∧ Below w.heap.size w W ∧ BlkAt W r R) : W'.cell? p0 = some x ∧ W'.cell? p1 = some y ∧ W'.cell? p2 = some z ∧ W'.cell? p3 = some u ∧ Below w.heap.size w W' ∧ BlkAt W' r R := by
  obtain ⟨h0, h1, h2, h3, hB, hR⟩ := h
  exact ⟨(hb.cell (World.block_lt_of_cell? W p0 h0)).trans h0, (hb.cell (World.block_lt_of_cell? W p1 h1)).trans h1, (hb.cell (World.block_lt_of_cell? W p2 h2)).trans h2, (hb.cell (World.block_lt_of_cell? W p3 h3)).trans h3, bel_on (Nat.le_refl _) hB hb, row_on hR hb⟩
theorem tkeep5 {w W W' : World} {p0 p1 p2 p3 p4 : Addr} {x y z u v : Value} {r : Nat} {R : Obj} (hb : Below W.heap.size W W') (h : W.cell? p0 = some x ∧ W.cell? p1 = some y ∧ W.cell? p2 = some z ∧ W.cell? p3 = some u ∧ W.cell? p4 = some v ∧ Below w.heap.size w W ∧ BlkAt W r R) : W'.cell? p0 = some x ∧ W'.cell? p1 = some y ∧ W'.cell? p2 = some z ∧ W'.cell? p3 = some u ∧ W'.cell? p4 = some v ∧ Below w.heap.size w W' ∧ BlkAt W' r R := by
  obtain ⟨h0, h1, h2, h3, h4, hB, hR⟩ := h
  exact ⟨(hb.cell (World.block_lt_of_cell? W p0 h0)).trans h0, (hb.cell (World.block_lt_of_cell? W p1 h1)).trans h1, (hb.cell (World.block_lt_of_cell? W p2 h2)).trans h2, (hb.cell (World.block_lt_of_cell? W p3 h3)).trans h3, (hb.cell (World.block_lt_of_cell? W p4 h4)).trans h4, bel_on (Nat.le_refl _) hB hb, row_on hR hb⟩

/-- the numbers of a right set-up are small -/
structure NumX (X : SX) : Prop where
  r : X.R.length ≤ 4 ∧ ∀ j (h : j < X.R.length), (0 ≤ (X.R[j]).1 ∧ (X.R[j]).1 ≤ 1000) ∧ (0 ≤ (X.R[j]).2 ∧ (X.R[j]).2 ≤ 1000)
  w : X.W.length ≤ 12 ∧ ∀ j (h : j < X.W.length), (0 ≤ (X.W[j]).1 ∧ (X.W[j]).1 ≤ 1000) ∧ (0 ≤ (X.W[j]).2 ∧ (X.W[j]).2 ≤ 1000)
  o : X.O.length ≤ 6 ∧ ∀ j (h : j < X.O.length), (0 ≤ (X.O[j]).1 ∧ (X.O[j]).1 ≤ 1000) ∧ (0 ≤ (X.O[j]).2.1 ∧ (X.O[j]).2.1 ≤ 1000) ∧ (0 ≤ (X.O[j]).2.2.1 ∧ (X.O[j]).2.2.1 ≤ 1000) ∧ (0 ≤ (X.O[j]).2.2.2.1 ∧ (X.O[j]).2.2.2.1 ≤ 1000) ∧ (0 ≤ (X.O[j]).2.2.2.2 ∧ (X.O[j]).2.2.2.2 ≤ 1000)
  u : X.U.length ≤ 8 ∧ ∀ j (h : j < X.U.length), (0 ≤ (X.U[j]).1 ∧ (X.U[j]).1 ≤ 1000) ∧ (0 ≤ (X.U[j]).2.1 ∧ (X.U[j]).2.1 ≤ 1000) ∧ (0 ≤ (X.U[j]).2.2 ∧ (X.U[j]).2.2 ≤ 1000)
  s : X.S.length ≤ 4 ∧ ∀ j (h : j < X.S.length), (X.S[j]).size ≤ 120
theorem RightX.num {X : SX} (h : RightX X) : NumX X := by
  obtain ⟨hr, hw, ho, hu, hs, _⟩ := h
  refine ⟨⟨hr.2.1, fun j hj => ?_⟩, ⟨hw.1.2, fun j hj => ?_⟩, ⟨ho.1, fun j hj => ?_⟩, ⟨hu.2, fun j hj => ?_⟩, ⟨by rw [hs.1]; exact hr.2.1, fun j hj => (hs.2 j hj).2⟩⟩
  · have := hr.2.2.1 j hj
    unfold R.regIn at this
    exact ⟨⟨by omega, by omega⟩, by omega, by omega⟩
  · have := hw.2 j hj
    unfold isWin at this
    exact ⟨⟨by omega, by omega⟩, by omega, by omega⟩
  · have h5 := ho.2 j hj
    unfold prtR P.PortR at h5
    obtain ⟨h1, h2, _, h3⟩ := h5
    refine ⟨⟨?_, ?_⟩, ⟨by omega, by omega⟩, ⟨by omega, by omega⟩, ⟨?_, ?_⟩, ⟨?_, ?_⟩⟩ <;> (rcases h3 with h3 | h3 <;> omega)
  · obtain ⟨h1, h2, h3, _⟩ := (hu.1 j hj hj).1
    exact ⟨⟨by omega, by omega⟩, ⟨by omega, by omega⟩, by omega, by omega⟩
end Go.Proofs.YtadbekhekggpkaaGreatDoor
