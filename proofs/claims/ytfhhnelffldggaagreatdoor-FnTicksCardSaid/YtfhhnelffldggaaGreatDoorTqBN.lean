/-
  A list of ticks copied by the program.
-/
import Derived.Test.YtfhhnelffldggaaGreatDoorTqAY
import Derived.Laws.CopyRow
import Derived.Laws.IdiomCopy
import Derived.Test.YtfhhnelffldggaaGreatDoorTqAW
import Derived.Test.YtfhhnelffldggaaGreatDoorTqBL
import Derived.Test.YtfhhnelffldggaaGreatDoorTqAC
set_option maxRecDepth 100000
set_option maxHeartbeats 16000000
namespace Go.Proofs.YtfhhnelffldggaaGreatDoor
open Go.RowKit Go.PlainAid
set_option linter.unusedVariables false
set_option linter.unusedSimpArgs false
theorem run_copy_rowY (w : World) (Kn : Nat) (dT sT ty elem : TypeId) (g o n dCap : Nat) (a : Addr) (sCap : Nat) (cur : Array Value) (t : TypeId) (cs : List Value)
    (hu : Tryz.prog.underlying dT = some (.slice elem)) (hs : (Tryz.prog.info? elem).map (·.size) = some Kn)
    (hg : w.heap[g]? = some (.cells cur t (0, 0))) (hn : cs.length = n * Kn)
    (hsrc : ∀ j v, cs[j]? = some v → w.cell? (a.add j) = some v) (hfit : o + cs.length ≤ cur.size) (h1 : ∀ v ∈ cs, v.oneCell' = true) :
    (Builtin.copy_ #[dT, sT] ty #[.slice (some ⟨g, o, none⟩) n dCap, .slice (some a) n sCap]).run Tryz.prog w =
      .ok (goInt n) (w.setRow g (cur.toList.take o ++ cs ++ cur.toList.drop (o + cs.length)).toArray) := by
  have hl := run_loadCells_list (P := Tryz.prog) w a cs hsrc
  have hst := run_storeCells_at Tryz.prog g o t cs 0 cur w hg (by simpa using hfit) h1
  cases hq : Tryz.prog.info? elem with
  | none => simp [hq] at hs
  | some i =>
    have hi : i.size = Kn := by simpa [hq] using hs
    rw [hn] at hl hst
    rw [hn]
    simp [Builtin.copy_, run_underlying hu, Builtin.lenOf, Builtin.firstCells, sizeOf, typeInfo, hq, hi, hl, hst]
theorem run_copy_noneY (w : World) (Kn : Nat) (dT sT ty elem : TypeId) (d a : Option Addr) (dCap sCap : Nat) (hu : Tryz.prog.underlying dT = some (.slice elem)) (hs : (Tryz.prog.info? elem).map (·.size) = some Kn) :
    (Builtin.copy_ #[dT, sT] ty #[.slice d 0 dCap, .slice a 0 sCap]).run Tryz.prog w = .ok (goInt 0) w := by
  cases hq : Tryz.prog.info? elem with
  | none => simp [hq] at hs
  | some i =>
    have hl : ∀ (x : Addr), (loadCells x 0).run Tryz.prog w = .ok #[] w := fun x => by simpa using run_loadCells_list (P := Tryz.prog) w x [] (by simp)
    cases d <;> cases a <;> simp [Builtin.copy_, run_underlying hu, Builtin.lenOf, Builtin.firstCells, sizeOf, typeInfo, hq, storeCells, hl]
theorem sizeY18 : (Tryz.prog.info? 64).map (·.size) = some 3 := by kernel_rfl
theorem run_cpY (w : World) (a : Option Addr) (l : List Tk3) (n cap : Nat) (hl : l.length = n) (hr : RdY (w.alloc (.cells (tkV (List.replicate n (0, 0, 0))).toArray 64)) a l) :
    (Builtin.copy_ #[35, 35] 3 #[.slice (some ⟨w.heap.size, 0, none⟩) n n, .slice a n cap]).run Tryz.prog (w.alloc (.cells (tkV (List.replicate n (0, 0, 0))).toArray 64)) = .ok (.int .i64 n) (w.alloc (.cells (tkV l).toArray 64)) := by
  by_cases h0 : n = 0
  · subst h0
    obtain rfl : l = [] := List.eq_nil_of_length_eq_zero hl
    rw [run_copy_noneY _ 3 35 35 3 64 _ _ 0 cap Tryz.underlying35 sizeY18]
    rfl
  · obtain ⟨g, off, rfl, hc⟩ := hr (by omega)
    have hlen : (tkV l).length = n * 3 := by rw [tkV_len, hl]
    have hcell : ∀ j v, (tkV l)[j]? = some v → (w.alloc (.cells (tkV (List.replicate n (0, 0, 0))).toArray 64)).cell? ((⟨g, off, none⟩ : Addr).add j) = some v := by
      intro j v hv
      have hj : j < n * 3 := by
        rcases Nat.lt_or_ge j (n * 3) with h' | h'
        · exact h'
        · rw [List.getElem?_eq_none (by omega)] at hv; cases hv
      have ha := tkV_at l (j / 3) (by omega)
      have hb := hc (j / 3) (by omega)
      rw [add_at]
      have h3 : j % 3 = 0 ∨ j % 3 = 1 ∨ j % 3 = 2 := by omega
      rcases h3 with e | e | e
      · have h1 := ha.1
        have h2 := hb.1
        rw [show j / 3 * 3 = j by omega, hv] at h1
        rw [show off + j / 3 * 3 = off + j by omega] at h2
        rw [h2]; exact h1.symm
      · have h1 := ha.2.1
        have h2 := hb.2.1
        rw [show j / 3 * 3 + 1 = j by omega, hv] at h1
        rw [show off + j / 3 * 3 + 1 = off + j by omega] at h2
        rw [h2]; exact h1.symm
      · have h1 := ha.2.2
        have h2 := hb.2.2
        rw [show j / 3 * 3 + 2 = j by omega, hv] at h1
        rw [show off + j / 3 * 3 + 2 = off + j by omega] at h2
        rw [h2]; exact h1.symm
    rw [run_copy_rowY _ 3 35 35 3 64 w.heap.size 0 n n ⟨g, off, none⟩ cap (tkV (List.replicate n (0, 0, 0))).toArray 64 (tkV l) Tryz.underlying35 sizeY18 (heap_new w _) hlen hcell (by rw [hlen]; simp [tkV_len]) (tkV_one l)]
    rw [hlen, World.setRow_alloc_new]
    have : List.take 0 (tkV (List.replicate n (0, 0, 0))).toArray.toList ++ tkV l ++ List.drop (0 + n * 3) (tkV (List.replicate n (0, 0, 0))).toArray.toList = tkV l := by
      simp [tkV_len]
    rw [this]
    rfl
theorem cpY (a : Option Addr) (l : List Tk3) (n cap : Nat) (hl : l.length = n) (hn : n ≤ 1048576) (w : World) (hr : RdY w a l) :
    Calls Tryz.prog 78 #[.slice a n cap] w fun e w' => e = .returned (.slice (some ⟨w.heap.size, 0, none⟩) n n) ∧ RowY w' w.heap.size l ∧ Below w.heap.size w w' := by
  have hmk := makeY n hn
  have HB : Hid (Below w.heap.size w (w.alloc (.cells (tkV (List.replicate n (0, 0, 0))).toArray 64))) := (Below.refl _ _).alloc (Nat.le_refl _) _
  have hcp := run_cpY w a l n cap hl (hr.keep HB.out (Nat.le_refl _))
  have HR : Hid (RowY (w.alloc (.cells (tkV l).toArray 64)) w.heap.size l) := heap_new w _
  clear hr hl
  go_enter Tryz.func78, Tryz.ntmps78
  go_wp2
  go_ret
  exact ⟨rfl, HR.out, (Below.refl _ _).alloc (Nat.le_refl _) _⟩
theorem RowY.ownU {w : World} {g B : Nat} {l : List Tk3} (h : RowY w g l) (hB : B ≤ g) (hl : l.length ≤ maxLen) : OwnU w B g l.length l.length l :=
  ⟨tkV_len l, Or.inr ⟨g, l.length, (tkV l).toArray, rfl, hB, h, Nat.le_refl _, hl, by simp [tkV_len], by simp; exact List.take_of_length_le (by rw [tkV_len]; exact Nat.le_refl _)⟩⟩
theorem run_tlen : ∀ (l : List Ic) (D : Dv), (runD D l).t.length = D.t.length + l.length
  | [], D => by simp [runD]
  | i :: l, D => by
    rw [runD_cons, run_tlen l]
    show (D.t ++ [(numD D i, alD D i, (pmpD D i).s)]).length + l.length = _
    simp
    omega
def atD (l : List Ic) (j : Nat) : Dv := runD newD (l.take j)
theorem atD_zero (l : List Ic) : atD l 0 = newD := by simp [atD, runD]
theorem atD_succ {l : List Ic} {j : Nat} (h : j < l.length) : atD l (j + 1) = tickD (atD l j) l[j] := runD_take h newD
theorem atD_len {l : List Ic} {j : Nat} (h : j ≤ l.length) : (atD l j).t.length = j := by
  unfold atD
  rw [run_tlen, List.length_take]
  show 0 + _ = _
  omega
theorem atD_ok {l : List Ic} (hl : ∀ i ∈ l, i.ok) (j : Nat) : (atD l j).ok := (run_okD (l.take j) newD_ok (fun i hi => hl i (List.mem_of_mem_take hi))).1
end Go.Proofs.YtfhhnelffldggaaGreatDoor
