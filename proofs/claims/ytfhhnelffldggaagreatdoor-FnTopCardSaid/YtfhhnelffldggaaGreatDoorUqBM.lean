/-
  A list of ticks copied by the program.
-/
import Derived.Test.YtfhhnelffldggaaGreatDoorUqAX
import Derived.Laws.CopyRow
import Derived.Laws.IdiomCopy
import Derived.Test.YtfhhnelffldggaaGreatDoorUqBK
import Derived.Test.YtfhhnelffldggaaGreatDoorUqAC
set_option maxRecDepth 100000
set_option maxHeartbeats 16000000
namespace Go.Proofs.YtfhhnelffldggaaGreatDoor
open Go.RowKit Go.PlainAid
set_option linter.unusedVariables false
set_option linter.unusedSimpArgs false
theorem run_copy_rowY (w : World) (Kn : Nat) (dT sT ty elem : TypeId) (g o n dCap : Nat) (a : Addr) (sCap : Nat) (cur : Array Value) (t : TypeId) (cs : List Value)
  (hu : Tryz.prog.underlying dT = some (.slice elem)) (hs : (Tryz.prog.info? elem).map (·.size) = some Kn)
  (hg : w.heap[g]? = some (.cells cur t (0, 0))) (hn : cs.length = n * Kn)
  (hsrc : ∀ j v, cs[j]? = some v → w.cell? (a.add j) = some v) (hfit : o + cs.length ≤ cur.size) (h1 : ∀ v ∈ cs, v.oneCell' = true) :
  (Builtin.copy_ #[dT, sT] ty #[.slice (some ⟨g, o, none⟩) n dCap, .slice (some a) n sCap]).run Tryz.prog w =
   .ok (goInt n) (w.setRow g (cur.toList.take o ++ cs ++ cur.toList.drop (o + cs.length)).toArray) := by
 have hl := run_loadCells_list (P := Tryz.prog) w a cs hsrc
 have hst := run_storeCells_at Tryz.prog g o t cs 0 cur w hg (by simpa using hfit) h1
 cases hq : Tryz.prog.info? elem with
 | none => simp [hq] at hs
 | some i =>
  have hi : i.size = Kn := by simpa [hq] using hs
  rw [hn] at hl hst
  rw [hn]
  simp [Builtin.copy_, run_underlying hu, Builtin.lenOf, Builtin.firstCells, sizeOf, typeInfo, hq, hi, hl, hst]
theorem run_copy_noneY (w : World) (Kn : Nat) (dT sT ty elem : TypeId) (d a : Option Addr) (dCap sCap : Nat) (hu : Tryz.prog.underlying dT = some (.slice elem)) (hs : (Tryz.prog.info? elem).map (·.size) = some Kn) :
  (Builtin.copy_ #[dT, sT] ty #[.slice d 0 dCap, .slice a 0 sCap]).run Tryz.prog w = .ok (goInt 0) w := by
 cases hq : Tryz.prog.info? elem with
 | none => simp [hq] at hs
 | some i =>
  have hl : ∀ (x : Addr), (loadCells x 0).run Tryz.prog w = .ok #[] w := fun x => by simpa using run_loadCells_list (P := Tryz.prog) w x [] (by simp)
  cases d <;> cases a <;> simp [Builtin.copy_, run_underlying hu, Builtin.lenOf, Builtin.firstCells, sizeOf, typeInfo, hq, storeCells, hl]
theorem sizeY18 : (Tryz.prog.info? 64).map (·.size) = some 3 := by kernel_rfl
theorem run_cpY (w : World) (a : Option Addr) (l : List Tk3) (n cap : Nat) (hl : l.length = n) (hr : RdY (w.alloc (.cells (tkV (List.replicate n (0, 0, 0))).toArray 64)) a l) :
  (Builtin.copy_ #[35, 35] 3 #[.slice (some ⟨w.heap.size, 0, none⟩) n n, .slice a n cap]).run Tryz.prog (w.alloc (.cells (tkV (List.replicate n (0, 0, 0))).toArray 64)) = .ok (.int .i64 n) (w.alloc (.cells (tkV l).toArray 64)) := by
 by_cases h0 : n = 0
 ·
  subst h0
  obtain rfl : l = [] := List.eq_nil_of_length_eq_zero hl
  rw [run_copy_noneY _ 3 35 35 3 64 _ _ 0 cap Tryz.underlying35 sizeY18]
  rfl
 ·
  obtain ⟨g, off, rfl, hc⟩ := hr (by omega)
  have hlen : (tkV l).length = n * 3 := by rw [tkV_len, hl]
  have hcell : ∀ j v, (tkV l)[j]? = some v → (w.alloc (.cells (tkV (List.replicate n (0, 0, 0))).toArray 64)).cell? ((⟨g, off, none⟩ : Addr).add j) = some v := by
   intro j v hv
   have hj : j < n * 3 := by
    rcases Nat.lt_or_ge j (n * 3) with h' | h'
    · exact h'
    · rw [List.getElem?_eq_none (by omega)] at hv; cases hv
   have ha := tkV_at l (j / 3) (by omega)
   have hb := hc (j / 3) (by omega)
   rw [add_at]
   have h3 : j % 3 = 0 ∨ j % 3 = 1 ∨ j % 3 = 2 := by omega
   rcases h3 with e | e | e
   ·
    have h1 := ha.1
    have h2 := hb.1
    rw [show j / 3 * 3 = j by omega, hv] at h1
    rw [show off + j / 3 * 3 = off + j by omega] at h2
    rw [h2]; exact h1.symm
   ·
    have h1 := ha.2.1
    have h2 := hb.2.1
    rw [show j / 3 * 3 + 1 = j by omega, hv] at h1
    rw [show off + j / 3 * 3 + 1 = off + j by omega] at h2
    rw [h2]; exact h1.symm
   ·
    have h1 := ha.2.2
    have h2 := hb.2.2
    rw [show j / 3 * 3 + 2 = j by omega, hv] at h1
    rw [show off + j / 3 * 3 + 2 = off + j by omega] at h2
    rw [h2]; exact h1.symm
  rw [run_copy_rowY _ 3 35 35 3 64 w.heap.size 0 n n ⟨g, off, none⟩ cap (tkV (List.replicate n (0, 0, 0))).toArray 64 (tkV l) Tryz.underlying35 sizeY18 (heap_new w _) hlen hcell (by rw [hlen]; simp [tkV_len]) (tkV_one l)]
  rw [hlen, World.setRow_alloc_new]
  have : List.take 0 (tkV (List.replicate n (0, 0, 0))).toArray.toList ++ tkV l ++ List.drop (0 + n * 3) (tkV (List.replicate n (0, 0, 0))).toArray.toList = tkV l := by
   simp [tkV_len]
  rw [this]
  rfl
theorem cpY (a : Option Addr) (l : List Tk3) (n cap : Nat) (hl : l.length = n) (hn : n ≤ 1048576) (w : World) (hr : RdY w a l) :
  Calls Tryz.prog 78 #[.slice a n cap] w fun e w' => e = .returned (.slice (some ⟨w.heap.size, 0, none⟩) n n) ∧ RowY w' w.heap.size l ∧ Below w.heap.size w w' := by
 have hmk := makeY n hn
 have HB : Hid (Below w.heap.size w (w.alloc (.cells (tkV (List.replicate n (0, 0, 0))).toArray 64))) := (Below.refl _ _).alloc (Nat.le_refl _) _
 have hcp := run_cpY w a l n cap hl (hr.keep HB.out (Nat.le_refl _))
 have HR : Hid (RowY (w.alloc (.cells (tkV l).toArray 64)) w.heap.size l) := heap_new w _
 clear hr hl
 go_enter Tryz.func78, Tryz.ntmps78
 go_wp2
 go_ret
 exact ⟨rfl, HR.out, (Below.refl _ _).alloc (Nat.le_refl _) _⟩
theorem RowY.ownU {w : World} {g B : Nat} {l : List Tk3} (h : RowY w g l) (hB : B ≤ g) (hl : l.length ≤ maxLen) : OwnU w B g l.length l.length l :=
 ⟨tkV_len l, Or.inr ⟨g, l.length, (tkV l).toArray, rfl, hB, h, Nat.le_refl _, hl, by simp [tkV_len], by simp; exact List.take_of_length_le (by rw [tkV_len]; exact Nat.le_refl _)⟩⟩
theorem run_pre : ∀ (l : List Ic) (D : Dv), ∃ r, (runD D l).t = D.t ++ r
 | [], D => ⟨[], by simp [runD]⟩
 | i :: l, D => by
  obtain ⟨r, hr⟩ := run_pre l (tickD D i)
  refine ⟨[(numD D i, alD D i, (pmpD D i).s)] ++ r, ?_⟩
  rw [runD_cons, hr]
  show (D.t ++ [(numD D i, alD D i, (pmpD D i).s)]) ++ r = _
  rw [List.append_assoc]
theorem run_tlen : ∀ (l : List Ic) (D : Dv), (runD D l).t.length = D.t.length + l.length
 | [], D => by simp [runD]
 | i :: l, D => by
  rw [runD_cons, run_tlen l]
  show (D.t ++ [(numD D i, alD D i, (pmpD D i).s)]).length + l.length = _
  simp
  omega
def atD (l : List Ic) (j : Nat) : Dv := runD newD (l.take j)
theorem atD_zero (l : List Ic) : atD l 0 = newD := by simp [atD, runD]
theorem atD_succ {l : List Ic} {j : Nat} (h : j < l.length) : atD l (j + 1) = tickD (atD l j) l[j] := runD_take h newD
theorem atD_len {l : List Ic} {j : Nat} (h : j ≤ l.length) : (atD l j).t.length = j := by
 unfold atD
 rw [run_tlen, List.length_take]
 show 0 + _ = _
 omega
theorem tick_at {l : List Ic} {j : Nat} (h : j < l.length) (hj : j < (runD newD l).t.length) : (runD newD l).t[j] = (numD (atD l j) l[j], alD (atD l j) l[j], (pmpD (atD l j) l[j]).s) := by
 have e1 : runD newD l = runD (atD l (j + 1)) (l.drop (j + 1)) := by
  unfold atD
  rw [← runD_app, List.take_append_drop]
 obtain ⟨r, hr⟩ := run_pre (l.drop (j + 1)) (atD l (j + 1))
 rw [← e1, atD_succ h] at hr
 have hl := atD_len (Nat.le_of_lt h)
 have hr2 : (runD newD l).t = ((atD l j).t ++ [(numD (atD l j) l[j], alD (atD l j) l[j], (pmpD (atD l j) l[j]).s)]) ++ r := hr
 have : (runD newD l).t[j]? = some (numD (atD l j) l[j], alD (atD l j) l[j], (pmpD (atD l j) l[j]).s) := by
  rw [hr2, List.append_assoc, List.getElem?_append_right (by omega), hl, Nat.sub_self]
  rfl
 rw [List.getElem?_eq_getElem hj] at this
 exact Option.some.inj this
def alJ (l : List Ic) (j : Nat) : Int := (atD l j).al
theorem alJ_zero (l : List Ic) : alJ l 0 = 0 := by unfold alJ; rw [atD_zero]; rfl
theorem alJ_succ {l : List Ic} {j : Nat} (h : j < l.length) : alJ l (j + 1) = alD (atD l j) l[j] := by unfold alJ; rw [atD_succ h]; rfl
theorem atD_ok {l : List Ic} (hl : ∀ i ∈ l, i.ok) (j : Nat) : (atD l j).ok := (run_okD (l.take j) newD_ok (fun i hi => hl i (List.mem_of_mem_take hi))).1
theorem alJ_bd {l : List Ic} (hl : ∀ i ∈ l, i.ok) (j : Nat) : 0 ≤ alJ l j ∧ alJ l j ≤ 15 := (atD_ok hl j).g.2.1
def osJ (l : List Ic) (j : Nat) (i : Ic) : List Od4 := (allM (atD l j).m i.ks).2 ++ i.lo
def snJ (l : List Ic) (j : Nat) (i : Ic) : Bool := (osJ l j i).any (fun o => o.1 == 5)
theorem snJ_is (l : List Ic) (j : Nat) (i : Ic) : (ordsD (atD l j) i).s = snJ l j i := by
 unfold ordsD snJ osJ
 rw [takeL_seen]
 rfl
theorem al_held {l : List Ic} (hl : ∀ i ∈ l, i.ok) {j : Nat} (h : j < l.length) : alJ l (j + 1) = if snJ l j l[j] = true then l[j].b else G.orI (alJ l j) l[j].b := by
 rw [alJ_succ h, tru_al _ (hl _ (List.getElem_mem h)), snJ_is]
 rfl
theorem ord_seen {k n d v : Int} (h : OrdR k n d v) : k = 5 → n = 0 ∧ d = 0 ∧ v = 0 := by
 intro e
 unfold OrdR at h
 omega
theorem osJ_right {l : List Ic} {j : Nat} {i : Ic} (hi : i.ok) : ∀ o ∈ osJ l j i, OrdR o.1 o.2.1 o.2.2.1 o.2.2.2 := by
 intro o ho
 rcases List.mem_append.1 ho with h | h
 · exact allM_r _ _ o h
 · exact hi.2.2.2.2 o h
theorem and_one : ∀ b : Fin 16, IntKind.i64.wrap ((BitVec.ofInt 64 (b.val : Int) &&& BitVec.ofInt 64 (b.val : Int)).toNat : Int) = (b.val : Int) := by decide
theorem and_two : ∀ a b : Fin 16, IntKind.i64.wrap ((BitVec.ofInt 64 (G.orI (a.val : Int) (b.val : Int)) &&& BitVec.ofInt 64 (G.orI (b.val : Int) (a.val : Int))).toNat : Int) = G.orI (b.val : Int) (a.val : Int) := by decide +kernel
theorem and_self15 {b : Int} (hb : 0 ≤ b ∧ b ≤ 15) : IntKind.i64.wrap ((BitVec.ofInt 64 b &&& BitVec.ofInt 64 b).toNat : Int) = b := by
 have h := and_one ⟨b.toNat, by omega⟩
 have e : ((b.toNat : Nat) : Int) = b := by omega
 simp only [e] at h
 exact h
theorem and_or15 {a b : Int} (ha : 0 ≤ a ∧ a ≤ 15) (hb : 0 ≤ b ∧ b ≤ 15) : IntKind.i64.wrap ((BitVec.ofInt 64 (G.orI a b) &&& BitVec.ofInt 64 (G.orI b a)).toNat : Int) = G.orI b a := by
 have h := and_two ⟨a.toNat, by omega⟩ ⟨b.toNat, by omega⟩
 have e : ((a.toNat : Nat) : Int) = a := by omega
 have e2 : ((b.toNat : Nat) : Int) = b := by omega
 simp only [e, e2] at h
 exact h
end Go.Proofs.YtfhhnelffldggaaGreatDoor
