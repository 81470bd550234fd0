/-
  A life that is told one volume by its link.
-/
import Derived.Test.YtbcegpncledolaaDoorGrAW
import Derived.Test.YtbcegpncledolaaDoorGrAH
import Derived.Deep.DeepCutAuto
import Derived.Test.YtbcegpncledolaaDoorGrAN
namespace Go.Proofs.YtbcegpncledolaaDoor
open Go.RowKit Go.PlainAid
set_option linter.unusedVariables false
set_option linter.unusedSimpArgs false

def inpL (n d v : Int) : Inp := ⟨ordI n d v, ⟨#[]⟩, ordT 1 n d v⟩
theorem ordT_sized {k n d v : Int} (hR : OrdR k n d v) : 0 < (ordT k n d v).size ∧ (ordT k n d v).size ≤ 40 := by
  have h := ordB_small hR
  unfold ordT
  rw [ByteArray.size_append, Q.sigil_size]
  omega
theorem inpL_ok {n d v : Int} (hR : OrdR 1 n d v) : (inpL n d v).ok := by
  have h := ordT_sized hR
  refine ⟨rfl, .inr ⟨?_, 1, n, d, v, true, .inl ⟨hR, rfl, rfl⟩, .inl ⟨rfl, rfl, rfl⟩⟩, by show (0 : Int) ≤ 0 ∧ (0 : Int) ≤ 15; decide, by show (0 : Nat) ≤ 20; decide, h.2⟩
  show (ordT 1 n d v).size ≠ 0
  omega
def givL (n d v : Int) (k : Nat) : List Inp := [inpL n d v] ++ List.replicate k inpN
theorem givL_ok {n d v : Int} (hR : OrdR 1 n d v) (k : Nat) : ∀ x ∈ givL n d v k, x.ok := by
  intro x hx
  unfold givL at hx
  rcases List.mem_append.1 hx with hx | hx
  · rw [List.mem_singleton.1 hx]; exact inpL_ok hR
  · rw [List.eq_of_mem_replicate hx]; exact inpN_ok
theorem givL_len (n d v : Int) (k : Nat) : (givL n d v k).length = 1 + k := by unfold givL; simp; omega
theorem givL_map (n d v : Int) (k : Nat) : (givL n d v k).map (·.i) = ordI n d v :: List.replicate k noI := by
  unfold givL
  simp [inpL, inpN]
def givT (n d v : Int) (k : Nat) : List In3 := (givL n d v k).map Inp.t3
theorem giv_t3 (n d v : Int) (k : Nat) : givT n d v k ++ [(0, ⟨#[]⟩, ⟨#[]⟩)] = givT n d v (k + 1) := by
  unfold givT givL
  rw [List.replicate_succ', ← List.append_assoc, List.map_append (l₁ := [inpL n d v] ++ List.replicate k inpN)]
  rfl
/-- each tick of a life gives thirty at most -/
theorem run_tk : ∀ (l : List Ic) {D : Dv}, D.ok → (∀ i ∈ l, i.ok) → (∀ x ∈ D.t, 0 ≤ x.1 ∧ x.1 ≤ 30) → ∀ x ∈ (runD D l).t, 0 ≤ x.1 ∧ x.1 ≤ 30
  | [], _, _, _, h => h
  | i :: l, D, hD, hl, h => by
    have hi := hl i (List.mem_cons_self ..)
    rw [runD_cons]
    refine run_tk l (tick_ok hD hi).1 (fun j hj => hl j (List.mem_cons_of_mem _ hj)) ?_
    intro x hx
    have hx' : x ∈ D.t ++ [(numD D i, alD D i, (pmpD D i).s)] := hx
    rcases List.mem_append.1 hx' with hx | hx
    · exact h x hx
    · rw [List.mem_singleton.1 hx]
      have := num_bd hD i
      exact ⟨this.1, this.2.1⟩
theorem sumT_bd : ∀ (l : List Tk3), (∀ x ∈ l, 0 ≤ x.1 ∧ x.1 ≤ 30) → 0 ≤ sumT l ∧ sumT l ≤ 30 * (l.length : Int)
  | [], _ => by simp [sumT]
  | x :: l, h => by
    have h1 := h x (List.mem_cons_self ..)
    have h2 := sumT_bd l (fun y hy => h y (List.mem_cons_of_mem _ hy))
    simp only [sumT, List.length_cons]
    push_cast
    omega
theorem intoSd (x : Int) (h0 : -1000000000000 ≤ x) (h1 : x ≤ 1000000000000) (w : World) : Calls Tryd.prog 57 #[.int .i64 x] w fun e w' => e = .returned (.int .i64 x) ∧ w' = w := by
  have q1 : ¬ ((1000000000000 : Int) < x) := by omega
  have q2 : ¬ (x < (-1000000000000 : Int)) := by omega
  go_enter Tryd.func57, Tryd.ntmps57
  go_wp2
  go_ret
  exact ⟨rfl, rfl⟩
theorem addSd (a b s : Int) (hs : IntKind.i64.wrap (a + b) = s) (a0 : 0 ≤ a) (a1 : a ≤ 1000000) (b0 : 0 ≤ b) (b1 : b ≤ 1000000) (s0 : 0 ≤ s) (s1 : s ≤ 2000000) (w : World) : Calls Tryd.prog 36 #[.int .i64 a, .int .i64 b] w fun e w' => e = .returned (.int .i64 s) ∧ w' = w := by
  go_enter Tryd.func36, Tryd.ntmps36
  go_wp2_with fail
  refine (intoSd a (by omega) (by omega) _).mono ?_
  rintro e w1 ⟨rfl, rfl⟩
  go_wp2_with fail
  refine (intoSd b (by omega) (by omega) _).mono ?_
  rintro e w2 ⟨rfl, rfl⟩
  go_wp2_with fail
  refine (intoSd s (by omega) (by omega) _).mono ?_
  rintro e w3 ⟨rfl, rfl⟩
  go_wp2
  go_ret
  exact ⟨rfl, rfl⟩
set_option maxRecDepth 100000 in
set_option maxHeartbeats 2000000 in
theorem totSd (a : Option Addr) (t : List Tk3) (n cap : Nat) (ht : t.length = n) (hn : n ≤ 1000) (hb : ∀ x ∈ t, 0 ≤ x.1 ∧ x.1 ≤ 30) (s : Int) (hs : sumT t = s) (w : World) (hr : RdY w a t) :
    Calls Tryd.prog 17 #[.slice a n cap] w fun e w' => e = .returned (.int .i64 s) ∧ w' = w := by
  have HT : Hid (t.length = n) := ht
  have HBD : Hid (∀ x ∈ t, 0 ≤ x.1 ∧ x.1 ≤ 30) := hb
  have HS : Hid (sumT t = s) := hs
  have HR : Hid (RdY w a t) := hr
  clear ht hb hs hr
  go_enter Tryd.func17, Tryd.ntmps17
  go_wp2_with fail
  go_loopg [3, 4] n (fun gk x i wr => ∃ (j : Nat) (z : Int), j + gk = n ∧ x = .int .i64 z ∧ i = .int .i64 j ∧ Hid (sumT (t.take j) = z) ∧ wr = w)
  case atStart => exact ⟨0, 0, by omega, rfl, rfl, rfl, rfl⟩
  case round =>
    obtain ⟨j, z, hj, rfl, rfl, HZ, rfl⟩ := hrel
    by_cases hlt : j < n
    · have hjl : j < t.length := by rw [HT.out]; exact hlt
      obtain ⟨g, off, rfl, hc⟩ := HR.out (by omega)
      have c0 := (hc j hjl).1
      obtain ⟨⟨y, y1, y2⟩, hy⟩ : ∃ y, t[j] = y := ⟨_, rfl⟩
      rw [hy] at c0
      dsimp only at c0
      have hyb := HBD.out _ (List.getElem_mem hjl)
      rw [hy] at hyb
      dsimp only at hyb
      have hzb := sumT_bd (t.take j) (fun x hx => HBD.out x (List.mem_of_mem_take hx))
      rw [HZ.out, List.length_take] at hzb
      have HZ2 : Hid (sumT (t.take (j + 1)) = z + y) := by
        show _ = _
        rw [← List.take_append_getElem hjl, sumT_app, HZ.out, hy]
        simp [sumT]
      obtain ⟨z2, hz2⟩ : ∃ z2, z + y = z2 := ⟨_, rfl⟩
      rw [hz2] at HZ2
      have HE : Hid (IntKind.i64.wrap (z + y) = z2) := (wrap_in (by omega) (by omega)).trans hz2
      have hz2b : 0 ≤ z2 ∧ z2 ≤ 2000000 := by omega
      have hzb2 : 0 ≤ z ∧ z ≤ 1000000 := by omega
      have j0 : (0 : Int) ≤ j := by omega
      have j1 : (j : Int) < n := by omega
      have qj : IntKind.i64.wrap ((j : Int) + 1) = (j : Int) + 1 := wrap_in (by omega) (by omega)
      clear hc hy hz2 hzb HZ
      go_wp2_with fail
      refine (addSd z y z2 HE.out hzb2.1 hzb2.2 hyb.1 (by omega) hz2b.1 hz2b.2 _).mono ?_
      rintro e w2 ⟨rfl, rfl⟩
      clear c0
      go_wp2
      go_roundg (gk - 1)
      case measure => omega
      case rel => exact ⟨j + 1, z2, by omega, rfl, by go_num, HZ2, rfl⟩
    · obtain rfl : z = s := by rw [← HZ.out, ← HS.out, List.take_of_length_le (by rw [HT.out]; omega)]
      have hne : ¬ ((j : Int) < n) := by omega
      go_wp2
      go_ret
      exact ⟨rfl, rfl⟩
/-- a number stored into a row in a drawn region -/
theorem storeN_any {ops : Array Oper} {o : Oper} {a : Act} {K : Act → World → Prop} {Q : Exit → Act → World → Prop} {E : Prop} {w : World} (hw : Region.wanted o (yielded ops a.tmps) = true) (hd : o.dst = none) (x y : Operand) (ty : TypeId) (ho : o.op = .store ty x y) (hty : ty = 3)
    (g i : Nat) (z : Int) (hx : a.eval x = .pointer (some ⟨g, i, none⟩)) (hy : a.eval y = .int .i64 z)
    {cs : Array Value} {T : TypeId} (hg : w.heap[g]? = some (.cells cs T)) (hi : i < cs.size)
    (h : ∀ w' : World, PutM w w' g (.cells (cs.setIfInBounds i (.int .i64 z)) T) → K a w') : if Region.wanted o (yielded ops a.tmps) = true then Oper.wp Tryd.prog o a w K Q else E := by
  subst hty
  rw [if_pos hw]
  unfold Oper.wp
  simp only [execOp, ho, hx, hy, Sem.run_bind, storeV_run hg hi, Result.andThen, Sem.run_pure]
  unfold Oper.upon
  show K (a.put o.dst undef) _
  rw [hd]
  exact h _ (putM_set hg)
end Go.Proofs.YtbcegpncledolaaDoor

namespace Go.Proofs.YtbcegpncledolaaDoor
open Go.RowKit Go.PlainAid
set_option linter.unusedVariables false
set_option linter.unusedSimpArgs false

set_option maxRecDepth 100000 in
set_option maxHeartbeats 4000000 in
theorem pumpokI_0t (s n d r l b g k : Int) (D1 : Hid (decide (0 ≤ s ∧ s ≤ 3) = true)) (KR : Hid (∀ w, Calls Tryd.prog 51 #[.agg #[.int .i64 n, .int .i64 d, .int .i64 r]] w fun e w' => e = .returned (.bool true) ∧ Below w.heap.size w w')) (hw : IntKind.i64.wrap (d * 3) = d * 3) (h3 : decide (n ≤ d * 3) = true) (Dl : Hid (decide (0 ≤ l ∧ l ≤ 5000) = true)) (hl : decide (0 < l) = true) (Dv : Hid (decide (s = 1 ∨ s = 3 ∧ k = 1) = true)) (Db : Hid (decide (0 ≤ b ∧ b ≤ 100) = true)) (Dg : Hid (decide (0 ≤ g ∧ g ≤ 1000000000000) = true)) (Dk : Hid (decide ((s = 3 ∧ 0 ≤ k ∧ k ≤ 2) ∨ (¬ s = 3 ∧ k = 0)) = true)) (w : World) : Calls Tryd.prog 32 #[PV s n d r l b g k] w fun e w' => e = .returned (.bool true) ∧ Below w.heap.size w w' := by
  have HB0 : Hid (Below w.heap.size w (w.alloc (PB s n d r l b g k))) := alP _ _
  have HP0 : Hid ((w.alloc (PB s n d r l b g k)).heap[w.heap.size]? = some (PB s n d r l b g k)) := heap_new w _
  have p0 := box8_cells HP0.out
  have HK0 : Hid (KP w (w.alloc (PB s n d r l b g k)).drew (PB s n d r l b g k)) := ⟨HP0.out, HB0.out.drew⟩
  go_enter Tryd.func32, Tryd.ntmps32
  go_wp2_with fail
  clear p0 HB0 HP0
  refine wp_region_held_drew (S := fun w' => w'.cell? ⟨w.heap.size, 0, none⟩ = some (.int .i64 s) ∧ w'.cell? ⟨w.heap.size, 1, none⟩ = some (.int .i64 n) ∧ w'.cell? ⟨w.heap.size, 2, none⟩ = some (.int .i64 d) ∧ w'.cell? ⟨w.heap.size, 3, none⟩ = some (.int .i64 r) ∧ w'.cell? ⟨w.heap.size, 4, none⟩ = some (.int .i64 l) ∧ w'.cell? ⟨w.heap.size, 5, none⟩ = some (.int .i64 b) ∧ w'.cell? ⟨w.heap.size, 6, none⟩ = some (.int .i64 g) ∧ w'.cell? ⟨w.heap.size, 7, none⟩ = some (.int .i64 k) ∧ KP w w' (PB s n d r l b g k)) (by kernel_rfl) (kp_conj HK0.out) (fun hHeld => ?_)
  refine tkA (i := 0) (v := ?_) rfl (Or.inl ⟨by rfl, ?_⟩) ?_
  rotate_left
  · intro w_ hSw; (try dsimp only at hSw); go_simp <;> with_reducible rfl
  try simp only [Act.put, sA, sB, sC, sD, sE, sF]
  refine tkA (i := 1) (v := ?_) rfl (Or.inl ⟨by rfl, ?_⟩) ?_
  rotate_left
  · intro w_ hSw; (try dsimp only at hSw); go_simp <;> with_reducible rfl
  try simp only [Act.put, sA, sB, sC, sD, sE, sF]
  refine tkA (i := 2) (v := ?_) rfl (Or.inl ⟨by rfl, ?_⟩) ?_
  rotate_left
  · intro w_ hSw; (try dsimp only at hSw); go_simp <;> with_reducible rfl
  try simp only [Act.put, sA, sB, sC, sD, sE, sF]
  refine wpAnyH_ready (rs := [3]) (by kernel_rfl) (by simp) ?_
  refine AllReadyH.cons rfl (fun K hK => ?_) AllReadyH.nil
  go_simp
  go_at_call 50
  refine Calls.mono (holdsI 0 3 s true D1.out _) ?_
  rintro e v1 ⟨rfl, hbc⟩
  have HK1 : Hid (KP w v1 (PB s n d r l b g k)) := HK0.out.on hbc
  go_wp2_with fail
  refine hK.out _ _ ?_ (fun hHeld1 => ?_)
  · exact kp_conj HK1.out
  clear hK K hbc HK0
  try simp only [Act.put, sA, sB, sC, sD, sE, sF]
  refine tkA (i := 4) (v := ?_) rfl (Or.inl ⟨by rfl, ?_⟩) ?_
  rotate_left
  · intro w_ hSw; (try dsimp only at hSw); go_simp <;> with_reducible rfl
  try simp only [Act.put, sA, sB, sC, sD, sE, sF]
  refine tkA (i := 5) (v := ?_) rfl (Or.inl ⟨by rfl, ?_⟩) ?_
  rotate_left
  · intro w_ hSw; (try dsimp only at hSw); go_simp <;> with_reducible rfl
  try simp only [Act.put, sA, sB, sC, sD, sE, sF]
  refine tkA (i := 6) (v := ?_) rfl (Or.inl ⟨by rfl, ?_⟩) ?_
  rotate_left
  · intro w_ hSw; (try dsimp only at hSw); go_simp <;> with_reducible rfl
  try simp only [Act.put, sA, sB, sC, sD, sE, sF]
  refine wpAnyH_ready (rs := [7]) (by kernel_rfl) (by simp) ?_
  refine AllReadyH.cons rfl (fun K hK => ?_) AllReadyH.nil
  go_simp
  go_at_call 51
  refine Calls.mono (KR.out _) ?_
  rintro e v2 ⟨rfl, hbc⟩
  have HK2 : Hid (KP w v2 (PB s n d r l b g k)) := HK1.out.on hbc
  go_wp2_with fail
  refine hK.out _ _ ?_ (fun hHeld2 => ?_)
  · exact kp_conj HK2.out
  clear hK K hbc HK1
  try simp only [Act.put, sA, sB, sC, sD, sE, sF]
  refine tkA (i := 8) (v := ?_) rfl (Or.inl ⟨by rfl, ?_⟩) ?_
  rotate_left
  · intro w_ hSw; (try dsimp only at hSw); go_simp <;> with_reducible rfl
  try simp only [Act.put, sA, sB, sC, sD, sE, sF]
  refine tkA (i := 9) (v := ?_) rfl (Or.inl ⟨by rfl, ?_⟩) ?_
  rotate_left
  · intro w_ hSw; (try dsimp only at hSw); go_simp <;> with_reducible rfl
  try simp only [Act.put, sA, sB, sC, sD, sE, sF]
  refine tkA (i := 10) (v := ?_) rfl (Or.inl ⟨by rfl, ?_⟩) ?_
  rotate_left
  · intro w_ hSw; (try dsimp only at hSw); go_simp <;> with_reducible rfl
  try simp only [Act.put, sA, sB, sC, sD, sE, sF]
  refine tkA (i := 11) (v := ?_) rfl (Or.inl ⟨by rfl, ?_⟩) ?_
  rotate_left
  · intro w_ hSw; (try dsimp only at hSw); go_simp <;> with_reducible rfl
  try simp only [Act.put, sA, sB, sC, sD, sE, sF]
  refine tkA (i := 12) (v := ?_) rfl (Or.inl ⟨by rfl, ?_⟩) ?_
  rotate_left
  · intro w_ hSw; (try dsimp only at hSw); go_simp <;> with_reducible rfl
  try simp only [Act.put, sA, sB, sC, sD, sE, sF]
  refine tkA (i := 13) (v := ?_) rfl (Or.inl ⟨by rfl, ?_⟩) ?_
  rotate_left
  · intro w_ hSw; (try dsimp only at hSw); go_simp <;> with_reducible rfl
  try simp only [Act.put, sA, sB, sC, sD, sE, sF]
  refine tkA (i := 14) (v := ?_) rfl (Or.inl ⟨by rfl, ?_⟩) ?_
  rotate_left
  · intro w_ hSw; (try dsimp only at hSw); go_simp <;> with_reducible rfl
  try simp only [Act.put, sA, sB, sC, sD, sE, sF]
  refine tkA (i := 15) (v := ?_) rfl (Or.inl ⟨by rfl, ?_⟩) ?_
  rotate_left
  · intro w_ hSw; (try dsimp only at hSw); go_simp <;> with_reducible rfl
  try simp only [Act.put, sA, sB, sC, sD, sE, sF]
  refine tkA (i := 16) (v := ?_) rfl (Or.inl ⟨by rfl, ?_⟩) ?_
  rotate_left
  · intro w_ hSw; (try dsimp only at hSw); go_simp <;> with_reducible rfl
  try simp only [Act.put, sA, sB, sC, sD, sE, sF]
  refine tkA (i := 17) (v := ?_) rfl (Or.inl ⟨by rfl, ?_⟩) ?_
  rotate_left
  · intro w_ hSw; (try dsimp only at hSw); go_simp <;> with_reducible rfl
  try simp only [Act.put, sA, sB, sC, sD, sE, sF]
  refine tkA (i := 18) (v := ?_) rfl (Or.inl ⟨by rfl, ?_⟩) ?_
  rotate_left
  · intro w_ hSw; (try dsimp only at hSw); go_simp <;> with_reducible rfl
  try simp only [Act.put, sA, sB, sC, sD, sE, sF]
  refine tkA (i := 19) (v := ?_) rfl (Or.inl ⟨by rfl, ?_⟩) ?_
  rotate_left
  · intro w_ hSw; (try dsimp only at hSw); go_simp <;> with_reducible rfl
  try simp only [Act.put, sA, sB, sC, sD, sE, sF]
  refine tkA (i := 20) (v := ?_) rfl (Or.inl ⟨by rfl, ?_⟩) ?_
  rotate_left
  · intro w_ hSw; (try dsimp only at hSw); go_simp <;> with_reducible rfl
  try simp only [Act.put, sA, sB, sC, sD, sE, sF]
  refine tkA (i := 21) (v := ?_) rfl (Or.inl ⟨by rfl, ?_⟩) ?_
  rotate_left
  · intro w_ hSw; (try dsimp only at hSw); go_simp <;> with_reducible rfl
  try simp only [Act.put, sA, sB, sC, sD, sE, sF]
  refine tkA (i := 22) (v := ?_) rfl (Or.inl ⟨by rfl, ?_⟩) ?_
  rotate_left
  · intro w_ hSw; (try dsimp only at hSw); go_simp <;> with_reducible rfl
  try simp only [Act.put, sA, sB, sC, sD, sE, sF]
  refine wpAnyH_ready (rs := [23]) (by kernel_rfl) (by simp) ?_
  refine AllReadyH.cons rfl (fun K hK => ?_) AllReadyH.nil
  go_simp
  go_at_call 50
  refine Calls.mono (holdsI 0 5000 l true Dl.out _) ?_
  rintro e v3 ⟨rfl, hbc⟩
  have HK3 : Hid (KP w v3 (PB s n d r l b g k)) := HK2.out.on hbc
  go_wp2_with fail
  refine hK.out _ _ ?_ (fun hHeld3 => ?_)
  · exact kp_conj HK3.out
  clear hK K hbc HK2
  try simp only [Act.put, sA, sB, sC, sD, sE, sF]
  refine tkA (i := 24) (v := ?_) rfl (Or.inl ⟨by rfl, ?_⟩) ?_
  rotate_left
  · intro w_ hSw; (try dsimp only at hSw); go_simp <;> with_reducible rfl
  try simp only [Act.put, sA, sB, sC, sD, sE, sF]
  refine tkA (i := 25) (v := ?_) rfl (Or.inl ⟨by rfl, ?_⟩) ?_
  rotate_left
  · intro w_ hSw; (try dsimp only at hSw); go_simp <;> with_reducible rfl
  try simp only [Act.put, sA, sB, sC, sD, sE, sF]
  refine tkA (i := 26) (v := ?_) rfl (Or.inl ⟨by rfl, ?_⟩) ?_
  rotate_left
  · intro w_ hSw; (try dsimp only at hSw); go_simp <;> with_reducible rfl
  try simp only [Act.put, sA, sB, sC, sD, sE, sF]
  refine tkA (i := 27) (v := ?_) rfl (Or.inl ⟨by rfl, ?_⟩) ?_
  rotate_left
  · intro w_ hSw; (try dsimp only at hSw); go_simp <;> with_reducible rfl
  try simp only [Act.put, sA, sB, sC, sD, sE, sF]
  refine tkA (i := 28) (v := ?_) rfl (Or.inl ⟨by rfl, ?_⟩) ?_
  rotate_left
  · intro w_ hSw; (try dsimp only at hSw); go_simp <;> with_reducible rfl
  try simp only [Act.put, sA, sB, sC, sD, sE, sF]
  refine tkA (i := 29) (v := ?_) rfl (Or.inl ⟨by rfl, ?_⟩) ?_
  rotate_left
  · intro w_ hSw; (try dsimp only at hSw); go_simp <;> with_reducible rfl
  try simp only [Act.put, sA, sB, sC, sD, sE, sF]
  refine wpAnyH_ready (rs := [30]) (by kernel_rfl) (by simp) ?_
  refine AllReadyH.cons rfl (fun K hK => ?_) AllReadyH.nil
  go_simp
  go_at_call 52
  refine Calls.mono (volI s n d r l b g k true Dv.out _) ?_
  rintro e v4 ⟨rfl, hbc⟩
  have HK4 : Hid (KP w v4 (PB s n d r l b g k)) := HK3.out.on hbc
  go_wp2_with fail
  refine hK.out _ _ ?_ (fun hHeld4 => ?_)
  · exact kp_conj HK4.out
  clear hK K hbc HK3
  try simp only [Act.put, sA, sB, sC, sD, sE, sF]
  refine tkA (i := 31) (v := ?_) rfl (Or.inl ⟨by rfl, ?_⟩) ?_
  rotate_left
  · intro w_ hSw; (try dsimp only at hSw); go_simp <;> with_reducible rfl
  try simp only [Act.put, sA, sB, sC, sD, sE, sF]
  refine tkA (i := 32) (v := ?_) rfl (Or.inl ⟨by rfl, ?_⟩) ?_
  rotate_left
  · intro w_ hSw; (try dsimp only at hSw); go_simp <;> with_reducible rfl
  try simp only [Act.put, sA, sB, sC, sD, sE, sF]
  refine tkA (i := 33) (v := ?_) rfl (Or.inl ⟨by rfl, ?_⟩) ?_
  rotate_left
  · intro w_ hSw; (try dsimp only at hSw); go_simp <;> with_reducible rfl
  try simp only [Act.put, sA, sB, sC, sD, sE, sF]
  refine tkA (i := 34) (v := ?_) rfl (Or.inl ⟨by rfl, ?_⟩) ?_
  rotate_left
  · intro w_ hSw; (try dsimp only at hSw); go_simp <;> with_reducible rfl
  try simp only [Act.put, sA, sB, sC, sD, sE, sF]
  refine tkA (i := 35) (v := ?_) rfl (Or.inl ⟨by rfl, ?_⟩) ?_
  rotate_left
  · intro w_ hSw; (try dsimp only at hSw); go_simp <;> with_reducible rfl
  try simp only [Act.put, sA, sB, sC, sD, sE, sF]
  refine tkA (i := 36) (v := ?_) rfl (Or.inl ⟨by rfl, ?_⟩) ?_
  rotate_left
  · intro w_ hSw; (try dsimp only at hSw); go_simp <;> with_reducible rfl
  try simp only [Act.put, sA, sB, sC, sD, sE, sF]
  refine wpAnyH_ready (rs := [37]) (by kernel_rfl) (by simp) ?_
  refine AllReadyH.cons rfl (fun K hK => ?_) AllReadyH.nil
  go_simp
  go_at_call 50
  refine Calls.mono (holdsI 0 100 b true Db.out _) ?_
  rintro e v5 ⟨rfl, hbc⟩
  have HK5 : Hid (KP w v5 (PB s n d r l b g k)) := HK4.out.on hbc
  go_wp2_with fail
  refine hK.out _ _ ?_ (fun hHeld5 => ?_)
  · exact kp_conj HK5.out
  clear hK K hbc HK4
  try simp only [Act.put, sA, sB, sC, sD, sE, sF]
  refine tkA (i := 38) (v := ?_) rfl (Or.inl ⟨by rfl, ?_⟩) ?_
  rotate_left
  · intro w_ hSw; (try dsimp only at hSw); go_simp <;> with_reducible rfl
  try simp only [Act.put, sA, sB, sC, sD, sE, sF]
  refine tkA (i := 39) (v := ?_) rfl (Or.inl ⟨by rfl, ?_⟩) ?_
  rotate_left
  · intro w_ hSw; (try dsimp only at hSw); go_simp <;> with_reducible rfl
  try simp only [Act.put, sA, sB, sC, sD, sE, sF]
  refine tkA (i := 40) (v := ?_) rfl (Or.inl ⟨by rfl, ?_⟩) ?_
  rotate_left
  · intro w_ hSw; (try dsimp only at hSw); go_simp <;> with_reducible rfl
  try simp only [Act.put, sA, sB, sC, sD, sE, sF]
  refine tkA (i := 41) (v := ?_) rfl (Or.inl ⟨by rfl, ?_⟩) ?_
  rotate_left
  · intro w_ hSw; (try dsimp only at hSw); go_simp <;> with_reducible rfl
  try simp only [Act.put, sA, sB, sC, sD, sE, sF]
  refine tkA (i := 42) (v := ?_) rfl (Or.inl ⟨by rfl, ?_⟩) ?_
  rotate_left
  · intro w_ hSw; (try dsimp only at hSw); go_simp <;> with_reducible rfl
  try simp only [Act.put, sA, sB, sC, sD, sE, sF]
  refine wpAnyH_ready (rs := [43]) (by kernel_rfl) (by simp) ?_
  refine AllReadyH.cons rfl (fun K hK => ?_) AllReadyH.nil
  go_simp
  go_at_call 50
  refine Calls.mono (holdsI 0 1000000000000 g true Dg.out _) ?_
  rintro e v6 ⟨rfl, hbc⟩
  have HK6 : Hid (KP w v6 (PB s n d r l b g k)) := HK5.out.on hbc
  go_wp2_with fail
  refine hK.out _ _ ?_ (fun hHeld6 => ?_)
  · exact kp_conj HK6.out
  clear hK K hbc HK5
  try simp only [Act.put, sA, sB, sC, sD, sE, sF]
  refine tkA (i := 44) (v := ?_) rfl (Or.inl ⟨by rfl, ?_⟩) ?_
  rotate_left
  · intro w_ hSw; (try dsimp only at hSw); go_simp <;> with_reducible rfl
  try simp only [Act.put, sA, sB, sC, sD, sE, sF]
  refine tkA (i := 45) (v := ?_) rfl (Or.inl ⟨by rfl, ?_⟩) ?_
  rotate_left
  · intro w_ hSw; (try dsimp only at hSw); go_simp <;> with_reducible rfl
  try simp only [Act.put, sA, sB, sC, sD, sE, sF]
  refine tkA (i := 46) (v := ?_) rfl (Or.inl ⟨by rfl, ?_⟩) ?_
  rotate_left
  · intro w_ hSw; (try dsimp only at hSw); go_simp <;> with_reducible rfl
  try simp only [Act.put, sA, sB, sC, sD, sE, sF]
  refine wpAnyH_ready (rs := [47]) (by kernel_rfl) (by simp) ?_
  refine AllReadyH.cons rfl (fun K hK => ?_) AllReadyH.nil
  go_simp
  go_at_call 53
  refine Calls.mono (backI s n d r l b g k true Dk.out _) ?_
  rintro e v7 ⟨rfl, hbc⟩
  have HK7 : Hid (KP w v7 (PB s n d r l b g k)) := HK6.out.on hbc
  go_wp2_with fail
  refine hK.out _ _ ?_ (fun hHeld7 => ?_)
  · exact kp_conj HK7.out
  clear hK K hbc HK6
  try simp only [Act.put, sA, sB, sC, sD, sE, sF]
  refine tkA (i := 48) (v := ?_) rfl (Or.inl ⟨by rfl, ?_⟩) ?_
  rotate_left
  · intro w_ hSw; (try dsimp only at hSw); go_simp <;> with_reducible rfl
  try simp only [Act.put, sA, sB, sC, sD, sE, sF]
  refine tkA (i := 49) (v := ?_) rfl (Or.inl ⟨by rfl, ?_⟩) ?_
  rotate_left
  · intro w_ hSw; (try dsimp only at hSw); go_simp <;> with_reducible rfl
  try simp only [Act.put, sA, sB, sC, sD, sE, sF]
  refine wpAnyH_done (by kernel_rfl) ?_ _
  go_wp2
  go_ret
  exact ⟨rfl, HK7.out.2⟩
set_option maxRecDepth 100000 in
set_option maxHeartbeats 4000000 in
theorem pumpokI_1 (s n d r l b g k : Int) (D1 : Hid (decide (0 ≤ s ∧ s ≤ 3) = false)) (w : World) : Calls Tryd.prog 32 #[PV s n d r l b g k] w fun e w' => e = .returned (.bool false) ∧ Below w.heap.size w w' := by
  have HB0 : Hid (Below w.heap.size w (w.alloc (PB s n d r l b g k))) := alP _ _
  have HP0 : Hid ((w.alloc (PB s n d r l b g k)).heap[w.heap.size]? = some (PB s n d r l b g k)) := heap_new w _
  have p0 := box8_cells HP0.out
  have HK0 : Hid (KP w (w.alloc (PB s n d r l b g k)).drew (PB s n d r l b g k)) := ⟨HP0.out, HB0.out.drew⟩
  go_enter Tryd.func32, Tryd.ntmps32
  go_wp2_with fail
  clear p0 HB0 HP0
  refine wp_region_held_drew (S := fun w' => w'.cell? ⟨w.heap.size, 0, none⟩ = some (.int .i64 s) ∧ w'.cell? ⟨w.heap.size, 1, none⟩ = some (.int .i64 n) ∧ w'.cell? ⟨w.heap.size, 2, none⟩ = some (.int .i64 d) ∧ w'.cell? ⟨w.heap.size, 3, none⟩ = some (.int .i64 r) ∧ w'.cell? ⟨w.heap.size, 4, none⟩ = some (.int .i64 l) ∧ w'.cell? ⟨w.heap.size, 5, none⟩ = some (.int .i64 b) ∧ w'.cell? ⟨w.heap.size, 6, none⟩ = some (.int .i64 g) ∧ w'.cell? ⟨w.heap.size, 7, none⟩ = some (.int .i64 k) ∧ KP w w' (PB s n d r l b g k)) (by kernel_rfl) (kp_conj HK0.out) (fun hHeld => ?_)
  refine tkA (i := 0) (v := ?_) rfl (Or.inl ⟨by rfl, ?_⟩) ?_
  rotate_left
  · intro w_ hSw; (try dsimp only at hSw); go_simp <;> with_reducible rfl
  try simp only [Act.put, sA, sB, sC, sD, sE, sF]
  refine tkA (i := 1) (v := ?_) rfl (Or.inl ⟨by rfl, ?_⟩) ?_
  rotate_left
  · intro w_ hSw; (try dsimp only at hSw); go_simp <;> with_reducible rfl
  try simp only [Act.put, sA, sB, sC, sD, sE, sF]
  refine tkA (i := 2) (v := ?_) rfl (Or.inl ⟨by rfl, ?_⟩) ?_
  rotate_left
  · intro w_ hSw; (try dsimp only at hSw); go_simp <;> with_reducible rfl
  try simp only [Act.put, sA, sB, sC, sD, sE, sF]
  refine wpAnyH_ready (rs := [3]) (by kernel_rfl) (by simp) ?_
  refine AllReadyH.cons rfl (fun K hK => ?_) AllReadyH.nil
  go_simp
  go_at_call 50
  refine Calls.mono (holdsI 0 3 s false D1.out _) ?_
  rintro e v1 ⟨rfl, hbc⟩
  have HK1 : Hid (KP w v1 (PB s n d r l b g k)) := HK0.out.on hbc
  go_wp2_with fail
  refine hK.out _ _ ?_ (fun hHeld1 => ?_)
  · exact kp_conj HK1.out
  clear hK K hbc HK0
  try simp only [Act.put, sA, sB, sC, sD, sE, sF]
  refine tkA (i := 4) (v := ?_) rfl (Or.inl ⟨by rfl, ?_⟩) ?_
  rotate_left
  · intro w_ hSw; (try dsimp only at hSw); go_simp <;> with_reducible rfl
  try simp only [Act.put, sA, sB, sC, sD, sE, sF]
  refine tkA (i := 5) (v := undef) rfl (Or.inr ⟨by rfl, rfl⟩) ?_
  try simp only [Act.put, sA, sB, sC, sD, sE, sF]
  refine tkA (i := 6) (v := undef) rfl (Or.inr ⟨by rfl, rfl⟩) ?_
  try simp only [Act.put, sA, sB, sC, sD, sE, sF]
  refine tkA (i := 7) (v := undef) rfl (Or.inr ⟨by rfl, rfl⟩) ?_
  try simp only [Act.put, sA, sB, sC, sD, sE, sF]
  refine tkA (i := 8) (v := ?_) rfl (Or.inl ⟨by rfl, ?_⟩) ?_
  rotate_left
  · intro w_ hSw; (try dsimp only at hSw); go_simp <;> with_reducible rfl
  try simp only [Act.put, sA, sB, sC, sD, sE, sF]
  refine tkA (i := 9) (v := ?_) rfl (Or.inl ⟨by rfl, ?_⟩) ?_
  rotate_left
  · intro w_ hSw; (try dsimp only at hSw); go_simp <;> with_reducible rfl
  try simp only [Act.put, sA, sB, sC, sD, sE, sF]
  refine tkA (i := 10) (v := undef) rfl (Or.inr ⟨by rfl, rfl⟩) ?_
  try simp only [Act.put, sA, sB, sC, sD, sE, sF]
  refine tkA (i := 11) (v := undef) rfl (Or.inr ⟨by rfl, rfl⟩) ?_
  try simp only [Act.put, sA, sB, sC, sD, sE, sF]
  refine tkA (i := 12) (v := undef) rfl (Or.inr ⟨by rfl, rfl⟩) ?_
  try simp only [Act.put, sA, sB, sC, sD, sE, sF]
  refine tkA (i := 13) (v := undef) rfl (Or.inr ⟨by rfl, rfl⟩) ?_
  try simp only [Act.put, sA, sB, sC, sD, sE, sF]
  refine tkA (i := 14) (v := undef) rfl (Or.inr ⟨by rfl, rfl⟩) ?_
  try simp only [Act.put, sA, sB, sC, sD, sE, sF]
  refine tkA (i := 15) (v := undef) rfl (Or.inr ⟨by rfl, rfl⟩) ?_
  try simp only [Act.put, sA, sB, sC, sD, sE, sF]
  refine tkA (i := 16) (v := undef) rfl (Or.inr ⟨by rfl, rfl⟩) ?_
  try simp only [Act.put, sA, sB, sC, sD, sE, sF]
  refine tkA (i := 17) (v := undef) rfl (Or.inr ⟨by rfl, rfl⟩) ?_
  try simp only [Act.put, sA, sB, sC, sD, sE, sF]
  refine tkA (i := 18) (v := ?_) rfl (Or.inl ⟨by rfl, ?_⟩) ?_
  rotate_left
  · intro w_ hSw; (try dsimp only at hSw); go_simp <;> with_reducible rfl
  try simp only [Act.put, sA, sB, sC, sD, sE, sF]
  refine tkA (i := 19) (v := ?_) rfl (Or.inl ⟨by rfl, ?_⟩) ?_
  rotate_left
  · intro w_ hSw; (try dsimp only at hSw); go_simp <;> with_reducible rfl
  try simp only [Act.put, sA, sB, sC, sD, sE, sF]
  refine tkA (i := 20) (v := undef) rfl (Or.inr ⟨by rfl, rfl⟩) ?_
  try simp only [Act.put, sA, sB, sC, sD, sE, sF]
  refine tkA (i := 21) (v := undef) rfl (Or.inr ⟨by rfl, rfl⟩) ?_
  try simp only [Act.put, sA, sB, sC, sD, sE, sF]
  refine tkA (i := 22) (v := undef) rfl (Or.inr ⟨by rfl, rfl⟩) ?_
  try simp only [Act.put, sA, sB, sC, sD, sE, sF]
  refine tkA (i := 23) (v := undef) rfl (Or.inr ⟨by rfl, rfl⟩) ?_
  try simp only [Act.put, sA, sB, sC, sD, sE, sF]
  refine tkA (i := 24) (v := ?_) rfl (Or.inl ⟨by rfl, ?_⟩) ?_
  rotate_left
  · intro w_ hSw; (try dsimp only at hSw); go_simp <;> with_reducible rfl
  try simp only [Act.put, sA, sB, sC, sD, sE, sF]
  refine tkA (i := 25) (v := ?_) rfl (Or.inl ⟨by rfl, ?_⟩) ?_
  rotate_left
  · intro w_ hSw; (try dsimp only at hSw); go_simp <;> with_reducible rfl
  try simp only [Act.put, sA, sB, sC, sD, sE, sF]
  refine tkA (i := 26) (v := undef) rfl (Or.inr ⟨by rfl, rfl⟩) ?_
  try simp only [Act.put, sA, sB, sC, sD, sE, sF]
  refine tkA (i := 27) (v := undef) rfl (Or.inr ⟨by rfl, rfl⟩) ?_
  try simp only [Act.put, sA, sB, sC, sD, sE, sF]
  refine tkA (i := 28) (v := undef) rfl (Or.inr ⟨by rfl, rfl⟩) ?_
  try simp only [Act.put, sA, sB, sC, sD, sE, sF]
  refine tkA (i := 29) (v := undef) rfl (Or.inr ⟨by rfl, rfl⟩) ?_
  try simp only [Act.put, sA, sB, sC, sD, sE, sF]
  refine tkA (i := 30) (v := undef) rfl (Or.inr ⟨by rfl, rfl⟩) ?_
  try simp only [Act.put, sA, sB, sC, sD, sE, sF]
  refine tkA (i := 31) (v := undef) rfl (Or.inr ⟨by rfl, rfl⟩) ?_
  try simp only [Act.put, sA, sB, sC, sD, sE, sF]
  refine tkA (i := 32) (v := ?_) rfl (Or.inl ⟨by rfl, ?_⟩) ?_
  rotate_left
  · intro w_ hSw; (try dsimp only at hSw); go_simp <;> with_reducible rfl
  try simp only [Act.put, sA, sB, sC, sD, sE, sF]
  refine tkA (i := 33) (v := ?_) rfl (Or.inl ⟨by rfl, ?_⟩) ?_
  rotate_left
  · intro w_ hSw; (try dsimp only at hSw); go_simp <;> with_reducible rfl
  try simp only [Act.put, sA, sB, sC, sD, sE, sF]
  refine tkA (i := 34) (v := undef) rfl (Or.inr ⟨by rfl, rfl⟩) ?_
  try simp only [Act.put, sA, sB, sC, sD, sE, sF]
  refine tkA (i := 35) (v := undef) rfl (Or.inr ⟨by rfl, rfl⟩) ?_
  try simp only [Act.put, sA, sB, sC, sD, sE, sF]
  refine tkA (i := 36) (v := undef) rfl (Or.inr ⟨by rfl, rfl⟩) ?_
  try simp only [Act.put, sA, sB, sC, sD, sE, sF]
  refine tkA (i := 37) (v := undef) rfl (Or.inr ⟨by rfl, rfl⟩) ?_
  try simp only [Act.put, sA, sB, sC, sD, sE, sF]
  refine tkA (i := 38) (v := ?_) rfl (Or.inl ⟨by rfl, ?_⟩) ?_
  rotate_left
  · intro w_ hSw; (try dsimp only at hSw); go_simp <;> with_reducible rfl
  try simp only [Act.put, sA, sB, sC, sD, sE, sF]
  refine tkA (i := 39) (v := ?_) rfl (Or.inl ⟨by rfl, ?_⟩) ?_
  rotate_left
  · intro w_ hSw; (try dsimp only at hSw); go_simp <;> with_reducible rfl
  try simp only [Act.put, sA, sB, sC, sD, sE, sF]
  refine tkA (i := 40) (v := undef) rfl (Or.inr ⟨by rfl, rfl⟩) ?_
  try simp only [Act.put, sA, sB, sC, sD, sE, sF]
  refine tkA (i := 41) (v := undef) rfl (Or.inr ⟨by rfl, rfl⟩) ?_
  try simp only [Act.put, sA, sB, sC, sD, sE, sF]
  refine tkA (i := 42) (v := undef) rfl (Or.inr ⟨by rfl, rfl⟩) ?_
  try simp only [Act.put, sA, sB, sC, sD, sE, sF]
  refine tkA (i := 43) (v := undef) rfl (Or.inr ⟨by rfl, rfl⟩) ?_
  try simp only [Act.put, sA, sB, sC, sD, sE, sF]
  refine tkA (i := 44) (v := ?_) rfl (Or.inl ⟨by rfl, ?_⟩) ?_
  rotate_left
  · intro w_ hSw; (try dsimp only at hSw); go_simp <;> with_reducible rfl
  try simp only [Act.put, sA, sB, sC, sD, sE, sF]
  refine tkA (i := 45) (v := ?_) rfl (Or.inl ⟨by rfl, ?_⟩) ?_
  rotate_left
  · intro w_ hSw; (try dsimp only at hSw); go_simp <;> with_reducible rfl
  try simp only [Act.put, sA, sB, sC, sD, sE, sF]
  refine tkA (i := 46) (v := undef) rfl (Or.inr ⟨by rfl, rfl⟩) ?_
  try simp only [Act.put, sA, sB, sC, sD, sE, sF]
  refine tkA (i := 47) (v := undef) rfl (Or.inr ⟨by rfl, rfl⟩) ?_
  try simp only [Act.put, sA, sB, sC, sD, sE, sF]
  refine tkA (i := 48) (v := ?_) rfl (Or.inl ⟨by rfl, ?_⟩) ?_
  rotate_left
  · intro w_ hSw; (try dsimp only at hSw); go_simp <;> with_reducible rfl
  try simp only [Act.put, sA, sB, sC, sD, sE, sF]
  refine tkA (i := 49) (v := ?_) rfl (Or.inl ⟨by rfl, ?_⟩) ?_
  rotate_left
  · intro w_ hSw; (try dsimp only at hSw); go_simp <;> with_reducible rfl
  try simp only [Act.put, sA, sB, sC, sD, sE, sF]
  refine wpAnyH_done (by kernel_rfl) ?_ _
  go_wp2
  go_ret
  exact ⟨rfl, HK1.out.2⟩
set_option maxRecDepth 100000 in
set_option maxHeartbeats 4000000 in
theorem pumpokI_2 (s n d r l b g k : Int) (D1 : Hid (decide (0 ≤ s ∧ s ≤ 3) = true)) (KR : Hid (∀ w, Calls Tryd.prog 51 #[.agg #[.int .i64 n, .int .i64 d, .int .i64 r]] w fun e w' => e = .returned (.bool false) ∧ Below w.heap.size w w')) (w : World) : Calls Tryd.prog 32 #[PV s n d r l b g k] w fun e w' => e = .returned (.bool false) ∧ Below w.heap.size w w' := by
  have HB0 : Hid (Below w.heap.size w (w.alloc (PB s n d r l b g k))) := alP _ _
  have HP0 : Hid ((w.alloc (PB s n d r l b g k)).heap[w.heap.size]? = some (PB s n d r l b g k)) := heap_new w _
  have p0 := box8_cells HP0.out
  have HK0 : Hid (KP w (w.alloc (PB s n d r l b g k)).drew (PB s n d r l b g k)) := ⟨HP0.out, HB0.out.drew⟩
  go_enter Tryd.func32, Tryd.ntmps32
  go_wp2_with fail
  clear p0 HB0 HP0
  refine wp_region_held_drew (S := fun w' => w'.cell? ⟨w.heap.size, 0, none⟩ = some (.int .i64 s) ∧ w'.cell? ⟨w.heap.size, 1, none⟩ = some (.int .i64 n) ∧ w'.cell? ⟨w.heap.size, 2, none⟩ = some (.int .i64 d) ∧ w'.cell? ⟨w.heap.size, 3, none⟩ = some (.int .i64 r) ∧ w'.cell? ⟨w.heap.size, 4, none⟩ = some (.int .i64 l) ∧ w'.cell? ⟨w.heap.size, 5, none⟩ = some (.int .i64 b) ∧ w'.cell? ⟨w.heap.size, 6, none⟩ = some (.int .i64 g) ∧ w'.cell? ⟨w.heap.size, 7, none⟩ = some (.int .i64 k) ∧ KP w w' (PB s n d r l b g k)) (by kernel_rfl) (kp_conj HK0.out) (fun hHeld => ?_)
  refine tkA (i := 0) (v := ?_) rfl (Or.inl ⟨by rfl, ?_⟩) ?_
  rotate_left
  · intro w_ hSw; (try dsimp only at hSw); go_simp <;> with_reducible rfl
  try simp only [Act.put, sA, sB, sC, sD, sE, sF]
  refine tkA (i := 1) (v := ?_) rfl (Or.inl ⟨by rfl, ?_⟩) ?_
  rotate_left
  · intro w_ hSw; (try dsimp only at hSw); go_simp <;> with_reducible rfl
  try simp only [Act.put, sA, sB, sC, sD, sE, sF]
  refine tkA (i := 2) (v := ?_) rfl (Or.inl ⟨by rfl, ?_⟩) ?_
  rotate_left
  · intro w_ hSw; (try dsimp only at hSw); go_simp <;> with_reducible rfl
  try simp only [Act.put, sA, sB, sC, sD, sE, sF]
  refine wpAnyH_ready (rs := [3]) (by kernel_rfl) (by simp) ?_
  refine AllReadyH.cons rfl (fun K hK => ?_) AllReadyH.nil
  go_simp
  go_at_call 50
  refine Calls.mono (holdsI 0 3 s true D1.out _) ?_
  rintro e v1 ⟨rfl, hbc⟩
  have HK1 : Hid (KP w v1 (PB s n d r l b g k)) := HK0.out.on hbc
  go_wp2_with fail
  refine hK.out _ _ ?_ (fun hHeld1 => ?_)
  · exact kp_conj HK1.out
  clear hK K hbc HK0
  try simp only [Act.put, sA, sB, sC, sD, sE, sF]
  refine tkA (i := 4) (v := ?_) rfl (Or.inl ⟨by rfl, ?_⟩) ?_
  rotate_left
  · intro w_ hSw; (try dsimp only at hSw); go_simp <;> with_reducible rfl
  try simp only [Act.put, sA, sB, sC, sD, sE, sF]
  refine tkA (i := 5) (v := ?_) rfl (Or.inl ⟨by rfl, ?_⟩) ?_
  rotate_left
  · intro w_ hSw; (try dsimp only at hSw); go_simp <;> with_reducible rfl
  try simp only [Act.put, sA, sB, sC, sD, sE, sF]
  refine tkA (i := 6) (v := ?_) rfl (Or.inl ⟨by rfl, ?_⟩) ?_
  rotate_left
  · intro w_ hSw; (try dsimp only at hSw); go_simp <;> with_reducible rfl
  try simp only [Act.put, sA, sB, sC, sD, sE, sF]
  refine wpAnyH_ready (rs := [7]) (by kernel_rfl) (by simp) ?_
  refine AllReadyH.cons rfl (fun K hK => ?_) AllReadyH.nil
  go_simp
  go_at_call 51
  refine Calls.mono (KR.out _) ?_
  rintro e v2 ⟨rfl, hbc⟩
  have HK2 : Hid (KP w v2 (PB s n d r l b g k)) := HK1.out.on hbc
  go_wp2_with fail
  refine hK.out _ _ ?_ (fun hHeld2 => ?_)
  · exact kp_conj HK2.out
  clear hK K hbc HK1
  try simp only [Act.put, sA, sB, sC, sD, sE, sF]
  refine tkA (i := 8) (v := ?_) rfl (Or.inl ⟨by rfl, ?_⟩) ?_
  rotate_left
  · intro w_ hSw; (try dsimp only at hSw); go_simp <;> with_reducible rfl
  try simp only [Act.put, sA, sB, sC, sD, sE, sF]
  refine tkA (i := 9) (v := ?_) rfl (Or.inl ⟨by rfl, ?_⟩) ?_
  rotate_left
  · intro w_ hSw; (try dsimp only at hSw); go_simp <;> with_reducible rfl
  try simp only [Act.put, sA, sB, sC, sD, sE, sF]
  refine tkA (i := 10) (v := undef) rfl (Or.inr ⟨by rfl, rfl⟩) ?_
  try simp only [Act.put, sA, sB, sC, sD, sE, sF]
  refine tkA (i := 11) (v := undef) rfl (Or.inr ⟨by rfl, rfl⟩) ?_
  try simp only [Act.put, sA, sB, sC, sD, sE, sF]
  refine tkA (i := 12) (v := undef) rfl (Or.inr ⟨by rfl, rfl⟩) ?_
  try simp only [Act.put, sA, sB, sC, sD, sE, sF]
  refine tkA (i := 13) (v := undef) rfl (Or.inr ⟨by rfl, rfl⟩) ?_
  try simp only [Act.put, sA, sB, sC, sD, sE, sF]
  refine tkA (i := 14) (v := undef) rfl (Or.inr ⟨by rfl, rfl⟩) ?_
  try simp only [Act.put, sA, sB, sC, sD, sE, sF]
  refine tkA (i := 15) (v := undef) rfl (Or.inr ⟨by rfl, rfl⟩) ?_
  try simp only [Act.put, sA, sB, sC, sD, sE, sF]
  refine tkA (i := 16) (v := undef) rfl (Or.inr ⟨by rfl, rfl⟩) ?_
  try simp only [Act.put, sA, sB, sC, sD, sE, sF]
  refine tkA (i := 17) (v := undef) rfl (Or.inr ⟨by rfl, rfl⟩) ?_
  try simp only [Act.put, sA, sB, sC, sD, sE, sF]
  refine tkA (i := 18) (v := ?_) rfl (Or.inl ⟨by rfl, ?_⟩) ?_
  rotate_left
  · intro w_ hSw; (try dsimp only at hSw); go_simp <;> with_reducible rfl
  try simp only [Act.put, sA, sB, sC, sD, sE, sF]
  refine tkA (i := 19) (v := ?_) rfl (Or.inl ⟨by rfl, ?_⟩) ?_
  rotate_left
  · intro w_ hSw; (try dsimp only at hSw); go_simp <;> with_reducible rfl
  try simp only [Act.put, sA, sB, sC, sD, sE, sF]
  refine tkA (i := 20) (v := undef) rfl (Or.inr ⟨by rfl, rfl⟩) ?_
  try simp only [Act.put, sA, sB, sC, sD, sE, sF]
  refine tkA (i := 21) (v := undef) rfl (Or.inr ⟨by rfl, rfl⟩) ?_
  try simp only [Act.put, sA, sB, sC, sD, sE, sF]
  refine tkA (i := 22) (v := undef) rfl (Or.inr ⟨by rfl, rfl⟩) ?_
  try simp only [Act.put, sA, sB, sC, sD, sE, sF]
  refine tkA (i := 23) (v := undef) rfl (Or.inr ⟨by rfl, rfl⟩) ?_
  try simp only [Act.put, sA, sB, sC, sD, sE, sF]
  refine tkA (i := 24) (v := ?_) rfl (Or.inl ⟨by rfl, ?_⟩) ?_
  rotate_left
  · intro w_ hSw; (try dsimp only at hSw); go_simp <;> with_reducible rfl
  try simp only [Act.put, sA, sB, sC, sD, sE, sF]
  refine tkA (i := 25) (v := ?_) rfl (Or.inl ⟨by rfl, ?_⟩) ?_
  rotate_left
  · intro w_ hSw; (try dsimp only at hSw); go_simp <;> with_reducible rfl
  try simp only [Act.put, sA, sB, sC, sD, sE, sF]
  refine tkA (i := 26) (v := undef) rfl (Or.inr ⟨by rfl, rfl⟩) ?_
  try simp only [Act.put, sA, sB, sC, sD, sE, sF]
  refine tkA (i := 27) (v := undef) rfl (Or.inr ⟨by rfl, rfl⟩) ?_
  try simp only [Act.put, sA, sB, sC, sD, sE, sF]
  refine tkA (i := 28) (v := undef) rfl (Or.inr ⟨by rfl, rfl⟩) ?_
  try simp only [Act.put, sA, sB, sC, sD, sE, sF]
  refine tkA (i := 29) (v := undef) rfl (Or.inr ⟨by rfl, rfl⟩) ?_
  try simp only [Act.put, sA, sB, sC, sD, sE, sF]
  refine tkA (i := 30) (v := undef) rfl (Or.inr ⟨by rfl, rfl⟩) ?_
  try simp only [Act.put, sA, sB, sC, sD, sE, sF]
  refine tkA (i := 31) (v := undef) rfl (Or.inr ⟨by rfl, rfl⟩) ?_
  try simp only [Act.put, sA, sB, sC, sD, sE, sF]
  refine tkA (i := 32) (v := ?_) rfl (Or.inl ⟨by rfl, ?_⟩) ?_
  rotate_left
  · intro w_ hSw; (try dsimp only at hSw); go_simp <;> with_reducible rfl
  try simp only [Act.put, sA, sB, sC, sD, sE, sF]
  refine tkA (i := 33) (v := ?_) rfl (Or.inl ⟨by rfl, ?_⟩) ?_
  rotate_left
  · intro w_ hSw; (try dsimp only at hSw); go_simp <;> with_reducible rfl
  try simp only [Act.put, sA, sB, sC, sD, sE, sF]
  refine tkA (i := 34) (v := undef) rfl (Or.inr ⟨by rfl, rfl⟩) ?_
  try simp only [Act.put, sA, sB, sC, sD, sE, sF]
  refine tkA (i := 35) (v := undef) rfl (Or.inr ⟨by rfl, rfl⟩) ?_
  try simp only [Act.put, sA, sB, sC, sD, sE, sF]
  refine tkA (i := 36) (v := undef) rfl (Or.inr ⟨by rfl, rfl⟩) ?_
  try simp only [Act.put, sA, sB, sC, sD, sE, sF]
  refine tkA (i := 37) (v := undef) rfl (Or.inr ⟨by rfl, rfl⟩) ?_
  try simp only [Act.put, sA, sB, sC, sD, sE, sF]
  refine tkA (i := 38) (v := ?_) rfl (Or.inl ⟨by rfl, ?_⟩) ?_
  rotate_left
  · intro w_ hSw; (try dsimp only at hSw); go_simp <;> with_reducible rfl
  try simp only [Act.put, sA, sB, sC, sD, sE, sF]
  refine tkA (i := 39) (v := ?_) rfl (Or.inl ⟨by rfl, ?_⟩) ?_
  rotate_left
  · intro w_ hSw; (try dsimp only at hSw); go_simp <;> with_reducible rfl
  try simp only [Act.put, sA, sB, sC, sD, sE, sF]
  refine tkA (i := 40) (v := undef) rfl (Or.inr ⟨by rfl, rfl⟩) ?_
  try simp only [Act.put, sA, sB, sC, sD, sE, sF]
  refine tkA (i := 41) (v := undef) rfl (Or.inr ⟨by rfl, rfl⟩) ?_
  try simp only [Act.put, sA, sB, sC, sD, sE, sF]
  refine tkA (i := 42) (v := undef) rfl (Or.inr ⟨by rfl, rfl⟩) ?_
  try simp only [Act.put, sA, sB, sC, sD, sE, sF]
  refine tkA (i := 43) (v := undef) rfl (Or.inr ⟨by rfl, rfl⟩) ?_
  try simp only [Act.put, sA, sB, sC, sD, sE, sF]
  refine tkA (i := 44) (v := ?_) rfl (Or.inl ⟨by rfl, ?_⟩) ?_
  rotate_left
  · intro w_ hSw; (try dsimp only at hSw); go_simp <;> with_reducible rfl
  try simp only [Act.put, sA, sB, sC, sD, sE, sF]
  refine tkA (i := 45) (v := ?_) rfl (Or.inl ⟨by rfl, ?_⟩) ?_
  rotate_left
  · intro w_ hSw; (try dsimp only at hSw); go_simp <;> with_reducible rfl
  try simp only [Act.put, sA, sB, sC, sD, sE, sF]
  refine tkA (i := 46) (v := undef) rfl (Or.inr ⟨by rfl, rfl⟩) ?_
  try simp only [Act.put, sA, sB, sC, sD, sE, sF]
  refine tkA (i := 47) (v := undef) rfl (Or.inr ⟨by rfl, rfl⟩) ?_
  try simp only [Act.put, sA, sB, sC, sD, sE, sF]
  refine tkA (i := 48) (v := ?_) rfl (Or.inl ⟨by rfl, ?_⟩) ?_
  rotate_left
  · intro w_ hSw; (try dsimp only at hSw); go_simp <;> with_reducible rfl
  try simp only [Act.put, sA, sB, sC, sD, sE, sF]
  refine tkA (i := 49) (v := ?_) rfl (Or.inl ⟨by rfl, ?_⟩) ?_
  rotate_left
  · intro w_ hSw; (try dsimp only at hSw); go_simp <;> with_reducible rfl
  try simp only [Act.put, sA, sB, sC, sD, sE, sF]
  refine wpAnyH_done (by kernel_rfl) ?_ _
  go_wp2
  go_ret
  exact ⟨rfl, HK2.out.2⟩
end Go.Proofs.YtbcegpncledolaaDoor

namespace Go.Proofs.YtbcegpncledolaaDoor
open Go.RowKit Go.PlainAid
set_option linter.unusedVariables false
set_option linter.unusedSimpArgs false

set_option maxRecDepth 100000 in
set_option maxHeartbeats 4000000 in
theorem pumpokI_0f (s n d r l b g k : Int) (D1 : Hid (decide (0 ≤ s ∧ s ≤ 3) = true)) (KR : Hid (∀ w, Calls Tryd.prog 51 #[.agg #[.int .i64 n, .int .i64 d, .int .i64 r]] w fun e w' => e = .returned (.bool true) ∧ Below w.heap.size w w')) (hw : IntKind.i64.wrap (d * 3) = d * 3) (h3 : decide (n ≤ d * 3) = true) (Dl : Hid (decide (0 ≤ l ∧ l ≤ 5000) = true)) (hl : decide (0 < l) = false) (Dv : Hid (decide (s = 1 ∨ s = 3 ∧ k = 1) = false)) (Db : Hid (decide (0 ≤ b ∧ b ≤ 100) = true)) (Dg : Hid (decide (0 ≤ g ∧ g ≤ 1000000000000) = true)) (Dk : Hid (decide ((s = 3 ∧ 0 ≤ k ∧ k ≤ 2) ∨ (¬ s = 3 ∧ k = 0)) = true)) (w : World) : Calls Tryd.prog 32 #[PV s n d r l b g k] w fun e w' => e = .returned (.bool true) ∧ Below w.heap.size w w' := by
  have HB0 : Hid (Below w.heap.size w (w.alloc (PB s n d r l b g k))) := alP _ _
  have HP0 : Hid ((w.alloc (PB s n d r l b g k)).heap[w.heap.size]? = some (PB s n d r l b g k)) := heap_new w _
  have p0 := box8_cells HP0.out
  have HK0 : Hid (KP w (w.alloc (PB s n d r l b g k)).drew (PB s n d r l b g k)) := ⟨HP0.out, HB0.out.drew⟩
  go_enter Tryd.func32, Tryd.ntmps32
  go_wp2_with fail
  clear p0 HB0 HP0
  refine wp_region_held_drew (S := fun w' => w'.cell? ⟨w.heap.size, 0, none⟩ = some (.int .i64 s) ∧ w'.cell? ⟨w.heap.size, 1, none⟩ = some (.int .i64 n) ∧ w'.cell? ⟨w.heap.size, 2, none⟩ = some (.int .i64 d) ∧ w'.cell? ⟨w.heap.size, 3, none⟩ = some (.int .i64 r) ∧ w'.cell? ⟨w.heap.size, 4, none⟩ = some (.int .i64 l) ∧ w'.cell? ⟨w.heap.size, 5, none⟩ = some (.int .i64 b) ∧ w'.cell? ⟨w.heap.size, 6, none⟩ = some (.int .i64 g) ∧ w'.cell? ⟨w.heap.size, 7, none⟩ = some (.int .i64 k) ∧ KP w w' (PB s n d r l b g k)) (by kernel_rfl) (kp_conj HK0.out) (fun hHeld => ?_)
  refine tkA (i := 0) (v := ?_) rfl (Or.inl ⟨by rfl, ?_⟩) ?_
  rotate_left
  · intro w_ hSw; (try dsimp only at hSw); go_simp <;> with_reducible rfl
  try simp only [Act.put, sA, sB, sC, sD, sE, sF]
  refine tkA (i := 1) (v := ?_) rfl (Or.inl ⟨by rfl, ?_⟩) ?_
  rotate_left
  · intro w_ hSw; (try dsimp only at hSw); go_simp <;> with_reducible rfl
  try simp only [Act.put, sA, sB, sC, sD, sE, sF]
  refine tkA (i := 2) (v := ?_) rfl (Or.inl ⟨by rfl, ?_⟩) ?_
  rotate_left
  · intro w_ hSw; (try dsimp only at hSw); go_simp <;> with_reducible rfl
  try simp only [Act.put, sA, sB, sC, sD, sE, sF]
  refine wpAnyH_ready (rs := [3]) (by kernel_rfl) (by simp) ?_
  refine AllReadyH.cons rfl (fun K hK => ?_) AllReadyH.nil
  go_simp
  go_at_call 50
  refine Calls.mono (holdsI 0 3 s true D1.out _) ?_
  rintro e v1 ⟨rfl, hbc⟩
  have HK1 : Hid (KP w v1 (PB s n d r l b g k)) := HK0.out.on hbc
  go_wp2_with fail
  refine hK.out _ _ ?_ (fun hHeld1 => ?_)
  · exact kp_conj HK1.out
  clear hK K hbc HK0
  try simp only [Act.put, sA, sB, sC, sD, sE, sF]
  refine tkA (i := 4) (v := ?_) rfl (Or.inl ⟨by rfl, ?_⟩) ?_
  rotate_left
  · intro w_ hSw; (try dsimp only at hSw); go_simp <;> with_reducible rfl
  try simp only [Act.put, sA, sB, sC, sD, sE, sF]
  refine tkA (i := 5) (v := ?_) rfl (Or.inl ⟨by rfl, ?_⟩) ?_
  rotate_left
  · intro w_ hSw; (try dsimp only at hSw); go_simp <;> with_reducible rfl
  try simp only [Act.put, sA, sB, sC, sD, sE, sF]
  refine tkA (i := 6) (v := ?_) rfl (Or.inl ⟨by rfl, ?_⟩) ?_
  rotate_left
  · intro w_ hSw; (try dsimp only at hSw); go_simp <;> with_reducible rfl
  try simp only [Act.put, sA, sB, sC, sD, sE, sF]
  refine wpAnyH_ready (rs := [7]) (by kernel_rfl) (by simp) ?_
  refine AllReadyH.cons rfl (fun K hK => ?_) AllReadyH.nil
  go_simp
  go_at_call 51
  refine Calls.mono (KR.out _) ?_
  rintro e v2 ⟨rfl, hbc⟩
  have HK2 : Hid (KP w v2 (PB s n d r l b g k)) := HK1.out.on hbc
  go_wp2_with fail
  refine hK.out _ _ ?_ (fun hHeld2 => ?_)
  · exact kp_conj HK2.out
  clear hK K hbc HK1
  try simp only [Act.put, sA, sB, sC, sD, sE, sF]
  refine tkA (i := 8) (v := ?_) rfl (Or.inl ⟨by rfl, ?_⟩) ?_
  rotate_left
  · intro w_ hSw; (try dsimp only at hSw); go_simp <;> with_reducible rfl
  try simp only [Act.put, sA, sB, sC, sD, sE, sF]
  refine tkA (i := 9) (v := ?_) rfl (Or.inl ⟨by rfl, ?_⟩) ?_
  rotate_left
  · intro w_ hSw; (try dsimp only at hSw); go_simp <;> with_reducible rfl
  try simp only [Act.put, sA, sB, sC, sD, sE, sF]
  refine tkA (i := 10) (v := ?_) rfl (Or.inl ⟨by rfl, ?_⟩) ?_
  rotate_left
  · intro w_ hSw; (try dsimp only at hSw); go_simp <;> with_reducible rfl
  try simp only [Act.put, sA, sB, sC, sD, sE, sF]
  refine tkA (i := 11) (v := ?_) rfl (Or.inl ⟨by rfl, ?_⟩) ?_
  rotate_left
  · intro w_ hSw; (try dsimp only at hSw); go_simp <;> with_reducible rfl
  try simp only [Act.put, sA, sB, sC, sD, sE, sF]
  refine tkA (i := 12) (v := ?_) rfl (Or.inl ⟨by rfl, ?_⟩) ?_
  rotate_left
  · intro w_ hSw; (try dsimp only at hSw); go_simp <;> with_reducible rfl
  try simp only [Act.put, sA, sB, sC, sD, sE, sF]
  refine tkA (i := 13) (v := ?_) rfl (Or.inl ⟨by rfl, ?_⟩) ?_
  rotate_left
  · intro w_ hSw; (try dsimp only at hSw); go_simp <;> with_reducible rfl
  try simp only [Act.put, sA, sB, sC, sD, sE, sF]
  refine tkA (i := 14) (v := ?_) rfl (Or.inl ⟨by rfl, ?_⟩) ?_
  rotate_left
  · intro w_ hSw; (try dsimp only at hSw); go_simp <;> with_reducible rfl
  try simp only [Act.put, sA, sB, sC, sD, sE, sF]
  refine tkA (i := 15) (v := ?_) rfl (Or.inl ⟨by rfl, ?_⟩) ?_
  rotate_left
  · intro w_ hSw; (try dsimp only at hSw); go_simp <;> with_reducible rfl
  try simp only [Act.put, sA, sB, sC, sD, sE, sF]
  refine tkA (i := 16) (v := ?_) rfl (Or.inl ⟨by rfl, ?_⟩) ?_
  rotate_left
  · intro w_ hSw; (try dsimp only at hSw); go_simp <;> with_reducible rfl
  try simp only [Act.put, sA, sB, sC, sD, sE, sF]
  refine tkA (i := 17) (v := ?_) rfl (Or.inl ⟨by rfl, ?_⟩) ?_
  rotate_left
  · intro w_ hSw; (try dsimp only at hSw); go_simp <;> with_reducible rfl
  try simp only [Act.put, sA, sB, sC, sD, sE, sF]
  refine tkA (i := 18) (v := ?_) rfl (Or.inl ⟨by rfl, ?_⟩) ?_
  rotate_left
  · intro w_ hSw; (try dsimp only at hSw); go_simp <;> with_reducible rfl
  try simp only [Act.put, sA, sB, sC, sD, sE, sF]
  refine tkA (i := 19) (v := ?_) rfl (Or.inl ⟨by rfl, ?_⟩) ?_
  rotate_left
  · intro w_ hSw; (try dsimp only at hSw); go_simp <;> with_reducible rfl
  try simp only [Act.put, sA, sB, sC, sD, sE, sF]
  refine tkA (i := 20) (v := ?_) rfl (Or.inl ⟨by rfl, ?_⟩) ?_
  rotate_left
  · intro w_ hSw; (try dsimp only at hSw); go_simp <;> with_reducible rfl
  try simp only [Act.put, sA, sB, sC, sD, sE, sF]
  refine tkA (i := 21) (v := ?_) rfl (Or.inl ⟨by rfl, ?_⟩) ?_
  rotate_left
  · intro w_ hSw; (try dsimp only at hSw); go_simp <;> with_reducible rfl
  try simp only [Act.put, sA, sB, sC, sD, sE, sF]
  refine tkA (i := 22) (v := ?_) rfl (Or.inl ⟨by rfl, ?_⟩) ?_
  rotate_left
  · intro w_ hSw; (try dsimp only at hSw); go_simp <;> with_reducible rfl
  try simp only [Act.put, sA, sB, sC, sD, sE, sF]
  refine wpAnyH_ready (rs := [23]) (by kernel_rfl) (by simp) ?_
  refine AllReadyH.cons rfl (fun K hK => ?_) AllReadyH.nil
  go_simp
  go_at_call 50
  refine Calls.mono (holdsI 0 5000 l true Dl.out _) ?_
  rintro e v3 ⟨rfl, hbc⟩
  have HK3 : Hid (KP w v3 (PB s n d r l b g k)) := HK2.out.on hbc
  go_wp2_with fail
  refine hK.out _ _ ?_ (fun hHeld3 => ?_)
  · exact kp_conj HK3.out
  clear hK K hbc HK2
  try simp only [Act.put, sA, sB, sC, sD, sE, sF]
  refine tkA (i := 24) (v := ?_) rfl (Or.inl ⟨by rfl, ?_⟩) ?_
  rotate_left
  · intro w_ hSw; (try dsimp only at hSw); go_simp <;> with_reducible rfl
  try simp only [Act.put, sA, sB, sC, sD, sE, sF]
  refine tkA (i := 25) (v := ?_) rfl (Or.inl ⟨by rfl, ?_⟩) ?_
  rotate_left
  · intro w_ hSw; (try dsimp only at hSw); go_simp <;> with_reducible rfl
  try simp only [Act.put, sA, sB, sC, sD, sE, sF]
  refine tkA (i := 26) (v := ?_) rfl (Or.inl ⟨by rfl, ?_⟩) ?_
  rotate_left
  · intro w_ hSw; (try dsimp only at hSw); go_simp <;> with_reducible rfl
  try simp only [Act.put, sA, sB, sC, sD, sE, sF]
  refine tkA (i := 27) (v := ?_) rfl (Or.inl ⟨by rfl, ?_⟩) ?_
  rotate_left
  · intro w_ hSw; (try dsimp only at hSw); go_simp <;> with_reducible rfl
  try simp only [Act.put, sA, sB, sC, sD, sE, sF]
  refine tkA (i := 28) (v := ?_) rfl (Or.inl ⟨by rfl, ?_⟩) ?_
  rotate_left
  · intro w_ hSw; (try dsimp only at hSw); go_simp <;> with_reducible rfl
  try simp only [Act.put, sA, sB, sC, sD, sE, sF]
  refine tkA (i := 29) (v := ?_) rfl (Or.inl ⟨by rfl, ?_⟩) ?_
  rotate_left
  · intro w_ hSw; (try dsimp only at hSw); go_simp <;> with_reducible rfl
  try simp only [Act.put, sA, sB, sC, sD, sE, sF]
  refine wpAnyH_ready (rs := [30]) (by kernel_rfl) (by simp) ?_
  refine AllReadyH.cons rfl (fun K hK => ?_) AllReadyH.nil
  go_simp
  go_at_call 52
  refine Calls.mono (volI s n d r l b g k false Dv.out _) ?_
  rintro e v4 ⟨rfl, hbc⟩
  have HK4 : Hid (KP w v4 (PB s n d r l b g k)) := HK3.out.on hbc
  go_wp2_with fail
  refine hK.out _ _ ?_ (fun hHeld4 => ?_)
  · exact kp_conj HK4.out
  clear hK K hbc HK3
  try simp only [Act.put, sA, sB, sC, sD, sE, sF]
  refine tkA (i := 31) (v := ?_) rfl (Or.inl ⟨by rfl, ?_⟩) ?_
  rotate_left
  · intro w_ hSw; (try dsimp only at hSw); go_simp <;> with_reducible rfl
  try simp only [Act.put, sA, sB, sC, sD, sE, sF]
  refine tkA (i := 32) (v := ?_) rfl (Or.inl ⟨by rfl, ?_⟩) ?_
  rotate_left
  · intro w_ hSw; (try dsimp only at hSw); go_simp <;> with_reducible rfl
  try simp only [Act.put, sA, sB, sC, sD, sE, sF]
  refine tkA (i := 33) (v := ?_) rfl (Or.inl ⟨by rfl, ?_⟩) ?_
  rotate_left
  · intro w_ hSw; (try dsimp only at hSw); go_simp <;> with_reducible rfl
  try simp only [Act.put, sA, sB, sC, sD, sE, sF]
  refine tkA (i := 34) (v := ?_) rfl (Or.inl ⟨by rfl, ?_⟩) ?_
  rotate_left
  · intro w_ hSw; (try dsimp only at hSw); go_simp <;> with_reducible rfl
  try simp only [Act.put, sA, sB, sC, sD, sE, sF]
  refine tkA (i := 35) (v := ?_) rfl (Or.inl ⟨by rfl, ?_⟩) ?_
  rotate_left
  · intro w_ hSw; (try dsimp only at hSw); go_simp <;> with_reducible rfl
  try simp only [Act.put, sA, sB, sC, sD, sE, sF]
  refine tkA (i := 36) (v := ?_) rfl (Or.inl ⟨by rfl, ?_⟩) ?_
  rotate_left
  · intro w_ hSw; (try dsimp only at hSw); go_simp <;> with_reducible rfl
  try simp only [Act.put, sA, sB, sC, sD, sE, sF]
  refine wpAnyH_ready (rs := [37]) (by kernel_rfl) (by simp) ?_
  refine AllReadyH.cons rfl (fun K hK => ?_) AllReadyH.nil
  go_simp
  go_at_call 50
  refine Calls.mono (holdsI 0 100 b true Db.out _) ?_
  rintro e v5 ⟨rfl, hbc⟩
  have HK5 : Hid (KP w v5 (PB s n d r l b g k)) := HK4.out.on hbc
  go_wp2_with fail
  refine hK.out _ _ ?_ (fun hHeld5 => ?_)
  · exact kp_conj HK5.out
  clear hK K hbc HK4
  try simp only [Act.put, sA, sB, sC, sD, sE, sF]
  refine tkA (i := 38) (v := ?_) rfl (Or.inl ⟨by rfl, ?_⟩) ?_
  rotate_left
  · intro w_ hSw; (try dsimp only at hSw); go_simp <;> with_reducible rfl
  try simp only [Act.put, sA, sB, sC, sD, sE, sF]
  refine tkA (i := 39) (v := ?_) rfl (Or.inl ⟨by rfl, ?_⟩) ?_
  rotate_left
  · intro w_ hSw; (try dsimp only at hSw); go_simp <;> with_reducible rfl
  try simp only [Act.put, sA, sB, sC, sD, sE, sF]
  refine tkA (i := 40) (v := ?_) rfl (Or.inl ⟨by rfl, ?_⟩) ?_
  rotate_left
  · intro w_ hSw; (try dsimp only at hSw); go_simp <;> with_reducible rfl
  try simp only [Act.put, sA, sB, sC, sD, sE, sF]
  refine tkA (i := 41) (v := ?_) rfl (Or.inl ⟨by rfl, ?_⟩) ?_
  rotate_left
  · intro w_ hSw; (try dsimp only at hSw); go_simp <;> with_reducible rfl
  try simp only [Act.put, sA, sB, sC, sD, sE, sF]
  refine tkA (i := 42) (v := ?_) rfl (Or.inl ⟨by rfl, ?_⟩) ?_
  rotate_left
  · intro w_ hSw; (try dsimp only at hSw); go_simp <;> with_reducible rfl
  try simp only [Act.put, sA, sB, sC, sD, sE, sF]
  refine wpAnyH_ready (rs := [43]) (by kernel_rfl) (by simp) ?_
  refine AllReadyH.cons rfl (fun K hK => ?_) AllReadyH.nil
  go_simp
  go_at_call 50
  refine Calls.mono (holdsI 0 1000000000000 g true Dg.out _) ?_
  rintro e v6 ⟨rfl, hbc⟩
  have HK6 : Hid (KP w v6 (PB s n d r l b g k)) := HK5.out.on hbc
  go_wp2_with fail
  refine hK.out _ _ ?_ (fun hHeld6 => ?_)
  · exact kp_conj HK6.out
  clear hK K hbc HK5
  try simp only [Act.put, sA, sB, sC, sD, sE, sF]
  refine tkA (i := 44) (v := ?_) rfl (Or.inl ⟨by rfl, ?_⟩) ?_
  rotate_left
  · intro w_ hSw; (try dsimp only at hSw); go_simp <;> with_reducible rfl
  try simp only [Act.put, sA, sB, sC, sD, sE, sF]
  refine tkA (i := 45) (v := ?_) rfl (Or.inl ⟨by rfl, ?_⟩) ?_
  rotate_left
  · intro w_ hSw; (try dsimp only at hSw); go_simp <;> with_reducible rfl
  try simp only [Act.put, sA, sB, sC, sD, sE, sF]
  refine tkA (i := 46) (v := ?_) rfl (Or.inl ⟨by rfl, ?_⟩) ?_
  rotate_left
  · intro w_ hSw; (try dsimp only at hSw); go_simp <;> with_reducible rfl
  try simp only [Act.put, sA, sB, sC, sD, sE, sF]
  refine wpAnyH_ready (rs := [47]) (by kernel_rfl) (by simp) ?_
  refine AllReadyH.cons rfl (fun K hK => ?_) AllReadyH.nil
  go_simp
  go_at_call 53
  refine Calls.mono (backI s n d r l b g k true Dk.out _) ?_
  rintro e v7 ⟨rfl, hbc⟩
  have HK7 : Hid (KP w v7 (PB s n d r l b g k)) := HK6.out.on hbc
  go_wp2_with fail
  refine hK.out _ _ ?_ (fun hHeld7 => ?_)
  · exact kp_conj HK7.out
  clear hK K hbc HK6
  try simp only [Act.put, sA, sB, sC, sD, sE, sF]
  refine tkA (i := 48) (v := ?_) rfl (Or.inl ⟨by rfl, ?_⟩) ?_
  rotate_left
  · intro w_ hSw; (try dsimp only at hSw); go_simp <;> with_reducible rfl
  try simp only [Act.put, sA, sB, sC, sD, sE, sF]
  refine tkA (i := 49) (v := ?_) rfl (Or.inl ⟨by rfl, ?_⟩) ?_
  rotate_left
  · intro w_ hSw; (try dsimp only at hSw); go_simp <;> with_reducible rfl
  try simp only [Act.put, sA, sB, sC, sD, sE, sF]
  refine wpAnyH_done (by kernel_rfl) ?_ _
  go_wp2
  go_ret
  exact ⟨rfl, HK7.out.2⟩
set_option maxRecDepth 100000 in
set_option maxHeartbeats 4000000 in
theorem pumpokI_3 (s n d r l b g k : Int) (D1 : Hid (decide (0 ≤ s ∧ s ≤ 3) = true)) (KR : Hid (∀ w, Calls Tryd.prog 51 #[.agg #[.int .i64 n, .int .i64 d, .int .i64 r]] w fun e w' => e = .returned (.bool true) ∧ Below w.heap.size w w')) (hw : IntKind.i64.wrap (d * 3) = d * 3) (h3 : decide (n ≤ d * 3) = false) (w : World) : Calls Tryd.prog 32 #[PV s n d r l b g k] w fun e w' => e = .returned (.bool false) ∧ Below w.heap.size w w' := by
  have HB0 : Hid (Below w.heap.size w (w.alloc (PB s n d r l b g k))) := alP _ _
  have HP0 : Hid ((w.alloc (PB s n d r l b g k)).heap[w.heap.size]? = some (PB s n d r l b g k)) := heap_new w _
  have p0 := box8_cells HP0.out
  have HK0 : Hid (KP w (w.alloc (PB s n d r l b g k)).drew (PB s n d r l b g k)) := ⟨HP0.out, HB0.out.drew⟩
  go_enter Tryd.func32, Tryd.ntmps32
  go_wp2_with fail
  clear p0 HB0 HP0
  refine wp_region_held_drew (S := fun w' => w'.cell? ⟨w.heap.size, 0, none⟩ = some (.int .i64 s) ∧ w'.cell? ⟨w.heap.size, 1, none⟩ = some (.int .i64 n) ∧ w'.cell? ⟨w.heap.size, 2, none⟩ = some (.int .i64 d) ∧ w'.cell? ⟨w.heap.size, 3, none⟩ = some (.int .i64 r) ∧ w'.cell? ⟨w.heap.size, 4, none⟩ = some (.int .i64 l) ∧ w'.cell? ⟨w.heap.size, 5, none⟩ = some (.int .i64 b) ∧ w'.cell? ⟨w.heap.size, 6, none⟩ = some (.int .i64 g) ∧ w'.cell? ⟨w.heap.size, 7, none⟩ = some (.int .i64 k) ∧ KP w w' (PB s n d r l b g k)) (by kernel_rfl) (kp_conj HK0.out) (fun hHeld => ?_)
  refine tkA (i := 0) (v := ?_) rfl (Or.inl ⟨by rfl, ?_⟩) ?_
  rotate_left
  · intro w_ hSw; (try dsimp only at hSw); go_simp <;> with_reducible rfl
  try simp only [Act.put, sA, sB, sC, sD, sE, sF]
  refine tkA (i := 1) (v := ?_) rfl (Or.inl ⟨by rfl, ?_⟩) ?_
  rotate_left
  · intro w_ hSw; (try dsimp only at hSw); go_simp <;> with_reducible rfl
  try simp only [Act.put, sA, sB, sC, sD, sE, sF]
  refine tkA (i := 2) (v := ?_) rfl (Or.inl ⟨by rfl, ?_⟩) ?_
  rotate_left
  · intro w_ hSw; (try dsimp only at hSw); go_simp <;> with_reducible rfl
  try simp only [Act.put, sA, sB, sC, sD, sE, sF]
  refine wpAnyH_ready (rs := [3]) (by kernel_rfl) (by simp) ?_
  refine AllReadyH.cons rfl (fun K hK => ?_) AllReadyH.nil
  go_simp
  go_at_call 50
  refine Calls.mono (holdsI 0 3 s true D1.out _) ?_
  rintro e v1 ⟨rfl, hbc⟩
  have HK1 : Hid (KP w v1 (PB s n d r l b g k)) := HK0.out.on hbc
  go_wp2_with fail
  refine hK.out _ _ ?_ (fun hHeld1 => ?_)
  · exact kp_conj HK1.out
  clear hK K hbc HK0
  try simp only [Act.put, sA, sB, sC, sD, sE, sF]
  refine tkA (i := 4) (v := ?_) rfl (Or.inl ⟨by rfl, ?_⟩) ?_
  rotate_left
  · intro w_ hSw; (try dsimp only at hSw); go_simp <;> with_reducible rfl
  try simp only [Act.put, sA, sB, sC, sD, sE, sF]
  refine tkA (i := 5) (v := ?_) rfl (Or.inl ⟨by rfl, ?_⟩) ?_
  rotate_left
  · intro w_ hSw; (try dsimp only at hSw); go_simp <;> with_reducible rfl
  try simp only [Act.put, sA, sB, sC, sD, sE, sF]
  refine tkA (i := 6) (v := ?_) rfl (Or.inl ⟨by rfl, ?_⟩) ?_
  rotate_left
  · intro w_ hSw; (try dsimp only at hSw); go_simp <;> with_reducible rfl
  try simp only [Act.put, sA, sB, sC, sD, sE, sF]
  refine wpAnyH_ready (rs := [7]) (by kernel_rfl) (by simp) ?_
  refine AllReadyH.cons rfl (fun K hK => ?_) AllReadyH.nil
  go_simp
  go_at_call 51
  refine Calls.mono (KR.out _) ?_
  rintro e v2 ⟨rfl, hbc⟩
  have HK2 : Hid (KP w v2 (PB s n d r l b g k)) := HK1.out.on hbc
  go_wp2_with fail
  refine hK.out _ _ ?_ (fun hHeld2 => ?_)
  · exact kp_conj HK2.out
  clear hK K hbc HK1
  try simp only [Act.put, sA, sB, sC, sD, sE, sF]
  refine tkA (i := 8) (v := ?_) rfl (Or.inl ⟨by rfl, ?_⟩) ?_
  rotate_left
  · intro w_ hSw; (try dsimp only at hSw); go_simp <;> with_reducible rfl
  try simp only [Act.put, sA, sB, sC, sD, sE, sF]
  refine tkA (i := 9) (v := ?_) rfl (Or.inl ⟨by rfl, ?_⟩) ?_
  rotate_left
  · intro w_ hSw; (try dsimp only at hSw); go_simp <;> with_reducible rfl
  try simp only [Act.put, sA, sB, sC, sD, sE, sF]
  refine tkA (i := 10) (v := ?_) rfl (Or.inl ⟨by rfl, ?_⟩) ?_
  rotate_left
  · intro w_ hSw; (try dsimp only at hSw); go_simp <;> with_reducible rfl
  try simp only [Act.put, sA, sB, sC, sD, sE, sF]
  refine tkA (i := 11) (v := ?_) rfl (Or.inl ⟨by rfl, ?_⟩) ?_
  rotate_left
  · intro w_ hSw; (try dsimp only at hSw); go_simp <;> with_reducible rfl
  try simp only [Act.put, sA, sB, sC, sD, sE, sF]
  refine tkA (i := 12) (v := ?_) rfl (Or.inl ⟨by rfl, ?_⟩) ?_
  rotate_left
  · intro w_ hSw; (try dsimp only at hSw); go_simp <;> with_reducible rfl
  try simp only [Act.put, sA, sB, sC, sD, sE, sF]
  refine tkA (i := 13) (v := ?_) rfl (Or.inl ⟨by rfl, ?_⟩) ?_
  rotate_left
  · intro w_ hSw; (try dsimp only at hSw); go_simp <;> with_reducible rfl
  try simp only [Act.put, sA, sB, sC, sD, sE, sF]
  refine tkA (i := 14) (v := ?_) rfl (Or.inl ⟨by rfl, ?_⟩) ?_
  rotate_left
  · intro w_ hSw; (try dsimp only at hSw); go_simp <;> with_reducible rfl
  try simp only [Act.put, sA, sB, sC, sD, sE, sF]
  refine tkA (i := 15) (v := ?_) rfl (Or.inl ⟨by rfl, ?_⟩) ?_
  rotate_left
  · intro w_ hSw; (try dsimp only at hSw); go_simp <;> with_reducible rfl
  try simp only [Act.put, sA, sB, sC, sD, sE, sF]
  refine tkA (i := 16) (v := ?_) rfl (Or.inl ⟨by rfl, ?_⟩) ?_
  rotate_left
  · intro w_ hSw; (try dsimp only at hSw); go_simp <;> with_reducible rfl
  try simp only [Act.put, sA, sB, sC, sD, sE, sF]
  refine tkA (i := 17) (v := ?_) rfl (Or.inl ⟨by rfl, ?_⟩) ?_
  rotate_left
  · intro w_ hSw; (try dsimp only at hSw); go_simp <;> with_reducible rfl
  try simp only [Act.put, sA, sB, sC, sD, sE, sF]
  refine tkA (i := 18) (v := ?_) rfl (Or.inl ⟨by rfl, ?_⟩) ?_
  rotate_left
  · intro w_ hSw; (try dsimp only at hSw); go_simp <;> with_reducible rfl
  try simp only [Act.put, sA, sB, sC, sD, sE, sF]
  refine tkA (i := 19) (v := ?_) rfl (Or.inl ⟨by rfl, ?_⟩) ?_
  rotate_left
  · intro w_ hSw; (try dsimp only at hSw); go_simp <;> with_reducible rfl
  try simp only [Act.put, sA, sB, sC, sD, sE, sF]
  refine tkA (i := 20) (v := undef) rfl (Or.inr ⟨by rfl, rfl⟩) ?_
  try simp only [Act.put, sA, sB, sC, sD, sE, sF]
  refine tkA (i := 21) (v := undef) rfl (Or.inr ⟨by rfl, rfl⟩) ?_
  try simp only [Act.put, sA, sB, sC, sD, sE, sF]
  refine tkA (i := 22) (v := undef) rfl (Or.inr ⟨by rfl, rfl⟩) ?_
  try simp only [Act.put, sA, sB, sC, sD, sE, sF]
  refine tkA (i := 23) (v := undef) rfl (Or.inr ⟨by rfl, rfl⟩) ?_
  try simp only [Act.put, sA, sB, sC, sD, sE, sF]
  refine tkA (i := 24) (v := ?_) rfl (Or.inl ⟨by rfl, ?_⟩) ?_
  rotate_left
  · intro w_ hSw; (try dsimp only at hSw); go_simp <;> with_reducible rfl
  try simp only [Act.put, sA, sB, sC, sD, sE, sF]
  refine tkA (i := 25) (v := ?_) rfl (Or.inl ⟨by rfl, ?_⟩) ?_
  rotate_left
  · intro w_ hSw; (try dsimp only at hSw); go_simp <;> with_reducible rfl
  try simp only [Act.put, sA, sB, sC, sD, sE, sF]
  refine tkA (i := 26) (v := undef) rfl (Or.inr ⟨by rfl, rfl⟩) ?_
  try simp only [Act.put, sA, sB, sC, sD, sE, sF]
  refine tkA (i := 27) (v := undef) rfl (Or.inr ⟨by rfl, rfl⟩) ?_
  try simp only [Act.put, sA, sB, sC, sD, sE, sF]
  refine tkA (i := 28) (v := undef) rfl (Or.inr ⟨by rfl, rfl⟩) ?_
  try simp only [Act.put, sA, sB, sC, sD, sE, sF]
  refine tkA (i := 29) (v := undef) rfl (Or.inr ⟨by rfl, rfl⟩) ?_
  try simp only [Act.put, sA, sB, sC, sD, sE, sF]
  refine tkA (i := 30) (v := undef) rfl (Or.inr ⟨by rfl, rfl⟩) ?_
  try simp only [Act.put, sA, sB, sC, sD, sE, sF]
  refine tkA (i := 31) (v := undef) rfl (Or.inr ⟨by rfl, rfl⟩) ?_
  try simp only [Act.put, sA, sB, sC, sD, sE, sF]
  refine tkA (i := 32) (v := ?_) rfl (Or.inl ⟨by rfl, ?_⟩) ?_
  rotate_left
  · intro w_ hSw; (try dsimp only at hSw); go_simp <;> with_reducible rfl
  try simp only [Act.put, sA, sB, sC, sD, sE, sF]
  refine tkA (i := 33) (v := ?_) rfl (Or.inl ⟨by rfl, ?_⟩) ?_
  rotate_left
  · intro w_ hSw; (try dsimp only at hSw); go_simp <;> with_reducible rfl
  try simp only [Act.put, sA, sB, sC, sD, sE, sF]
  refine tkA (i := 34) (v := undef) rfl (Or.inr ⟨by rfl, rfl⟩) ?_
  try simp only [Act.put, sA, sB, sC, sD, sE, sF]
  refine tkA (i := 35) (v := undef) rfl (Or.inr ⟨by rfl, rfl⟩) ?_
  try simp only [Act.put, sA, sB, sC, sD, sE, sF]
  refine tkA (i := 36) (v := undef) rfl (Or.inr ⟨by rfl, rfl⟩) ?_
  try simp only [Act.put, sA, sB, sC, sD, sE, sF]
  refine tkA (i := 37) (v := undef) rfl (Or.inr ⟨by rfl, rfl⟩) ?_
  try simp only [Act.put, sA, sB, sC, sD, sE, sF]
  refine tkA (i := 38) (v := ?_) rfl (Or.inl ⟨by rfl, ?_⟩) ?_
  rotate_left
  · intro w_ hSw; (try dsimp only at hSw); go_simp <;> with_reducible rfl
  try simp only [Act.put, sA, sB, sC, sD, sE, sF]
  refine tkA (i := 39) (v := ?_) rfl (Or.inl ⟨by rfl, ?_⟩) ?_
  rotate_left
  · intro w_ hSw; (try dsimp only at hSw); go_simp <;> with_reducible rfl
  try simp only [Act.put, sA, sB, sC, sD, sE, sF]
  refine tkA (i := 40) (v := undef) rfl (Or.inr ⟨by rfl, rfl⟩) ?_
  try simp only [Act.put, sA, sB, sC, sD, sE, sF]
  refine tkA (i := 41) (v := undef) rfl (Or.inr ⟨by rfl, rfl⟩) ?_
  try simp only [Act.put, sA, sB, sC, sD, sE, sF]
  refine tkA (i := 42) (v := undef) rfl (Or.inr ⟨by rfl, rfl⟩) ?_
  try simp only [Act.put, sA, sB, sC, sD, sE, sF]
  refine tkA (i := 43) (v := undef) rfl (Or.inr ⟨by rfl, rfl⟩) ?_
  try simp only [Act.put, sA, sB, sC, sD, sE, sF]
  refine tkA (i := 44) (v := ?_) rfl (Or.inl ⟨by rfl, ?_⟩) ?_
  rotate_left
  · intro w_ hSw; (try dsimp only at hSw); go_simp <;> with_reducible rfl
  try simp only [Act.put, sA, sB, sC, sD, sE, sF]
  refine tkA (i := 45) (v := ?_) rfl (Or.inl ⟨by rfl, ?_⟩) ?_
  rotate_left
  · intro w_ hSw; (try dsimp only at hSw); go_simp <;> with_reducible rfl
  try simp only [Act.put, sA, sB, sC, sD, sE, sF]
  refine tkA (i := 46) (v := undef) rfl (Or.inr ⟨by rfl, rfl⟩) ?_
  try simp only [Act.put, sA, sB, sC, sD, sE, sF]
  refine tkA (i := 47) (v := undef) rfl (Or.inr ⟨by rfl, rfl⟩) ?_
  try simp only [Act.put, sA, sB, sC, sD, sE, sF]
  refine tkA (i := 48) (v := ?_) rfl (Or.inl ⟨by rfl, ?_⟩) ?_
  rotate_left
  · intro w_ hSw; (try dsimp only at hSw); go_simp <;> with_reducible rfl
  try simp only [Act.put, sA, sB, sC, sD, sE, sF]
  refine tkA (i := 49) (v := ?_) rfl (Or.inl ⟨by rfl, ?_⟩) ?_
  rotate_left
  · intro w_ hSw; (try dsimp only at hSw); go_simp <;> with_reducible rfl
  try simp only [Act.put, sA, sB, sC, sD, sE, sF]
  refine wpAnyH_done (by kernel_rfl) ?_ _
  go_wp2
  go_ret
  exact ⟨rfl, HK2.out.2⟩
set_option maxRecDepth 100000 in
set_option maxHeartbeats 4000000 in
theorem pumpokI_4 (s n d r l b g k : Int) (D1 : Hid (decide (0 ≤ s ∧ s ≤ 3) = true)) (KR : Hid (∀ w, Calls Tryd.prog 51 #[.agg #[.int .i64 n, .int .i64 d, .int .i64 r]] w fun e w' => e = .returned (.bool true) ∧ Below w.heap.size w w')) (hw : IntKind.i64.wrap (d * 3) = d * 3) (h3 : decide (n ≤ d * 3) = true) (Dl : Hid (decide (0 ≤ l ∧ l ≤ 5000) = false)) (w : World) : Calls Tryd.prog 32 #[PV s n d r l b g k] w fun e w' => e = .returned (.bool false) ∧ Below w.heap.size w w' := by
  have HB0 : Hid (Below w.heap.size w (w.alloc (PB s n d r l b g k))) := alP _ _
  have HP0 : Hid ((w.alloc (PB s n d r l b g k)).heap[w.heap.size]? = some (PB s n d r l b g k)) := heap_new w _
  have p0 := box8_cells HP0.out
  have HK0 : Hid (KP w (w.alloc (PB s n d r l b g k)).drew (PB s n d r l b g k)) := ⟨HP0.out, HB0.out.drew⟩
  go_enter Tryd.func32, Tryd.ntmps32
  go_wp2_with fail
  clear p0 HB0 HP0
  refine wp_region_held_drew (S := fun w' => w'.cell? ⟨w.heap.size, 0, none⟩ = some (.int .i64 s) ∧ w'.cell? ⟨w.heap.size, 1, none⟩ = some (.int .i64 n) ∧ w'.cell? ⟨w.heap.size, 2, none⟩ = some (.int .i64 d) ∧ w'.cell? ⟨w.heap.size, 3, none⟩ = some (.int .i64 r) ∧ w'.cell? ⟨w.heap.size, 4, none⟩ = some (.int .i64 l) ∧ w'.cell? ⟨w.heap.size, 5, none⟩ = some (.int .i64 b) ∧ w'.cell? ⟨w.heap.size, 6, none⟩ = some (.int .i64 g) ∧ w'.cell? ⟨w.heap.size, 7, none⟩ = some (.int .i64 k) ∧ KP w w' (PB s n d r l b g k)) (by kernel_rfl) (kp_conj HK0.out) (fun hHeld => ?_)
  refine tkA (i := 0) (v := ?_) rfl (Or.inl ⟨by rfl, ?_⟩) ?_
  rotate_left
  · intro w_ hSw; (try dsimp only at hSw); go_simp <;> with_reducible rfl
  try simp only [Act.put, sA, sB, sC, sD, sE, sF]
  refine tkA (i := 1) (v := ?_) rfl (Or.inl ⟨by rfl, ?_⟩) ?_
  rotate_left
  · intro w_ hSw; (try dsimp only at hSw); go_simp <;> with_reducible rfl
  try simp only [Act.put, sA, sB, sC, sD, sE, sF]
  refine tkA (i := 2) (v := ?_) rfl (Or.inl ⟨by rfl, ?_⟩) ?_
  rotate_left
  · intro w_ hSw; (try dsimp only at hSw); go_simp <;> with_reducible rfl
  try simp only [Act.put, sA, sB, sC, sD, sE, sF]
  refine wpAnyH_ready (rs := [3]) (by kernel_rfl) (by simp) ?_
  refine AllReadyH.cons rfl (fun K hK => ?_) AllReadyH.nil
  go_simp
  go_at_call 50
  refine Calls.mono (holdsI 0 3 s true D1.out _) ?_
  rintro e v1 ⟨rfl, hbc⟩
  have HK1 : Hid (KP w v1 (PB s n d r l b g k)) := HK0.out.on hbc
  go_wp2_with fail
  refine hK.out _ _ ?_ (fun hHeld1 => ?_)
  · exact kp_conj HK1.out
  clear hK K hbc HK0
  try simp only [Act.put, sA, sB, sC, sD, sE, sF]
  refine tkA (i := 4) (v := ?_) rfl (Or.inl ⟨by rfl, ?_⟩) ?_
  rotate_left
  · intro w_ hSw; (try dsimp only at hSw); go_simp <;> with_reducible rfl
  try simp only [Act.put, sA, sB, sC, sD, sE, sF]
  refine tkA (i := 5) (v := ?_) rfl (Or.inl ⟨by rfl, ?_⟩) ?_
  rotate_left
  · intro w_ hSw; (try dsimp only at hSw); go_simp <;> with_reducible rfl
  try simp only [Act.put, sA, sB, sC, sD, sE, sF]
  refine tkA (i := 6) (v := ?_) rfl (Or.inl ⟨by rfl, ?_⟩) ?_
  rotate_left
  · intro w_ hSw; (try dsimp only at hSw); go_simp <;> with_reducible rfl
  try simp only [Act.put, sA, sB, sC, sD, sE, sF]
  refine wpAnyH_ready (rs := [7]) (by kernel_rfl) (by simp) ?_
  refine AllReadyH.cons rfl (fun K hK => ?_) AllReadyH.nil
  go_simp
  go_at_call 51
  refine Calls.mono (KR.out _) ?_
  rintro e v2 ⟨rfl, hbc⟩
  have HK2 : Hid (KP w v2 (PB s n d r l b g k)) := HK1.out.on hbc
  go_wp2_with fail
  refine hK.out _ _ ?_ (fun hHeld2 => ?_)
  · exact kp_conj HK2.out
  clear hK K hbc HK1
  try simp only [Act.put, sA, sB, sC, sD, sE, sF]
  refine tkA (i := 8) (v := ?_) rfl (Or.inl ⟨by rfl, ?_⟩) ?_
  rotate_left
  · intro w_ hSw; (try dsimp only at hSw); go_simp <;> with_reducible rfl
  try simp only [Act.put, sA, sB, sC, sD, sE, sF]
  refine tkA (i := 9) (v := ?_) rfl (Or.inl ⟨by rfl, ?_⟩) ?_
  rotate_left
  · intro w_ hSw; (try dsimp only at hSw); go_simp <;> with_reducible rfl
  try simp only [Act.put, sA, sB, sC, sD, sE, sF]
  refine tkA (i := 10) (v := ?_) rfl (Or.inl ⟨by rfl, ?_⟩) ?_
  rotate_left
  · intro w_ hSw; (try dsimp only at hSw); go_simp <;> with_reducible rfl
  try simp only [Act.put, sA, sB, sC, sD, sE, sF]
  refine tkA (i := 11) (v := ?_) rfl (Or.inl ⟨by rfl, ?_⟩) ?_
  rotate_left
  · intro w_ hSw; (try dsimp only at hSw); go_simp <;> with_reducible rfl
  try simp only [Act.put, sA, sB, sC, sD, sE, sF]
  refine tkA (i := 12) (v := ?_) rfl (Or.inl ⟨by rfl, ?_⟩) ?_
  rotate_left
  · intro w_ hSw; (try dsimp only at hSw); go_simp <;> with_reducible rfl
  try simp only [Act.put, sA, sB, sC, sD, sE, sF]
  refine tkA (i := 13) (v := ?_) rfl (Or.inl ⟨by rfl, ?_⟩) ?_
  rotate_left
  · intro w_ hSw; (try dsimp only at hSw); go_simp <;> with_reducible rfl
  try simp only [Act.put, sA, sB, sC, sD, sE, sF]
  refine tkA (i := 14) (v := ?_) rfl (Or.inl ⟨by rfl, ?_⟩) ?_
  rotate_left
  · intro w_ hSw; (try dsimp only at hSw); go_simp <;> with_reducible rfl
  try simp only [Act.put, sA, sB, sC, sD, sE, sF]
  refine tkA (i := 15) (v := ?_) rfl (Or.inl ⟨by rfl, ?_⟩) ?_
  rotate_left
  · intro w_ hSw; (try dsimp only at hSw); go_simp <;> with_reducible rfl
  try simp only [Act.put, sA, sB, sC, sD, sE, sF]
  refine tkA (i := 16) (v := ?_) rfl (Or.inl ⟨by rfl, ?_⟩) ?_
  rotate_left
  · intro w_ hSw; (try dsimp only at hSw); go_simp <;> with_reducible rfl
  try simp only [Act.put, sA, sB, sC, sD, sE, sF]
  refine tkA (i := 17) (v := ?_) rfl (Or.inl ⟨by rfl, ?_⟩) ?_
  rotate_left
  · intro w_ hSw; (try dsimp only at hSw); go_simp <;> with_reducible rfl
  try simp only [Act.put, sA, sB, sC, sD, sE, sF]
  refine tkA (i := 18) (v := ?_) rfl (Or.inl ⟨by rfl, ?_⟩) ?_
  rotate_left
  · intro w_ hSw; (try dsimp only at hSw); go_simp <;> with_reducible rfl
  try simp only [Act.put, sA, sB, sC, sD, sE, sF]
  refine tkA (i := 19) (v := ?_) rfl (Or.inl ⟨by rfl, ?_⟩) ?_
  rotate_left
  · intro w_ hSw; (try dsimp only at hSw); go_simp <;> with_reducible rfl
  try simp only [Act.put, sA, sB, sC, sD, sE, sF]
  refine tkA (i := 20) (v := ?_) rfl (Or.inl ⟨by rfl, ?_⟩) ?_
  rotate_left
  · intro w_ hSw; (try dsimp only at hSw); go_simp <;> with_reducible rfl
  try simp only [Act.put, sA, sB, sC, sD, sE, sF]
  refine tkA (i := 21) (v := ?_) rfl (Or.inl ⟨by rfl, ?_⟩) ?_
  rotate_left
  · intro w_ hSw; (try dsimp only at hSw); go_simp <;> with_reducible rfl
  try simp only [Act.put, sA, sB, sC, sD, sE, sF]
  refine tkA (i := 22) (v := ?_) rfl (Or.inl ⟨by rfl, ?_⟩) ?_
  rotate_left
  · intro w_ hSw; (try dsimp only at hSw); go_simp <;> with_reducible rfl
  try simp only [Act.put, sA, sB, sC, sD, sE, sF]
  refine wpAnyH_ready (rs := [23]) (by kernel_rfl) (by simp) ?_
  refine AllReadyH.cons rfl (fun K hK => ?_) AllReadyH.nil
  go_simp
  go_at_call 50
  refine Calls.mono (holdsI 0 5000 l false Dl.out _) ?_
  rintro e v3 ⟨rfl, hbc⟩
  have HK3 : Hid (KP w v3 (PB s n d r l b g k)) := HK2.out.on hbc
  go_wp2_with fail
  refine hK.out _ _ ?_ (fun hHeld3 => ?_)
  · exact kp_conj HK3.out
  clear hK K hbc HK2
  try simp only [Act.put, sA, sB, sC, sD, sE, sF]
  refine tkA (i := 24) (v := ?_) rfl (Or.inl ⟨by rfl, ?_⟩) ?_
  rotate_left
  · intro w_ hSw; (try dsimp only at hSw); go_simp <;> with_reducible rfl
  try simp only [Act.put, sA, sB, sC, sD, sE, sF]
  refine tkA (i := 25) (v := ?_) rfl (Or.inl ⟨by rfl, ?_⟩) ?_
  rotate_left
  · intro w_ hSw; (try dsimp only at hSw); go_simp <;> with_reducible rfl
  try simp only [Act.put, sA, sB, sC, sD, sE, sF]
  refine tkA (i := 26) (v := undef) rfl (Or.inr ⟨by rfl, rfl⟩) ?_
  try simp only [Act.put, sA, sB, sC, sD, sE, sF]
  refine tkA (i := 27) (v := undef) rfl (Or.inr ⟨by rfl, rfl⟩) ?_
  try simp only [Act.put, sA, sB, sC, sD, sE, sF]
  refine tkA (i := 28) (v := undef) rfl (Or.inr ⟨by rfl, rfl⟩) ?_
  try simp only [Act.put, sA, sB, sC, sD, sE, sF]
  refine tkA (i := 29) (v := undef) rfl (Or.inr ⟨by rfl, rfl⟩) ?_
  try simp only [Act.put, sA, sB, sC, sD, sE, sF]
  refine tkA (i := 30) (v := undef) rfl (Or.inr ⟨by rfl, rfl⟩) ?_
  try simp only [Act.put, sA, sB, sC, sD, sE, sF]
  refine tkA (i := 31) (v := undef) rfl (Or.inr ⟨by rfl, rfl⟩) ?_
  try simp only [Act.put, sA, sB, sC, sD, sE, sF]
  refine tkA (i := 32) (v := ?_) rfl (Or.inl ⟨by rfl, ?_⟩) ?_
  rotate_left
  · intro w_ hSw; (try dsimp only at hSw); go_simp <;> with_reducible rfl
  try simp only [Act.put, sA, sB, sC, sD, sE, sF]
  refine tkA (i := 33) (v := ?_) rfl (Or.inl ⟨by rfl, ?_⟩) ?_
  rotate_left
  · intro w_ hSw; (try dsimp only at hSw); go_simp <;> with_reducible rfl
  try simp only [Act.put, sA, sB, sC, sD, sE, sF]
  refine tkA (i := 34) (v := undef) rfl (Or.inr ⟨by rfl, rfl⟩) ?_
  try simp only [Act.put, sA, sB, sC, sD, sE, sF]
  refine tkA (i := 35) (v := undef) rfl (Or.inr ⟨by rfl, rfl⟩) ?_
  try simp only [Act.put, sA, sB, sC, sD, sE, sF]
  refine tkA (i := 36) (v := undef) rfl (Or.inr ⟨by rfl, rfl⟩) ?_
  try simp only [Act.put, sA, sB, sC, sD, sE, sF]
  refine tkA (i := 37) (v := undef) rfl (Or.inr ⟨by rfl, rfl⟩) ?_
  try simp only [Act.put, sA, sB, sC, sD, sE, sF]
  refine tkA (i := 38) (v := ?_) rfl (Or.inl ⟨by rfl, ?_⟩) ?_
  rotate_left
  · intro w_ hSw; (try dsimp only at hSw); go_simp <;> with_reducible rfl
  try simp only [Act.put, sA, sB, sC, sD, sE, sF]
  refine tkA (i := 39) (v := ?_) rfl (Or.inl ⟨by rfl, ?_⟩) ?_
  rotate_left
  · intro w_ hSw; (try dsimp only at hSw); go_simp <;> with_reducible rfl
  try simp only [Act.put, sA, sB, sC, sD, sE, sF]
  refine tkA (i := 40) (v := undef) rfl (Or.inr ⟨by rfl, rfl⟩) ?_
  try simp only [Act.put, sA, sB, sC, sD, sE, sF]
  refine tkA (i := 41) (v := undef) rfl (Or.inr ⟨by rfl, rfl⟩) ?_
  try simp only [Act.put, sA, sB, sC, sD, sE, sF]
  refine tkA (i := 42) (v := undef) rfl (Or.inr ⟨by rfl, rfl⟩) ?_
  try simp only [Act.put, sA, sB, sC, sD, sE, sF]
  refine tkA (i := 43) (v := undef) rfl (Or.inr ⟨by rfl, rfl⟩) ?_
  try simp only [Act.put, sA, sB, sC, sD, sE, sF]
  refine tkA (i := 44) (v := ?_) rfl (Or.inl ⟨by rfl, ?_⟩) ?_
  rotate_left
  · intro w_ hSw; (try dsimp only at hSw); go_simp <;> with_reducible rfl
  try simp only [Act.put, sA, sB, sC, sD, sE, sF]
  refine tkA (i := 45) (v := ?_) rfl (Or.inl ⟨by rfl, ?_⟩) ?_
  rotate_left
  · intro w_ hSw; (try dsimp only at hSw); go_simp <;> with_reducible rfl
  try simp only [Act.put, sA, sB, sC, sD, sE, sF]
  refine tkA (i := 46) (v := undef) rfl (Or.inr ⟨by rfl, rfl⟩) ?_
  try simp only [Act.put, sA, sB, sC, sD, sE, sF]
  refine tkA (i := 47) (v := undef) rfl (Or.inr ⟨by rfl, rfl⟩) ?_
  try simp only [Act.put, sA, sB, sC, sD, sE, sF]
  refine tkA (i := 48) (v := ?_) rfl (Or.inl ⟨by rfl, ?_⟩) ?_
  rotate_left
  · intro w_ hSw; (try dsimp only at hSw); go_simp <;> with_reducible rfl
  try simp only [Act.put, sA, sB, sC, sD, sE, sF]
  refine tkA (i := 49) (v := ?_) rfl (Or.inl ⟨by rfl, ?_⟩) ?_
  rotate_left
  · intro w_ hSw; (try dsimp only at hSw); go_simp <;> with_reducible rfl
  try simp only [Act.put, sA, sB, sC, sD, sE, sF]
  refine wpAnyH_done (by kernel_rfl) ?_ _
  go_wp2
  go_ret
  exact ⟨rfl, HK3.out.2⟩
end Go.Proofs.YtbcegpncledolaaDoor

namespace Go.Proofs.YtbcegpncledolaaDoor
open Go.RowKit Go.PlainAid
set_option linter.unusedVariables false
set_option linter.unusedSimpArgs false

set_option maxRecDepth 100000 in
set_option maxHeartbeats 4000000 in
theorem pumpokI_5t (s n d r l b g k : Int) (D1 : Hid (decide (0 ≤ s ∧ s ≤ 3) = true)) (KR : Hid (∀ w, Calls Tryd.prog 51 #[.agg #[.int .i64 n, .int .i64 d, .int .i64 r]] w fun e w' => e = .returned (.bool true) ∧ Below w.heap.size w w')) (hw : IntKind.i64.wrap (d * 3) = d * 3) (h3 : decide (n ≤ d * 3) = true) (Dl : Hid (decide (0 ≤ l ∧ l ≤ 5000) = true)) (hl : decide (0 < l) = false) (Dv : Hid (decide (s = 1 ∨ s = 3 ∧ k = 1) = true)) (w : World) : Calls Tryd.prog 32 #[PV s n d r l b g k] w fun e w' => e = .returned (.bool false) ∧ Below w.heap.size w w' := by
  have HB0 : Hid (Below w.heap.size w (w.alloc (PB s n d r l b g k))) := alP _ _
  have HP0 : Hid ((w.alloc (PB s n d r l b g k)).heap[w.heap.size]? = some (PB s n d r l b g k)) := heap_new w _
  have p0 := box8_cells HP0.out
  have HK0 : Hid (KP w (w.alloc (PB s n d r l b g k)).drew (PB s n d r l b g k)) := ⟨HP0.out, HB0.out.drew⟩
  go_enter Tryd.func32, Tryd.ntmps32
  go_wp2_with fail
  clear p0 HB0 HP0
  refine wp_region_held_drew (S := fun w' => w'.cell? ⟨w.heap.size, 0, none⟩ = some (.int .i64 s) ∧ w'.cell? ⟨w.heap.size, 1, none⟩ = some (.int .i64 n) ∧ w'.cell? ⟨w.heap.size, 2, none⟩ = some (.int .i64 d) ∧ w'.cell? ⟨w.heap.size, 3, none⟩ = some (.int .i64 r) ∧ w'.cell? ⟨w.heap.size, 4, none⟩ = some (.int .i64 l) ∧ w'.cell? ⟨w.heap.size, 5, none⟩ = some (.int .i64 b) ∧ w'.cell? ⟨w.heap.size, 6, none⟩ = some (.int .i64 g) ∧ w'.cell? ⟨w.heap.size, 7, none⟩ = some (.int .i64 k) ∧ KP w w' (PB s n d r l b g k)) (by kernel_rfl) (kp_conj HK0.out) (fun hHeld => ?_)
  refine tkA (i := 0) (v := ?_) rfl (Or.inl ⟨by rfl, ?_⟩) ?_
  rotate_left
  · intro w_ hSw; (try dsimp only at hSw); go_simp <;> with_reducible rfl
  try simp only [Act.put, sA, sB, sC, sD, sE, sF]
  refine tkA (i := 1) (v := ?_) rfl (Or.inl ⟨by rfl, ?_⟩) ?_
  rotate_left
  · intro w_ hSw; (try dsimp only at hSw); go_simp <;> with_reducible rfl
  try simp only [Act.put, sA, sB, sC, sD, sE, sF]
  refine tkA (i := 2) (v := ?_) rfl (Or.inl ⟨by rfl, ?_⟩) ?_
  rotate_left
  · intro w_ hSw; (try dsimp only at hSw); go_simp <;> with_reducible rfl
  try simp only [Act.put, sA, sB, sC, sD, sE, sF]
  refine wpAnyH_ready (rs := [3]) (by kernel_rfl) (by simp) ?_
  refine AllReadyH.cons rfl (fun K hK => ?_) AllReadyH.nil
  go_simp
  go_at_call 50
  refine Calls.mono (holdsI 0 3 s true D1.out _) ?_
  rintro e v1 ⟨rfl, hbc⟩
  have HK1 : Hid (KP w v1 (PB s n d r l b g k)) := HK0.out.on hbc
  go_wp2_with fail
  refine hK.out _ _ ?_ (fun hHeld1 => ?_)
  · exact kp_conj HK1.out
  clear hK K hbc HK0
  try simp only [Act.put, sA, sB, sC, sD, sE, sF]
  refine tkA (i := 4) (v := ?_) rfl (Or.inl ⟨by rfl, ?_⟩) ?_
  rotate_left
  · intro w_ hSw; (try dsimp only at hSw); go_simp <;> with_reducible rfl
  try simp only [Act.put, sA, sB, sC, sD, sE, sF]
  refine tkA (i := 5) (v := ?_) rfl (Or.inl ⟨by rfl, ?_⟩) ?_
  rotate_left
  · intro w_ hSw; (try dsimp only at hSw); go_simp <;> with_reducible rfl
  try simp only [Act.put, sA, sB, sC, sD, sE, sF]
  refine tkA (i := 6) (v := ?_) rfl (Or.inl ⟨by rfl, ?_⟩) ?_
  rotate_left
  · intro w_ hSw; (try dsimp only at hSw); go_simp <;> with_reducible rfl
  try simp only [Act.put, sA, sB, sC, sD, sE, sF]
  refine wpAnyH_ready (rs := [7]) (by kernel_rfl) (by simp) ?_
  refine AllReadyH.cons rfl (fun K hK => ?_) AllReadyH.nil
  go_simp
  go_at_call 51
  refine Calls.mono (KR.out _) ?_
  rintro e v2 ⟨rfl, hbc⟩
  have HK2 : Hid (KP w v2 (PB s n d r l b g k)) := HK1.out.on hbc
  go_wp2_with fail
  refine hK.out _ _ ?_ (fun hHeld2 => ?_)
  · exact kp_conj HK2.out
  clear hK K hbc HK1
  try simp only [Act.put, sA, sB, sC, sD, sE, sF]
  refine tkA (i := 8) (v := ?_) rfl (Or.inl ⟨by rfl, ?_⟩) ?_
  rotate_left
  · intro w_ hSw; (try dsimp only at hSw); go_simp <;> with_reducible rfl
  try simp only [Act.put, sA, sB, sC, sD, sE, sF]
  refine tkA (i := 9) (v := ?_) rfl (Or.inl ⟨by rfl, ?_⟩) ?_
  rotate_left
  · intro w_ hSw; (try dsimp only at hSw); go_simp <;> with_reducible rfl
  try simp only [Act.put, sA, sB, sC, sD, sE, sF]
  refine tkA (i := 10) (v := ?_) rfl (Or.inl ⟨by rfl, ?_⟩) ?_
  rotate_left
  · intro w_ hSw; (try dsimp only at hSw); go_simp <;> with_reducible rfl
  try simp only [Act.put, sA, sB, sC, sD, sE, sF]
  refine tkA (i := 11) (v := ?_) rfl (Or.inl ⟨by rfl, ?_⟩) ?_
  rotate_left
  · intro w_ hSw; (try dsimp only at hSw); go_simp <;> with_reducible rfl
  try simp only [Act.put, sA, sB, sC, sD, sE, sF]
  refine tkA (i := 12) (v := ?_) rfl (Or.inl ⟨by rfl, ?_⟩) ?_
  rotate_left
  · intro w_ hSw; (try dsimp only at hSw); go_simp <;> with_reducible rfl
  try simp only [Act.put, sA, sB, sC, sD, sE, sF]
  refine tkA (i := 13) (v := ?_) rfl (Or.inl ⟨by rfl, ?_⟩) ?_
  rotate_left
  · intro w_ hSw; (try dsimp only at hSw); go_simp <;> with_reducible rfl
  try simp only [Act.put, sA, sB, sC, sD, sE, sF]
  refine tkA (i := 14) (v := ?_) rfl (Or.inl ⟨by rfl, ?_⟩) ?_
  rotate_left
  · intro w_ hSw; (try dsimp only at hSw); go_simp <;> with_reducible rfl
  try simp only [Act.put, sA, sB, sC, sD, sE, sF]
  refine tkA (i := 15) (v := ?_) rfl (Or.inl ⟨by rfl, ?_⟩) ?_
  rotate_left
  · intro w_ hSw; (try dsimp only at hSw); go_simp <;> with_reducible rfl
  try simp only [Act.put, sA, sB, sC, sD, sE, sF]
  refine tkA (i := 16) (v := ?_) rfl (Or.inl ⟨by rfl, ?_⟩) ?_
  rotate_left
  · intro w_ hSw; (try dsimp only at hSw); go_simp <;> with_reducible rfl
  try simp only [Act.put, sA, sB, sC, sD, sE, sF]
  refine tkA (i := 17) (v := ?_) rfl (Or.inl ⟨by rfl, ?_⟩) ?_
  rotate_left
  · intro w_ hSw; (try dsimp only at hSw); go_simp <;> with_reducible rfl
  try simp only [Act.put, sA, sB, sC, sD, sE, sF]
  refine tkA (i := 18) (v := ?_) rfl (Or.inl ⟨by rfl, ?_⟩) ?_
  rotate_left
  · intro w_ hSw; (try dsimp only at hSw); go_simp <;> with_reducible rfl
  try simp only [Act.put, sA, sB, sC, sD, sE, sF]
  refine tkA (i := 19) (v := ?_) rfl (Or.inl ⟨by rfl, ?_⟩) ?_
  rotate_left
  · intro w_ hSw; (try dsimp only at hSw); go_simp <;> with_reducible rfl
  try simp only [Act.put, sA, sB, sC, sD, sE, sF]
  refine tkA (i := 20) (v := ?_) rfl (Or.inl ⟨by rfl, ?_⟩) ?_
  rotate_left
  · intro w_ hSw; (try dsimp only at hSw); go_simp <;> with_reducible rfl
  try simp only [Act.put, sA, sB, sC, sD, sE, sF]
  refine tkA (i := 21) (v := ?_) rfl (Or.inl ⟨by rfl, ?_⟩) ?_
  rotate_left
  · intro w_ hSw; (try dsimp only at hSw); go_simp <;> with_reducible rfl
  try simp only [Act.put, sA, sB, sC, sD, sE, sF]
  refine tkA (i := 22) (v := ?_) rfl (Or.inl ⟨by rfl, ?_⟩) ?_
  rotate_left
  · intro w_ hSw; (try dsimp only at hSw); go_simp <;> with_reducible rfl
  try simp only [Act.put, sA, sB, sC, sD, sE, sF]
  refine wpAnyH_ready (rs := [23]) (by kernel_rfl) (by simp) ?_
  refine AllReadyH.cons rfl (fun K hK => ?_) AllReadyH.nil
  go_simp
  go_at_call 50
  refine Calls.mono (holdsI 0 5000 l true Dl.out _) ?_
  rintro e v3 ⟨rfl, hbc⟩
  have HK3 : Hid (KP w v3 (PB s n d r l b g k)) := HK2.out.on hbc
  go_wp2_with fail
  refine hK.out _ _ ?_ (fun hHeld3 => ?_)
  · exact kp_conj HK3.out
  clear hK K hbc HK2
  try simp only [Act.put, sA, sB, sC, sD, sE, sF]
  refine tkA (i := 24) (v := ?_) rfl (Or.inl ⟨by rfl, ?_⟩) ?_
  rotate_left
  · intro w_ hSw; (try dsimp only at hSw); go_simp <;> with_reducible rfl
  try simp only [Act.put, sA, sB, sC, sD, sE, sF]
  refine tkA (i := 25) (v := ?_) rfl (Or.inl ⟨by rfl, ?_⟩) ?_
  rotate_left
  · intro w_ hSw; (try dsimp only at hSw); go_simp <;> with_reducible rfl
  try simp only [Act.put, sA, sB, sC, sD, sE, sF]
  refine tkA (i := 26) (v := ?_) rfl (Or.inl ⟨by rfl, ?_⟩) ?_
  rotate_left
  · intro w_ hSw; (try dsimp only at hSw); go_simp <;> with_reducible rfl
  try simp only [Act.put, sA, sB, sC, sD, sE, sF]
  refine tkA (i := 27) (v := ?_) rfl (Or.inl ⟨by rfl, ?_⟩) ?_
  rotate_left
  · intro w_ hSw; (try dsimp only at hSw); go_simp <;> with_reducible rfl
  try simp only [Act.put, sA, sB, sC, sD, sE, sF]
  refine tkA (i := 28) (v := ?_) rfl (Or.inl ⟨by rfl, ?_⟩) ?_
  rotate_left
  · intro w_ hSw; (try dsimp only at hSw); go_simp <;> with_reducible rfl
  try simp only [Act.put, sA, sB, sC, sD, sE, sF]
  refine tkA (i := 29) (v := ?_) rfl (Or.inl ⟨by rfl, ?_⟩) ?_
  rotate_left
  · intro w_ hSw; (try dsimp only at hSw); go_simp <;> with_reducible rfl
  try simp only [Act.put, sA, sB, sC, sD, sE, sF]
  refine wpAnyH_ready (rs := [30]) (by kernel_rfl) (by simp) ?_
  refine AllReadyH.cons rfl (fun K hK => ?_) AllReadyH.nil
  go_simp
  go_at_call 52
  refine Calls.mono (volI s n d r l b g k true Dv.out _) ?_
  rintro e v4 ⟨rfl, hbc⟩
  have HK4 : Hid (KP w v4 (PB s n d r l b g k)) := HK3.out.on hbc
  go_wp2_with fail
  refine hK.out _ _ ?_ (fun hHeld4 => ?_)
  · exact kp_conj HK4.out
  clear hK K hbc HK3
  try simp only [Act.put, sA, sB, sC, sD, sE, sF]
  refine tkA (i := 31) (v := ?_) rfl (Or.inl ⟨by rfl, ?_⟩) ?_
  rotate_left
  · intro w_ hSw; (try dsimp only at hSw); go_simp <;> with_reducible rfl
  try simp only [Act.put, sA, sB, sC, sD, sE, sF]
  refine tkA (i := 32) (v := ?_) rfl (Or.inl ⟨by rfl, ?_⟩) ?_
  rotate_left
  · intro w_ hSw; (try dsimp only at hSw); go_simp <;> with_reducible rfl
  try simp only [Act.put, sA, sB, sC, sD, sE, sF]
  refine tkA (i := 33) (v := ?_) rfl (Or.inl ⟨by rfl, ?_⟩) ?_
  rotate_left
  · intro w_ hSw; (try dsimp only at hSw); go_simp <;> with_reducible rfl
  try simp only [Act.put, sA, sB, sC, sD, sE, sF]
  refine tkA (i := 34) (v := undef) rfl (Or.inr ⟨by rfl, rfl⟩) ?_
  try simp only [Act.put, sA, sB, sC, sD, sE, sF]
  refine tkA (i := 35) (v := undef) rfl (Or.inr ⟨by rfl, rfl⟩) ?_
  try simp only [Act.put, sA, sB, sC, sD, sE, sF]
  refine tkA (i := 36) (v := undef) rfl (Or.inr ⟨by rfl, rfl⟩) ?_
  try simp only [Act.put, sA, sB, sC, sD, sE, sF]
  refine tkA (i := 37) (v := undef) rfl (Or.inr ⟨by rfl, rfl⟩) ?_
  try simp only [Act.put, sA, sB, sC, sD, sE, sF]
  refine tkA (i := 38) (v := ?_) rfl (Or.inl ⟨by rfl, ?_⟩) ?_
  rotate_left
  · intro w_ hSw; (try dsimp only at hSw); go_simp <;> with_reducible rfl
  try simp only [Act.put, sA, sB, sC, sD, sE, sF]
  refine tkA (i := 39) (v := ?_) rfl (Or.inl ⟨by rfl, ?_⟩) ?_
  rotate_left
  · intro w_ hSw; (try dsimp only at hSw); go_simp <;> with_reducible rfl
  try simp only [Act.put, sA, sB, sC, sD, sE, sF]
  refine tkA (i := 40) (v := undef) rfl (Or.inr ⟨by rfl, rfl⟩) ?_
  try simp only [Act.put, sA, sB, sC, sD, sE, sF]
  refine tkA (i := 41) (v := undef) rfl (Or.inr ⟨by rfl, rfl⟩) ?_
  try simp only [Act.put, sA, sB, sC, sD, sE, sF]
  refine tkA (i := 42) (v := undef) rfl (Or.inr ⟨by rfl, rfl⟩) ?_
  try simp only [Act.put, sA, sB, sC, sD, sE, sF]
  refine tkA (i := 43) (v := undef) rfl (Or.inr ⟨by rfl, rfl⟩) ?_
  try simp only [Act.put, sA, sB, sC, sD, sE, sF]
  refine tkA (i := 44) (v := ?_) rfl (Or.inl ⟨by rfl, ?_⟩) ?_
  rotate_left
  · intro w_ hSw; (try dsimp only at hSw); go_simp <;> with_reducible rfl
  try simp only [Act.put, sA, sB, sC, sD, sE, sF]
  refine tkA (i := 45) (v := ?_) rfl (Or.inl ⟨by rfl, ?_⟩) ?_
  rotate_left
  · intro w_ hSw; (try dsimp only at hSw); go_simp <;> with_reducible rfl
  try simp only [Act.put, sA, sB, sC, sD, sE, sF]
  refine tkA (i := 46) (v := undef) rfl (Or.inr ⟨by rfl, rfl⟩) ?_
  try simp only [Act.put, sA, sB, sC, sD, sE, sF]
  refine tkA (i := 47) (v := undef) rfl (Or.inr ⟨by rfl, rfl⟩) ?_
  try simp only [Act.put, sA, sB, sC, sD, sE, sF]
  refine tkA (i := 48) (v := ?_) rfl (Or.inl ⟨by rfl, ?_⟩) ?_
  rotate_left
  · intro w_ hSw; (try dsimp only at hSw); go_simp <;> with_reducible rfl
  try simp only [Act.put, sA, sB, sC, sD, sE, sF]
  refine tkA (i := 49) (v := ?_) rfl (Or.inl ⟨by rfl, ?_⟩) ?_
  rotate_left
  · intro w_ hSw; (try dsimp only at hSw); go_simp <;> with_reducible rfl
  try simp only [Act.put, sA, sB, sC, sD, sE, sF]
  refine wpAnyH_done (by kernel_rfl) ?_ _
  go_wp2
  go_ret
  exact ⟨rfl, HK4.out.2⟩
set_option maxRecDepth 100000 in
set_option maxHeartbeats 4000000 in
theorem pumpokI_5f (s n d r l b g k : Int) (D1 : Hid (decide (0 ≤ s ∧ s ≤ 3) = true)) (KR : Hid (∀ w, Calls Tryd.prog 51 #[.agg #[.int .i64 n, .int .i64 d, .int .i64 r]] w fun e w' => e = .returned (.bool true) ∧ Below w.heap.size w w')) (hw : IntKind.i64.wrap (d * 3) = d * 3) (h3 : decide (n ≤ d * 3) = true) (Dl : Hid (decide (0 ≤ l ∧ l ≤ 5000) = true)) (hl : decide (0 < l) = true) (Dv : Hid (decide (s = 1 ∨ s = 3 ∧ k = 1) = false)) (w : World) : Calls Tryd.prog 32 #[PV s n d r l b g k] w fun e w' => e = .returned (.bool false) ∧ Below w.heap.size w w' := by
  have HB0 : Hid (Below w.heap.size w (w.alloc (PB s n d r l b g k))) := alP _ _
  have HP0 : Hid ((w.alloc (PB s n d r l b g k)).heap[w.heap.size]? = some (PB s n d r l b g k)) := heap_new w _
  have p0 := box8_cells HP0.out
  have HK0 : Hid (KP w (w.alloc (PB s n d r l b g k)).drew (PB s n d r l b g k)) := ⟨HP0.out, HB0.out.drew⟩
  go_enter Tryd.func32, Tryd.ntmps32
  go_wp2_with fail
  clear p0 HB0 HP0
  refine wp_region_held_drew (S := fun w' => w'.cell? ⟨w.heap.size, 0, none⟩ = some (.int .i64 s) ∧ w'.cell? ⟨w.heap.size, 1, none⟩ = some (.int .i64 n) ∧ w'.cell? ⟨w.heap.size, 2, none⟩ = some (.int .i64 d) ∧ w'.cell? ⟨w.heap.size, 3, none⟩ = some (.int .i64 r) ∧ w'.cell? ⟨w.heap.size, 4, none⟩ = some (.int .i64 l) ∧ w'.cell? ⟨w.heap.size, 5, none⟩ = some (.int .i64 b) ∧ w'.cell? ⟨w.heap.size, 6, none⟩ = some (.int .i64 g) ∧ w'.cell? ⟨w.heap.size, 7, none⟩ = some (.int .i64 k) ∧ KP w w' (PB s n d r l b g k)) (by kernel_rfl) (kp_conj HK0.out) (fun hHeld => ?_)
  refine tkA (i := 0) (v := ?_) rfl (Or.inl ⟨by rfl, ?_⟩) ?_
  rotate_left
  · intro w_ hSw; (try dsimp only at hSw); go_simp <;> with_reducible rfl
  try simp only [Act.put, sA, sB, sC, sD, sE, sF]
  refine tkA (i := 1) (v := ?_) rfl (Or.inl ⟨by rfl, ?_⟩) ?_
  rotate_left
  · intro w_ hSw; (try dsimp only at hSw); go_simp <;> with_reducible rfl
  try simp only [Act.put, sA, sB, sC, sD, sE, sF]
  refine tkA (i := 2) (v := ?_) rfl (Or.inl ⟨by rfl, ?_⟩) ?_
  rotate_left
  · intro w_ hSw; (try dsimp only at hSw); go_simp <;> with_reducible rfl
  try simp only [Act.put, sA, sB, sC, sD, sE, sF]
  refine wpAnyH_ready (rs := [3]) (by kernel_rfl) (by simp) ?_
  refine AllReadyH.cons rfl (fun K hK => ?_) AllReadyH.nil
  go_simp
  go_at_call 50
  refine Calls.mono (holdsI 0 3 s true D1.out _) ?_
  rintro e v1 ⟨rfl, hbc⟩
  have HK1 : Hid (KP w v1 (PB s n d r l b g k)) := HK0.out.on hbc
  go_wp2_with fail
  refine hK.out _ _ ?_ (fun hHeld1 => ?_)
  · exact kp_conj HK1.out
  clear hK K hbc HK0
  try simp only [Act.put, sA, sB, sC, sD, sE, sF]
  refine tkA (i := 4) (v := ?_) rfl (Or.inl ⟨by rfl, ?_⟩) ?_
  rotate_left
  · intro w_ hSw; (try dsimp only at hSw); go_simp <;> with_reducible rfl
  try simp only [Act.put, sA, sB, sC, sD, sE, sF]
  refine tkA (i := 5) (v := ?_) rfl (Or.inl ⟨by rfl, ?_⟩) ?_
  rotate_left
  · intro w_ hSw; (try dsimp only at hSw); go_simp <;> with_reducible rfl
  try simp only [Act.put, sA, sB, sC, sD, sE, sF]
  refine tkA (i := 6) (v := ?_) rfl (Or.inl ⟨by rfl, ?_⟩) ?_
  rotate_left
  · intro w_ hSw; (try dsimp only at hSw); go_simp <;> with_reducible rfl
  try simp only [Act.put, sA, sB, sC, sD, sE, sF]
  refine wpAnyH_ready (rs := [7]) (by kernel_rfl) (by simp) ?_
  refine AllReadyH.cons rfl (fun K hK => ?_) AllReadyH.nil
  go_simp
  go_at_call 51
  refine Calls.mono (KR.out _) ?_
  rintro e v2 ⟨rfl, hbc⟩
  have HK2 : Hid (KP w v2 (PB s n d r l b g k)) := HK1.out.on hbc
  go_wp2_with fail
  refine hK.out _ _ ?_ (fun hHeld2 => ?_)
  · exact kp_conj HK2.out
  clear hK K hbc HK1
  try simp only [Act.put, sA, sB, sC, sD, sE, sF]
  refine tkA (i := 8) (v := ?_) rfl (Or.inl ⟨by rfl, ?_⟩) ?_
  rotate_left
  · intro w_ hSw; (try dsimp only at hSw); go_simp <;> with_reducible rfl
  try simp only [Act.put, sA, sB, sC, sD, sE, sF]
  refine tkA (i := 9) (v := ?_) rfl (Or.inl ⟨by rfl, ?_⟩) ?_
  rotate_left
  · intro w_ hSw; (try dsimp only at hSw); go_simp <;> with_reducible rfl
  try simp only [Act.put, sA, sB, sC, sD, sE, sF]
  refine tkA (i := 10) (v := ?_) rfl (Or.inl ⟨by rfl, ?_⟩) ?_
  rotate_left
  · intro w_ hSw; (try dsimp only at hSw); go_simp <;> with_reducible rfl
  try simp only [Act.put, sA, sB, sC, sD, sE, sF]
  refine tkA (i := 11) (v := ?_) rfl (Or.inl ⟨by rfl, ?_⟩) ?_
  rotate_left
  · intro w_ hSw; (try dsimp only at hSw); go_simp <;> with_reducible rfl
  try simp only [Act.put, sA, sB, sC, sD, sE, sF]
  refine tkA (i := 12) (v := ?_) rfl (Or.inl ⟨by rfl, ?_⟩) ?_
  rotate_left
  · intro w_ hSw; (try dsimp only at hSw); go_simp <;> with_reducible rfl
  try simp only [Act.put, sA, sB, sC, sD, sE, sF]
  refine tkA (i := 13) (v := ?_) rfl (Or.inl ⟨by rfl, ?_⟩) ?_
  rotate_left
  · intro w_ hSw; (try dsimp only at hSw); go_simp <;> with_reducible rfl
  try simp only [Act.put, sA, sB, sC, sD, sE, sF]
  refine tkA (i := 14) (v := ?_) rfl (Or.inl ⟨by rfl, ?_⟩) ?_
  rotate_left
  · intro w_ hSw; (try dsimp only at hSw); go_simp <;> with_reducible rfl
  try simp only [Act.put, sA, sB, sC, sD, sE, sF]
  refine tkA (i := 15) (v := ?_) rfl (Or.inl ⟨by rfl, ?_⟩) ?_
  rotate_left
  · intro w_ hSw; (try dsimp only at hSw); go_simp <;> with_reducible rfl
  try simp only [Act.put, sA, sB, sC, sD, sE, sF]
  refine tkA (i := 16) (v := ?_) rfl (Or.inl ⟨by rfl, ?_⟩) ?_
  rotate_left
  · intro w_ hSw; (try dsimp only at hSw); go_simp <;> with_reducible rfl
  try simp only [Act.put, sA, sB, sC, sD, sE, sF]
  refine tkA (i := 17) (v := ?_) rfl (Or.inl ⟨by rfl, ?_⟩) ?_
  rotate_left
  · intro w_ hSw; (try dsimp only at hSw); go_simp <;> with_reducible rfl
  try simp only [Act.put, sA, sB, sC, sD, sE, sF]
  refine tkA (i := 18) (v := ?_) rfl (Or.inl ⟨by rfl, ?_⟩) ?_
  rotate_left
  · intro w_ hSw; (try dsimp only at hSw); go_simp <;> with_reducible rfl
  try simp only [Act.put, sA, sB, sC, sD, sE, sF]
  refine tkA (i := 19) (v := ?_) rfl (Or.inl ⟨by rfl, ?_⟩) ?_
  rotate_left
  · intro w_ hSw; (try dsimp only at hSw); go_simp <;> with_reducible rfl
  try simp only [Act.put, sA, sB, sC, sD, sE, sF]
  refine tkA (i := 20) (v := ?_) rfl (Or.inl ⟨by rfl, ?_⟩) ?_
  rotate_left
  · intro w_ hSw; (try dsimp only at hSw); go_simp <;> with_reducible rfl
  try simp only [Act.put, sA, sB, sC, sD, sE, sF]
  refine tkA (i := 21) (v := ?_) rfl (Or.inl ⟨by rfl, ?_⟩) ?_
  rotate_left
  · intro w_ hSw; (try dsimp only at hSw); go_simp <;> with_reducible rfl
  try simp only [Act.put, sA, sB, sC, sD, sE, sF]
  refine tkA (i := 22) (v := ?_) rfl (Or.inl ⟨by rfl, ?_⟩) ?_
  rotate_left
  · intro w_ hSw; (try dsimp only at hSw); go_simp <;> with_reducible rfl
  try simp only [Act.put, sA, sB, sC, sD, sE, sF]
  refine wpAnyH_ready (rs := [23]) (by kernel_rfl) (by simp) ?_
  refine AllReadyH.cons rfl (fun K hK => ?_) AllReadyH.nil
  go_simp
  go_at_call 50
  refine Calls.mono (holdsI 0 5000 l true Dl.out _) ?_
  rintro e v3 ⟨rfl, hbc⟩
  have HK3 : Hid (KP w v3 (PB s n d r l b g k)) := HK2.out.on hbc
  go_wp2_with fail
  refine hK.out _ _ ?_ (fun hHeld3 => ?_)
  · exact kp_conj HK3.out
  clear hK K hbc HK2
  try simp only [Act.put, sA, sB, sC, sD, sE, sF]
  refine tkA (i := 24) (v := ?_) rfl (Or.inl ⟨by rfl, ?_⟩) ?_
  rotate_left
  · intro w_ hSw; (try dsimp only at hSw); go_simp <;> with_reducible rfl
  try simp only [Act.put, sA, sB, sC, sD, sE, sF]
  refine tkA (i := 25) (v := ?_) rfl (Or.inl ⟨by rfl, ?_⟩) ?_
  rotate_left
  · intro w_ hSw; (try dsimp only at hSw); go_simp <;> with_reducible rfl
  try simp only [Act.put, sA, sB, sC, sD, sE, sF]
  refine tkA (i := 26) (v := ?_) rfl (Or.inl ⟨by rfl, ?_⟩) ?_
  rotate_left
  · intro w_ hSw; (try dsimp only at hSw); go_simp <;> with_reducible rfl
  try simp only [Act.put, sA, sB, sC, sD, sE, sF]
  refine tkA (i := 27) (v := ?_) rfl (Or.inl ⟨by rfl, ?_⟩) ?_
  rotate_left
  · intro w_ hSw; (try dsimp only at hSw); go_simp <;> with_reducible rfl
  try simp only [Act.put, sA, sB, sC, sD, sE, sF]
  refine tkA (i := 28) (v := ?_) rfl (Or.inl ⟨by rfl, ?_⟩) ?_
  rotate_left
  · intro w_ hSw; (try dsimp only at hSw); go_simp <;> with_reducible rfl
  try simp only [Act.put, sA, sB, sC, sD, sE, sF]
  refine tkA (i := 29) (v := ?_) rfl (Or.inl ⟨by rfl, ?_⟩) ?_
  rotate_left
  · intro w_ hSw; (try dsimp only at hSw); go_simp <;> with_reducible rfl
  try simp only [Act.put, sA, sB, sC, sD, sE, sF]
  refine wpAnyH_ready (rs := [30]) (by kernel_rfl) (by simp) ?_
  refine AllReadyH.cons rfl (fun K hK => ?_) AllReadyH.nil
  go_simp
  go_at_call 52
  refine Calls.mono (volI s n d r l b g k false Dv.out _) ?_
  rintro e v4 ⟨rfl, hbc⟩
  have HK4 : Hid (KP w v4 (PB s n d r l b g k)) := HK3.out.on hbc
  go_wp2_with fail
  refine hK.out _ _ ?_ (fun hHeld4 => ?_)
  · exact kp_conj HK4.out
  clear hK K hbc HK3
  try simp only [Act.put, sA, sB, sC, sD, sE, sF]
  refine tkA (i := 31) (v := ?_) rfl (Or.inl ⟨by rfl, ?_⟩) ?_
  rotate_left
  · intro w_ hSw; (try dsimp only at hSw); go_simp <;> with_reducible rfl
  try simp only [Act.put, sA, sB, sC, sD, sE, sF]
  refine tkA (i := 32) (v := ?_) rfl (Or.inl ⟨by rfl, ?_⟩) ?_
  rotate_left
  · intro w_ hSw; (try dsimp only at hSw); go_simp <;> with_reducible rfl
  try simp only [Act.put, sA, sB, sC, sD, sE, sF]
  refine tkA (i := 33) (v := ?_) rfl (Or.inl ⟨by rfl, ?_⟩) ?_
  rotate_left
  · intro w_ hSw; (try dsimp only at hSw); go_simp <;> with_reducible rfl
  try simp only [Act.put, sA, sB, sC, sD, sE, sF]
  refine tkA (i := 34) (v := undef) rfl (Or.inr ⟨by rfl, rfl⟩) ?_
  try simp only [Act.put, sA, sB, sC, sD, sE, sF]
  refine tkA (i := 35) (v := undef) rfl (Or.inr ⟨by rfl, rfl⟩) ?_
  try simp only [Act.put, sA, sB, sC, sD, sE, sF]
  refine tkA (i := 36) (v := undef) rfl (Or.inr ⟨by rfl, rfl⟩) ?_
  try simp only [Act.put, sA, sB, sC, sD, sE, sF]
  refine tkA (i := 37) (v := undef) rfl (Or.inr ⟨by rfl, rfl⟩) ?_
  try simp only [Act.put, sA, sB, sC, sD, sE, sF]
  refine tkA (i := 38) (v := ?_) rfl (Or.inl ⟨by rfl, ?_⟩) ?_
  rotate_left
  · intro w_ hSw; (try dsimp only at hSw); go_simp <;> with_reducible rfl
  try simp only [Act.put, sA, sB, sC, sD, sE, sF]
  refine tkA (i := 39) (v := ?_) rfl (Or.inl ⟨by rfl, ?_⟩) ?_
  rotate_left
  · intro w_ hSw; (try dsimp only at hSw); go_simp <;> with_reducible rfl
  try simp only [Act.put, sA, sB, sC, sD, sE, sF]
  refine tkA (i := 40) (v := undef) rfl (Or.inr ⟨by rfl, rfl⟩) ?_
  try simp only [Act.put, sA, sB, sC, sD, sE, sF]
  refine tkA (i := 41) (v := undef) rfl (Or.inr ⟨by rfl, rfl⟩) ?_
  try simp only [Act.put, sA, sB, sC, sD, sE, sF]
  refine tkA (i := 42) (v := undef) rfl (Or.inr ⟨by rfl, rfl⟩) ?_
  try simp only [Act.put, sA, sB, sC, sD, sE, sF]
  refine tkA (i := 43) (v := undef) rfl (Or.inr ⟨by rfl, rfl⟩) ?_
  try simp only [Act.put, sA, sB, sC, sD, sE, sF]
  refine tkA (i := 44) (v := ?_) rfl (Or.inl ⟨by rfl, ?_⟩) ?_
  rotate_left
  · intro w_ hSw; (try dsimp only at hSw); go_simp <;> with_reducible rfl
  try simp only [Act.put, sA, sB, sC, sD, sE, sF]
  refine tkA (i := 45) (v := ?_) rfl (Or.inl ⟨by rfl, ?_⟩) ?_
  rotate_left
  · intro w_ hSw; (try dsimp only at hSw); go_simp <;> with_reducible rfl
  try simp only [Act.put, sA, sB, sC, sD, sE, sF]
  refine tkA (i := 46) (v := undef) rfl (Or.inr ⟨by rfl, rfl⟩) ?_
  try simp only [Act.put, sA, sB, sC, sD, sE, sF]
  refine tkA (i := 47) (v := undef) rfl (Or.inr ⟨by rfl, rfl⟩) ?_
  try simp only [Act.put, sA, sB, sC, sD, sE, sF]
  refine tkA (i := 48) (v := ?_) rfl (Or.inl ⟨by rfl, ?_⟩) ?_
  rotate_left
  · intro w_ hSw; (try dsimp only at hSw); go_simp <;> with_reducible rfl
  try simp only [Act.put, sA, sB, sC, sD, sE, sF]
  refine tkA (i := 49) (v := ?_) rfl (Or.inl ⟨by rfl, ?_⟩) ?_
  rotate_left
  · intro w_ hSw; (try dsimp only at hSw); go_simp <;> with_reducible rfl
  try simp only [Act.put, sA, sB, sC, sD, sE, sF]
  refine wpAnyH_done (by kernel_rfl) ?_ _
  go_wp2
  go_ret
  exact ⟨rfl, HK4.out.2⟩
set_option maxRecDepth 100000 in
set_option maxHeartbeats 4000000 in
theorem pumpokI_6t (s n d r l b g k : Int) (D1 : Hid (decide (0 ≤ s ∧ s ≤ 3) = true)) (KR : Hid (∀ w, Calls Tryd.prog 51 #[.agg #[.int .i64 n, .int .i64 d, .int .i64 r]] w fun e w' => e = .returned (.bool true) ∧ Below w.heap.size w w')) (hw : IntKind.i64.wrap (d * 3) = d * 3) (h3 : decide (n ≤ d * 3) = true) (Dl : Hid (decide (0 ≤ l ∧ l ≤ 5000) = true)) (hl : decide (0 < l) = true) (Dv : Hid (decide (s = 1 ∨ s = 3 ∧ k = 1) = true)) (Db : Hid (decide (0 ≤ b ∧ b ≤ 100) = false)) (w : World) : Calls Tryd.prog 32 #[PV s n d r l b g k] w fun e w' => e = .returned (.bool false) ∧ Below w.heap.size w w' := by
  have HB0 : Hid (Below w.heap.size w (w.alloc (PB s n d r l b g k))) := alP _ _
  have HP0 : Hid ((w.alloc (PB s n d r l b g k)).heap[w.heap.size]? = some (PB s n d r l b g k)) := heap_new w _
  have p0 := box8_cells HP0.out
  have HK0 : Hid (KP w (w.alloc (PB s n d r l b g k)).drew (PB s n d r l b g k)) := ⟨HP0.out, HB0.out.drew⟩
  go_enter Tryd.func32, Tryd.ntmps32
  go_wp2_with fail
  clear p0 HB0 HP0
  refine wp_region_held_drew (S := fun w' => w'.cell? ⟨w.heap.size, 0, none⟩ = some (.int .i64 s) ∧ w'.cell? ⟨w.heap.size, 1, none⟩ = some (.int .i64 n) ∧ w'.cell? ⟨w.heap.size, 2, none⟩ = some (.int .i64 d) ∧ w'.cell? ⟨w.heap.size, 3, none⟩ = some (.int .i64 r) ∧ w'.cell? ⟨w.heap.size, 4, none⟩ = some (.int .i64 l) ∧ w'.cell? ⟨w.heap.size, 5, none⟩ = some (.int .i64 b) ∧ w'.cell? ⟨w.heap.size, 6, none⟩ = some (.int .i64 g) ∧ w'.cell? ⟨w.heap.size, 7, none⟩ = some (.int .i64 k) ∧ KP w w' (PB s n d r l b g k)) (by kernel_rfl) (kp_conj HK0.out) (fun hHeld => ?_)
  refine tkA (i := 0) (v := ?_) rfl (Or.inl ⟨by rfl, ?_⟩) ?_
  rotate_left
  · intro w_ hSw; (try dsimp only at hSw); go_simp <;> with_reducible rfl
  try simp only [Act.put, sA, sB, sC, sD, sE, sF]
  refine tkA (i := 1) (v := ?_) rfl (Or.inl ⟨by rfl, ?_⟩) ?_
  rotate_left
  · intro w_ hSw; (try dsimp only at hSw); go_simp <;> with_reducible rfl
  try simp only [Act.put, sA, sB, sC, sD, sE, sF]
  refine tkA (i := 2) (v := ?_) rfl (Or.inl ⟨by rfl, ?_⟩) ?_
  rotate_left
  · intro w_ hSw; (try dsimp only at hSw); go_simp <;> with_reducible rfl
  try simp only [Act.put, sA, sB, sC, sD, sE, sF]
  refine wpAnyH_ready (rs := [3]) (by kernel_rfl) (by simp) ?_
  refine AllReadyH.cons rfl (fun K hK => ?_) AllReadyH.nil
  go_simp
  go_at_call 50
  refine Calls.mono (holdsI 0 3 s true D1.out _) ?_
  rintro e v1 ⟨rfl, hbc⟩
  have HK1 : Hid (KP w v1 (PB s n d r l b g k)) := HK0.out.on hbc
  go_wp2_with fail
  refine hK.out _ _ ?_ (fun hHeld1 => ?_)
  · exact kp_conj HK1.out
  clear hK K hbc HK0
  try simp only [Act.put, sA, sB, sC, sD, sE, sF]
  refine tkA (i := 4) (v := ?_) rfl (Or.inl ⟨by rfl, ?_⟩) ?_
  rotate_left
  · intro w_ hSw; (try dsimp only at hSw); go_simp <;> with_reducible rfl
  try simp only [Act.put, sA, sB, sC, sD, sE, sF]
  refine tkA (i := 5) (v := ?_) rfl (Or.inl ⟨by rfl, ?_⟩) ?_
  rotate_left
  · intro w_ hSw; (try dsimp only at hSw); go_simp <;> with_reducible rfl
  try simp only [Act.put, sA, sB, sC, sD, sE, sF]
  refine tkA (i := 6) (v := ?_) rfl (Or.inl ⟨by rfl, ?_⟩) ?_
  rotate_left
  · intro w_ hSw; (try dsimp only at hSw); go_simp <;> with_reducible rfl
  try simp only [Act.put, sA, sB, sC, sD, sE, sF]
  refine wpAnyH_ready (rs := [7]) (by kernel_rfl) (by simp) ?_
  refine AllReadyH.cons rfl (fun K hK => ?_) AllReadyH.nil
  go_simp
  go_at_call 51
  refine Calls.mono (KR.out _) ?_
  rintro e v2 ⟨rfl, hbc⟩
  have HK2 : Hid (KP w v2 (PB s n d r l b g k)) := HK1.out.on hbc
  go_wp2_with fail
  refine hK.out _ _ ?_ (fun hHeld2 => ?_)
  · exact kp_conj HK2.out
  clear hK K hbc HK1
  try simp only [Act.put, sA, sB, sC, sD, sE, sF]
  refine tkA (i := 8) (v := ?_) rfl (Or.inl ⟨by rfl, ?_⟩) ?_
  rotate_left
  · intro w_ hSw; (try dsimp only at hSw); go_simp <;> with_reducible rfl
  try simp only [Act.put, sA, sB, sC, sD, sE, sF]
  refine tkA (i := 9) (v := ?_) rfl (Or.inl ⟨by rfl, ?_⟩) ?_
  rotate_left
  · intro w_ hSw; (try dsimp only at hSw); go_simp <;> with_reducible rfl
  try simp only [Act.put, sA, sB, sC, sD, sE, sF]
  refine tkA (i := 10) (v := ?_) rfl (Or.inl ⟨by rfl, ?_⟩) ?_
  rotate_left
  · intro w_ hSw; (try dsimp only at hSw); go_simp <;> with_reducible rfl
  try simp only [Act.put, sA, sB, sC, sD, sE, sF]
  refine tkA (i := 11) (v := ?_) rfl (Or.inl ⟨by rfl, ?_⟩) ?_
  rotate_left
  · intro w_ hSw; (try dsimp only at hSw); go_simp <;> with_reducible rfl
  try simp only [Act.put, sA, sB, sC, sD, sE, sF]
  refine tkA (i := 12) (v := ?_) rfl (Or.inl ⟨by rfl, ?_⟩) ?_
  rotate_left
  · intro w_ hSw; (try dsimp only at hSw); go_simp <;> with_reducible rfl
  try simp only [Act.put, sA, sB, sC, sD, sE, sF]
  refine tkA (i := 13) (v := ?_) rfl (Or.inl ⟨by rfl, ?_⟩) ?_
  rotate_left
  · intro w_ hSw; (try dsimp only at hSw); go_simp <;> with_reducible rfl
  try simp only [Act.put, sA, sB, sC, sD, sE, sF]
  refine tkA (i := 14) (v := ?_) rfl (Or.inl ⟨by rfl, ?_⟩) ?_
  rotate_left
  · intro w_ hSw; (try dsimp only at hSw); go_simp <;> with_reducible rfl
  try simp only [Act.put, sA, sB, sC, sD, sE, sF]
  refine tkA (i := 15) (v := ?_) rfl (Or.inl ⟨by rfl, ?_⟩) ?_
  rotate_left
  · intro w_ hSw; (try dsimp only at hSw); go_simp <;> with_reducible rfl
  try simp only [Act.put, sA, sB, sC, sD, sE, sF]
  refine tkA (i := 16) (v := ?_) rfl (Or.inl ⟨by rfl, ?_⟩) ?_
  rotate_left
  · intro w_ hSw; (try dsimp only at hSw); go_simp <;> with_reducible rfl
  try simp only [Act.put, sA, sB, sC, sD, sE, sF]
  refine tkA (i := 17) (v := ?_) rfl (Or.inl ⟨by rfl, ?_⟩) ?_
  rotate_left
  · intro w_ hSw; (try dsimp only at hSw); go_simp <;> with_reducible rfl
  try simp only [Act.put, sA, sB, sC, sD, sE, sF]
  refine tkA (i := 18) (v := ?_) rfl (Or.inl ⟨by rfl, ?_⟩) ?_
  rotate_left
  · intro w_ hSw; (try dsimp only at hSw); go_simp <;> with_reducible rfl
  try simp only [Act.put, sA, sB, sC, sD, sE, sF]
  refine tkA (i := 19) (v := ?_) rfl (Or.inl ⟨by rfl, ?_⟩) ?_
  rotate_left
  · intro w_ hSw; (try dsimp only at hSw); go_simp <;> with_reducible rfl
  try simp only [Act.put, sA, sB, sC, sD, sE, sF]
  refine tkA (i := 20) (v := ?_) rfl (Or.inl ⟨by rfl, ?_⟩) ?_
  rotate_left
  · intro w_ hSw; (try dsimp only at hSw); go_simp <;> with_reducible rfl
  try simp only [Act.put, sA, sB, sC, sD, sE, sF]
  refine tkA (i := 21) (v := ?_) rfl (Or.inl ⟨by rfl, ?_⟩) ?_
  rotate_left
  · intro w_ hSw; (try dsimp only at hSw); go_simp <;> with_reducible rfl
  try simp only [Act.put, sA, sB, sC, sD, sE, sF]
  refine tkA (i := 22) (v := ?_) rfl (Or.inl ⟨by rfl, ?_⟩) ?_
  rotate_left
  · intro w_ hSw; (try dsimp only at hSw); go_simp <;> with_reducible rfl
  try simp only [Act.put, sA, sB, sC, sD, sE, sF]
  refine wpAnyH_ready (rs := [23]) (by kernel_rfl) (by simp) ?_
  refine AllReadyH.cons rfl (fun K hK => ?_) AllReadyH.nil
  go_simp
  go_at_call 50
  refine Calls.mono (holdsI 0 5000 l true Dl.out _) ?_
  rintro e v3 ⟨rfl, hbc⟩
  have HK3 : Hid (KP w v3 (PB s n d r l b g k)) := HK2.out.on hbc
  go_wp2_with fail
  refine hK.out _ _ ?_ (fun hHeld3 => ?_)
  · exact kp_conj HK3.out
  clear hK K hbc HK2
  try simp only [Act.put, sA, sB, sC, sD, sE, sF]
  refine tkA (i := 24) (v := ?_) rfl (Or.inl ⟨by rfl, ?_⟩) ?_
  rotate_left
  · intro w_ hSw; (try dsimp only at hSw); go_simp <;> with_reducible rfl
  try simp only [Act.put, sA, sB, sC, sD, sE, sF]
  refine tkA (i := 25) (v := ?_) rfl (Or.inl ⟨by rfl, ?_⟩) ?_
  rotate_left
  · intro w_ hSw; (try dsimp only at hSw); go_simp <;> with_reducible rfl
  try simp only [Act.put, sA, sB, sC, sD, sE, sF]
  refine tkA (i := 26) (v := ?_) rfl (Or.inl ⟨by rfl, ?_⟩) ?_
  rotate_left
  · intro w_ hSw; (try dsimp only at hSw); go_simp <;> with_reducible rfl
  try simp only [Act.put, sA, sB, sC, sD, sE, sF]
  refine tkA (i := 27) (v := ?_) rfl (Or.inl ⟨by rfl, ?_⟩) ?_
  rotate_left
  · intro w_ hSw; (try dsimp only at hSw); go_simp <;> with_reducible rfl
  try simp only [Act.put, sA, sB, sC, sD, sE, sF]
  refine tkA (i := 28) (v := ?_) rfl (Or.inl ⟨by rfl, ?_⟩) ?_
  rotate_left
  · intro w_ hSw; (try dsimp only at hSw); go_simp <;> with_reducible rfl
  try simp only [Act.put, sA, sB, sC, sD, sE, sF]
  refine tkA (i := 29) (v := ?_) rfl (Or.inl ⟨by rfl, ?_⟩) ?_
  rotate_left
  · intro w_ hSw; (try dsimp only at hSw); go_simp <;> with_reducible rfl
  try simp only [Act.put, sA, sB, sC, sD, sE, sF]
  refine wpAnyH_ready (rs := [30]) (by kernel_rfl) (by simp) ?_
  refine AllReadyH.cons rfl (fun K hK => ?_) AllReadyH.nil
  go_simp
  go_at_call 52
  refine Calls.mono (volI s n d r l b g k true Dv.out _) ?_
  rintro e v4 ⟨rfl, hbc⟩
  have HK4 : Hid (KP w v4 (PB s n d r l b g k)) := HK3.out.on hbc
  go_wp2_with fail
  refine hK.out _ _ ?_ (fun hHeld4 => ?_)
  · exact kp_conj HK4.out
  clear hK K hbc HK3
  try simp only [Act.put, sA, sB, sC, sD, sE, sF]
  refine tkA (i := 31) (v := ?_) rfl (Or.inl ⟨by rfl, ?_⟩) ?_
  rotate_left
  · intro w_ hSw; (try dsimp only at hSw); go_simp <;> with_reducible rfl
  try simp only [Act.put, sA, sB, sC, sD, sE, sF]
  refine tkA (i := 32) (v := ?_) rfl (Or.inl ⟨by rfl, ?_⟩) ?_
  rotate_left
  · intro w_ hSw; (try dsimp only at hSw); go_simp <;> with_reducible rfl
  try simp only [Act.put, sA, sB, sC, sD, sE, sF]
  refine tkA (i := 33) (v := ?_) rfl (Or.inl ⟨by rfl, ?_⟩) ?_
  rotate_left
  · intro w_ hSw; (try dsimp only at hSw); go_simp <;> with_reducible rfl
  try simp only [Act.put, sA, sB, sC, sD, sE, sF]
  refine tkA (i := 34) (v := ?_) rfl (Or.inl ⟨by rfl, ?_⟩) ?_
  rotate_left
  · intro w_ hSw; (try dsimp only at hSw); go_simp <;> with_reducible rfl
  try simp only [Act.put, sA, sB, sC, sD, sE, sF]
  refine tkA (i := 35) (v := ?_) rfl (Or.inl ⟨by rfl, ?_⟩) ?_
  rotate_left
  · intro w_ hSw; (try dsimp only at hSw); go_simp <;> with_reducible rfl
  try simp only [Act.put, sA, sB, sC, sD, sE, sF]
  refine tkA (i := 36) (v := ?_) rfl (Or.inl ⟨by rfl, ?_⟩) ?_
  rotate_left
  · intro w_ hSw; (try dsimp only at hSw); go_simp <;> with_reducible rfl
  try simp only [Act.put, sA, sB, sC, sD, sE, sF]
  refine wpAnyH_ready (rs := [37]) (by kernel_rfl) (by simp) ?_
  refine AllReadyH.cons rfl (fun K hK => ?_) AllReadyH.nil
  go_simp
  go_at_call 50
  refine Calls.mono (holdsI 0 100 b false Db.out _) ?_
  rintro e v5 ⟨rfl, hbc⟩
  have HK5 : Hid (KP w v5 (PB s n d r l b g k)) := HK4.out.on hbc
  go_wp2_with fail
  refine hK.out _ _ ?_ (fun hHeld5 => ?_)
  · exact kp_conj HK5.out
  clear hK K hbc HK4
  try simp only [Act.put, sA, sB, sC, sD, sE, sF]
  refine tkA (i := 38) (v := ?_) rfl (Or.inl ⟨by rfl, ?_⟩) ?_
  rotate_left
  · intro w_ hSw; (try dsimp only at hSw); go_simp <;> with_reducible rfl
  try simp only [Act.put, sA, sB, sC, sD, sE, sF]
  refine tkA (i := 39) (v := ?_) rfl (Or.inl ⟨by rfl, ?_⟩) ?_
  rotate_left
  · intro w_ hSw; (try dsimp only at hSw); go_simp <;> with_reducible rfl
  try simp only [Act.put, sA, sB, sC, sD, sE, sF]
  refine tkA (i := 40) (v := undef) rfl (Or.inr ⟨by rfl, rfl⟩) ?_
  try simp only [Act.put, sA, sB, sC, sD, sE, sF]
  refine tkA (i := 41) (v := undef) rfl (Or.inr ⟨by rfl, rfl⟩) ?_
  try simp only [Act.put, sA, sB, sC, sD, sE, sF]
  refine tkA (i := 42) (v := undef) rfl (Or.inr ⟨by rfl, rfl⟩) ?_
  try simp only [Act.put, sA, sB, sC, sD, sE, sF]
  refine tkA (i := 43) (v := undef) rfl (Or.inr ⟨by rfl, rfl⟩) ?_
  try simp only [Act.put, sA, sB, sC, sD, sE, sF]
  refine tkA (i := 44) (v := ?_) rfl (Or.inl ⟨by rfl, ?_⟩) ?_
  rotate_left
  · intro w_ hSw; (try dsimp only at hSw); go_simp <;> with_reducible rfl
  try simp only [Act.put, sA, sB, sC, sD, sE, sF]
  refine tkA (i := 45) (v := ?_) rfl (Or.inl ⟨by rfl, ?_⟩) ?_
  rotate_left
  · intro w_ hSw; (try dsimp only at hSw); go_simp <;> with_reducible rfl
  try simp only [Act.put, sA, sB, sC, sD, sE, sF]
  refine tkA (i := 46) (v := undef) rfl (Or.inr ⟨by rfl, rfl⟩) ?_
  try simp only [Act.put, sA, sB, sC, sD, sE, sF]
  refine tkA (i := 47) (v := undef) rfl (Or.inr ⟨by rfl, rfl⟩) ?_
  try simp only [Act.put, sA, sB, sC, sD, sE, sF]
  refine tkA (i := 48) (v := ?_) rfl (Or.inl ⟨by rfl, ?_⟩) ?_
  rotate_left
  · intro w_ hSw; (try dsimp only at hSw); go_simp <;> with_reducible rfl
  try simp only [Act.put, sA, sB, sC, sD, sE, sF]
  refine tkA (i := 49) (v := ?_) rfl (Or.inl ⟨by rfl, ?_⟩) ?_
  rotate_left
  · intro w_ hSw; (try dsimp only at hSw); go_simp <;> with_reducible rfl
  try simp only [Act.put, sA, sB, sC, sD, sE, sF]
  refine wpAnyH_done (by kernel_rfl) ?_ _
  go_wp2
  go_ret
  exact ⟨rfl, HK5.out.2⟩
end Go.Proofs.YtbcegpncledolaaDoor

namespace Go.Proofs.YtbcegpncledolaaDoor
open Go.RowKit Go.PlainAid
set_option linter.unusedVariables false
set_option linter.unusedSimpArgs false

set_option maxRecDepth 100000 in
set_option maxHeartbeats 4000000 in
theorem pumpokI_6f (s n d r l b g k : Int) (D1 : Hid (decide (0 ≤ s ∧ s ≤ 3) = true)) (KR : Hid (∀ w, Calls Tryd.prog 51 #[.agg #[.int .i64 n, .int .i64 d, .int .i64 r]] w fun e w' => e = .returned (.bool true) ∧ Below w.heap.size w w')) (hw : IntKind.i64.wrap (d * 3) = d * 3) (h3 : decide (n ≤ d * 3) = true) (Dl : Hid (decide (0 ≤ l ∧ l ≤ 5000) = true)) (hl : decide (0 < l) = false) (Dv : Hid (decide (s = 1 ∨ s = 3 ∧ k = 1) = false)) (Db : Hid (decide (0 ≤ b ∧ b ≤ 100) = false)) (w : World) : Calls Tryd.prog 32 #[PV s n d r l b g k] w fun e w' => e = .returned (.bool false) ∧ Below w.heap.size w w' := by
  have HB0 : Hid (Below w.heap.size w (w.alloc (PB s n d r l b g k))) := alP _ _
  have HP0 : Hid ((w.alloc (PB s n d r l b g k)).heap[w.heap.size]? = some (PB s n d r l b g k)) := heap_new w _
  have p0 := box8_cells HP0.out
  have HK0 : Hid (KP w (w.alloc (PB s n d r l b g k)).drew (PB s n d r l b g k)) := ⟨HP0.out, HB0.out.drew⟩
  go_enter Tryd.func32, Tryd.ntmps32
  go_wp2_with fail
  clear p0 HB0 HP0
  refine wp_region_held_drew (S := fun w' => w'.cell? ⟨w.heap.size, 0, none⟩ = some (.int .i64 s) ∧ w'.cell? ⟨w.heap.size, 1, none⟩ = some (.int .i64 n) ∧ w'.cell? ⟨w.heap.size, 2, none⟩ = some (.int .i64 d) ∧ w'.cell? ⟨w.heap.size, 3, none⟩ = some (.int .i64 r) ∧ w'.cell? ⟨w.heap.size, 4, none⟩ = some (.int .i64 l) ∧ w'.cell? ⟨w.heap.size, 5, none⟩ = some (.int .i64 b) ∧ w'.cell? ⟨w.heap.size, 6, none⟩ = some (.int .i64 g) ∧ w'.cell? ⟨w.heap.size, 7, none⟩ = some (.int .i64 k) ∧ KP w w' (PB s n d r l b g k)) (by kernel_rfl) (kp_conj HK0.out) (fun hHeld => ?_)
  refine tkA (i := 0) (v := ?_) rfl (Or.inl ⟨by rfl, ?_⟩) ?_
  rotate_left
  · intro w_ hSw; (try dsimp only at hSw); go_simp <;> with_reducible rfl
  try simp only [Act.put, sA, sB, sC, sD, sE, sF]
  refine tkA (i := 1) (v := ?_) rfl (Or.inl ⟨by rfl, ?_⟩) ?_
  rotate_left
  · intro w_ hSw; (try dsimp only at hSw); go_simp <;> with_reducible rfl
  try simp only [Act.put, sA, sB, sC, sD, sE, sF]
  refine tkA (i := 2) (v := ?_) rfl (Or.inl ⟨by rfl, ?_⟩) ?_
  rotate_left
  · intro w_ hSw; (try dsimp only at hSw); go_simp <;> with_reducible rfl
  try simp only [Act.put, sA, sB, sC, sD, sE, sF]
  refine wpAnyH_ready (rs := [3]) (by kernel_rfl) (by simp) ?_
  refine AllReadyH.cons rfl (fun K hK => ?_) AllReadyH.nil
  go_simp
  go_at_call 50
  refine Calls.mono (holdsI 0 3 s true D1.out _) ?_
  rintro e v1 ⟨rfl, hbc⟩
  have HK1 : Hid (KP w v1 (PB s n d r l b g k)) := HK0.out.on hbc
  go_wp2_with fail
  refine hK.out _ _ ?_ (fun hHeld1 => ?_)
  · exact kp_conj HK1.out
  clear hK K hbc HK0
  try simp only [Act.put, sA, sB, sC, sD, sE, sF]
  refine tkA (i := 4) (v := ?_) rfl (Or.inl ⟨by rfl, ?_⟩) ?_
  rotate_left
  · intro w_ hSw; (try dsimp only at hSw); go_simp <;> with_reducible rfl
  try simp only [Act.put, sA, sB, sC, sD, sE, sF]
  refine tkA (i := 5) (v := ?_) rfl (Or.inl ⟨by rfl, ?_⟩) ?_
  rotate_left
  · intro w_ hSw; (try dsimp only at hSw); go_simp <;> with_reducible rfl
  try simp only [Act.put, sA, sB, sC, sD, sE, sF]
  refine tkA (i := 6) (v := ?_) rfl (Or.inl ⟨by rfl, ?_⟩) ?_
  rotate_left
  · intro w_ hSw; (try dsimp only at hSw); go_simp <;> with_reducible rfl
  try simp only [Act.put, sA, sB, sC, sD, sE, sF]
  refine wpAnyH_ready (rs := [7]) (by kernel_rfl) (by simp) ?_
  refine AllReadyH.cons rfl (fun K hK => ?_) AllReadyH.nil
  go_simp
  go_at_call 51
  refine Calls.mono (KR.out _) ?_
  rintro e v2 ⟨rfl, hbc⟩
  have HK2 : Hid (KP w v2 (PB s n d r l b g k)) := HK1.out.on hbc
  go_wp2_with fail
  refine hK.out _ _ ?_ (fun hHeld2 => ?_)
  · exact kp_conj HK2.out
  clear hK K hbc HK1
  try simp only [Act.put, sA, sB, sC, sD, sE, sF]
  refine tkA (i := 8) (v := ?_) rfl (Or.inl ⟨by rfl, ?_⟩) ?_
  rotate_left
  · intro w_ hSw; (try dsimp only at hSw); go_simp <;> with_reducible rfl
  try simp only [Act.put, sA, sB, sC, sD, sE, sF]
  refine tkA (i := 9) (v := ?_) rfl (Or.inl ⟨by rfl, ?_⟩) ?_
  rotate_left
  · intro w_ hSw; (try dsimp only at hSw); go_simp <;> with_reducible rfl
  try simp only [Act.put, sA, sB, sC, sD, sE, sF]
  refine tkA (i := 10) (v := ?_) rfl (Or.inl ⟨by rfl, ?_⟩) ?_
  rotate_left
  · intro w_ hSw; (try dsimp only at hSw); go_simp <;> with_reducible rfl
  try simp only [Act.put, sA, sB, sC, sD, sE, sF]
  refine tkA (i := 11) (v := ?_) rfl (Or.inl ⟨by rfl, ?_⟩) ?_
  rotate_left
  · intro w_ hSw; (try dsimp only at hSw); go_simp <;> with_reducible rfl
  try simp only [Act.put, sA, sB, sC, sD, sE, sF]
  refine tkA (i := 12) (v := ?_) rfl (Or.inl ⟨by rfl, ?_⟩) ?_
  rotate_left
  · intro w_ hSw; (try dsimp only at hSw); go_simp <;> with_reducible rfl
  try simp only [Act.put, sA, sB, sC, sD, sE, sF]
  refine tkA (i := 13) (v := ?_) rfl (Or.inl ⟨by rfl, ?_⟩) ?_
  rotate_left
  · intro w_ hSw; (try dsimp only at hSw); go_simp <;> with_reducible rfl
  try simp only [Act.put, sA, sB, sC, sD, sE, sF]
  refine tkA (i := 14) (v := ?_) rfl (Or.inl ⟨by rfl, ?_⟩) ?_
  rotate_left
  · intro w_ hSw; (try dsimp only at hSw); go_simp <;> with_reducible rfl
  try simp only [Act.put, sA, sB, sC, sD, sE, sF]
  refine tkA (i := 15) (v := ?_) rfl (Or.inl ⟨by rfl, ?_⟩) ?_
  rotate_left
  · intro w_ hSw; (try dsimp only at hSw); go_simp <;> with_reducible rfl
  try simp only [Act.put, sA, sB, sC, sD, sE, sF]
  refine tkA (i := 16) (v := ?_) rfl (Or.inl ⟨by rfl, ?_⟩) ?_
  rotate_left
  · intro w_ hSw; (try dsimp only at hSw); go_simp <;> with_reducible rfl
  try simp only [Act.put, sA, sB, sC, sD, sE, sF]
  refine tkA (i := 17) (v := ?_) rfl (Or.inl ⟨by rfl, ?_⟩) ?_
  rotate_left
  · intro w_ hSw; (try dsimp only at hSw); go_simp <;> with_reducible rfl
  try simp only [Act.put, sA, sB, sC, sD, sE, sF]
  refine tkA (i := 18) (v := ?_) rfl (Or.inl ⟨by rfl, ?_⟩) ?_
  rotate_left
  · intro w_ hSw; (try dsimp only at hSw); go_simp <;> with_reducible rfl
  try simp only [Act.put, sA, sB, sC, sD, sE, sF]
  refine tkA (i := 19) (v := ?_) rfl (Or.inl ⟨by rfl, ?_⟩) ?_
  rotate_left
  · intro w_ hSw; (try dsimp only at hSw); go_simp <;> with_reducible rfl
  try simp only [Act.put, sA, sB, sC, sD, sE, sF]
  refine tkA (i := 20) (v := ?_) rfl (Or.inl ⟨by rfl, ?_⟩) ?_
  rotate_left
  · intro w_ hSw; (try dsimp only at hSw); go_simp <;> with_reducible rfl
  try simp only [Act.put, sA, sB, sC, sD, sE, sF]
  refine tkA (i := 21) (v := ?_) rfl (Or.inl ⟨by rfl, ?_⟩) ?_
  rotate_left
  · intro w_ hSw; (try dsimp only at hSw); go_simp <;> with_reducible rfl
  try simp only [Act.put, sA, sB, sC, sD, sE, sF]
  refine tkA (i := 22) (v := ?_) rfl (Or.inl ⟨by rfl, ?_⟩) ?_
  rotate_left
  · intro w_ hSw; (try dsimp only at hSw); go_simp <;> with_reducible rfl
  try simp only [Act.put, sA, sB, sC, sD, sE, sF]
  refine wpAnyH_ready (rs := [23]) (by kernel_rfl) (by simp) ?_
  refine AllReadyH.cons rfl (fun K hK => ?_) AllReadyH.nil
  go_simp
  go_at_call 50
  refine Calls.mono (holdsI 0 5000 l true Dl.out _) ?_
  rintro e v3 ⟨rfl, hbc⟩
  have HK3 : Hid (KP w v3 (PB s n d r l b g k)) := HK2.out.on hbc
  go_wp2_with fail
  refine hK.out _ _ ?_ (fun hHeld3 => ?_)
  · exact kp_conj HK3.out
  clear hK K hbc HK2
  try simp only [Act.put, sA, sB, sC, sD, sE, sF]
  refine tkA (i := 24) (v := ?_) rfl (Or.inl ⟨by rfl, ?_⟩) ?_
  rotate_left
  · intro w_ hSw; (try dsimp only at hSw); go_simp <;> with_reducible rfl
  try simp only [Act.put, sA, sB, sC, sD, sE, sF]
  refine tkA (i := 25) (v := ?_) rfl (Or.inl ⟨by rfl, ?_⟩) ?_
  rotate_left
  · intro w_ hSw; (try dsimp only at hSw); go_simp <;> with_reducible rfl
  try simp only [Act.put, sA, sB, sC, sD, sE, sF]
  refine tkA (i := 26) (v := ?_) rfl (Or.inl ⟨by rfl, ?_⟩) ?_
  rotate_left
  · intro w_ hSw; (try dsimp only at hSw); go_simp <;> with_reducible rfl
  try simp only [Act.put, sA, sB, sC, sD, sE, sF]
  refine tkA (i := 27) (v := ?_) rfl (Or.inl ⟨by rfl, ?_⟩) ?_
  rotate_left
  · intro w_ hSw; (try dsimp only at hSw); go_simp <;> with_reducible rfl
  try simp only [Act.put, sA, sB, sC, sD, sE, sF]
  refine tkA (i := 28) (v := ?_) rfl (Or.inl ⟨by rfl, ?_⟩) ?_
  rotate_left
  · intro w_ hSw; (try dsimp only at hSw); go_simp <;> with_reducible rfl
  try simp only [Act.put, sA, sB, sC, sD, sE, sF]
  refine tkA (i := 29) (v := ?_) rfl (Or.inl ⟨by rfl, ?_⟩) ?_
  rotate_left
  · intro w_ hSw; (try dsimp only at hSw); go_simp <;> with_reducible rfl
  try simp only [Act.put, sA, sB, sC, sD, sE, sF]
  refine wpAnyH_ready (rs := [30]) (by kernel_rfl) (by simp) ?_
  refine AllReadyH.cons rfl (fun K hK => ?_) AllReadyH.nil
  go_simp
  go_at_call 52
  refine Calls.mono (volI s n d r l b g k false Dv.out _) ?_
  rintro e v4 ⟨rfl, hbc⟩
  have HK4 : Hid (KP w v4 (PB s n d r l b g k)) := HK3.out.on hbc
  go_wp2_with fail
  refine hK.out _ _ ?_ (fun hHeld4 => ?_)
  · exact kp_conj HK4.out
  clear hK K hbc HK3
  try simp only [Act.put, sA, sB, sC, sD, sE, sF]
  refine tkA (i := 31) (v := ?_) rfl (Or.inl ⟨by rfl, ?_⟩) ?_
  rotate_left
  · intro w_ hSw; (try dsimp only at hSw); go_simp <;> with_reducible rfl
  try simp only [Act.put, sA, sB, sC, sD, sE, sF]
  refine tkA (i := 32) (v := ?_) rfl (Or.inl ⟨by rfl, ?_⟩) ?_
  rotate_left
  · intro w_ hSw; (try dsimp only at hSw); go_simp <;> with_reducible rfl
  try simp only [Act.put, sA, sB, sC, sD, sE, sF]
  refine tkA (i := 33) (v := ?_) rfl (Or.inl ⟨by rfl, ?_⟩) ?_
  rotate_left
  · intro w_ hSw; (try dsimp only at hSw); go_simp <;> with_reducible rfl
  try simp only [Act.put, sA, sB, sC, sD, sE, sF]
  refine tkA (i := 34) (v := ?_) rfl (Or.inl ⟨by rfl, ?_⟩) ?_
  rotate_left
  · intro w_ hSw; (try dsimp only at hSw); go_simp <;> with_reducible rfl
  try simp only [Act.put, sA, sB, sC, sD, sE, sF]
  refine tkA (i := 35) (v := ?_) rfl (Or.inl ⟨by rfl, ?_⟩) ?_
  rotate_left
  · intro w_ hSw; (try dsimp only at hSw); go_simp <;> with_reducible rfl
  try simp only [Act.put, sA, sB, sC, sD, sE, sF]
  refine tkA (i := 36) (v := ?_) rfl (Or.inl ⟨by rfl, ?_⟩) ?_
  rotate_left
  · intro w_ hSw; (try dsimp only at hSw); go_simp <;> with_reducible rfl
  try simp only [Act.put, sA, sB, sC, sD, sE, sF]
  refine wpAnyH_ready (rs := [37]) (by kernel_rfl) (by simp) ?_
  refine AllReadyH.cons rfl (fun K hK => ?_) AllReadyH.nil
  go_simp
  go_at_call 50
  refine Calls.mono (holdsI 0 100 b false Db.out _) ?_
  rintro e v5 ⟨rfl, hbc⟩
  have HK5 : Hid (KP w v5 (PB s n d r l b g k)) := HK4.out.on hbc
  go_wp2_with fail
  refine hK.out _ _ ?_ (fun hHeld5 => ?_)
  · exact kp_conj HK5.out
  clear hK K hbc HK4
  try simp only [Act.put, sA, sB, sC, sD, sE, sF]
  refine tkA (i := 38) (v := ?_) rfl (Or.inl ⟨by rfl, ?_⟩) ?_
  rotate_left
  · intro w_ hSw; (try dsimp only at hSw); go_simp <;> with_reducible rfl
  try simp only [Act.put, sA, sB, sC, sD, sE, sF]
  refine tkA (i := 39) (v := ?_) rfl (Or.inl ⟨by rfl, ?_⟩) ?_
  rotate_left
  · intro w_ hSw; (try dsimp only at hSw); go_simp <;> with_reducible rfl
  try simp only [Act.put, sA, sB, sC, sD, sE, sF]
  refine tkA (i := 40) (v := undef) rfl (Or.inr ⟨by rfl, rfl⟩) ?_
  try simp only [Act.put, sA, sB, sC, sD, sE, sF]
  refine tkA (i := 41) (v := undef) rfl (Or.inr ⟨by rfl, rfl⟩) ?_
  try simp only [Act.put, sA, sB, sC, sD, sE, sF]
  refine tkA (i := 42) (v := undef) rfl (Or.inr ⟨by rfl, rfl⟩) ?_
  try simp only [Act.put, sA, sB, sC, sD, sE, sF]
  refine tkA (i := 43) (v := undef) rfl (Or.inr ⟨by rfl, rfl⟩) ?_
  try simp only [Act.put, sA, sB, sC, sD, sE, sF]
  refine tkA (i := 44) (v := ?_) rfl (Or.inl ⟨by rfl, ?_⟩) ?_
  rotate_left
  · intro w_ hSw; (try dsimp only at hSw); go_simp <;> with_reducible rfl
  try simp only [Act.put, sA, sB, sC, sD, sE, sF]
  refine tkA (i := 45) (v := ?_) rfl (Or.inl ⟨by rfl, ?_⟩) ?_
  rotate_left
  · intro w_ hSw; (try dsimp only at hSw); go_simp <;> with_reducible rfl
  try simp only [Act.put, sA, sB, sC, sD, sE, sF]
  refine tkA (i := 46) (v := undef) rfl (Or.inr ⟨by rfl, rfl⟩) ?_
  try simp only [Act.put, sA, sB, sC, sD, sE, sF]
  refine tkA (i := 47) (v := undef) rfl (Or.inr ⟨by rfl, rfl⟩) ?_
  try simp only [Act.put, sA, sB, sC, sD, sE, sF]
  refine tkA (i := 48) (v := ?_) rfl (Or.inl ⟨by rfl, ?_⟩) ?_
  rotate_left
  · intro w_ hSw; (try dsimp only at hSw); go_simp <;> with_reducible rfl
  try simp only [Act.put, sA, sB, sC, sD, sE, sF]
  refine tkA (i := 49) (v := ?_) rfl (Or.inl ⟨by rfl, ?_⟩) ?_
  rotate_left
  · intro w_ hSw; (try dsimp only at hSw); go_simp <;> with_reducible rfl
  try simp only [Act.put, sA, sB, sC, sD, sE, sF]
  refine wpAnyH_done (by kernel_rfl) ?_ _
  go_wp2
  go_ret
  exact ⟨rfl, HK5.out.2⟩
set_option maxRecDepth 100000 in
set_option maxHeartbeats 4000000 in
theorem pumpokI_7t (s n d r l b g k : Int) (D1 : Hid (decide (0 ≤ s ∧ s ≤ 3) = true)) (KR : Hid (∀ w, Calls Tryd.prog 51 #[.agg #[.int .i64 n, .int .i64 d, .int .i64 r]] w fun e w' => e = .returned (.bool true) ∧ Below w.heap.size w w')) (hw : IntKind.i64.wrap (d * 3) = d * 3) (h3 : decide (n ≤ d * 3) = true) (Dl : Hid (decide (0 ≤ l ∧ l ≤ 5000) = true)) (hl : decide (0 < l) = true) (Dv : Hid (decide (s = 1 ∨ s = 3 ∧ k = 1) = true)) (Db : Hid (decide (0 ≤ b ∧ b ≤ 100) = true)) (Dg : Hid (decide (0 ≤ g ∧ g ≤ 1000000000000) = false)) (w : World) : Calls Tryd.prog 32 #[PV s n d r l b g k] w fun e w' => e = .returned (.bool false) ∧ Below w.heap.size w w' := by
  have HB0 : Hid (Below w.heap.size w (w.alloc (PB s n d r l b g k))) := alP _ _
  have HP0 : Hid ((w.alloc (PB s n d r l b g k)).heap[w.heap.size]? = some (PB s n d r l b g k)) := heap_new w _
  have p0 := box8_cells HP0.out
  have HK0 : Hid (KP w (w.alloc (PB s n d r l b g k)).drew (PB s n d r l b g k)) := ⟨HP0.out, HB0.out.drew⟩
  go_enter Tryd.func32, Tryd.ntmps32
  go_wp2_with fail
  clear p0 HB0 HP0
  refine wp_region_held_drew (S := fun w' => w'.cell? ⟨w.heap.size, 0, none⟩ = some (.int .i64 s) ∧ w'.cell? ⟨w.heap.size, 1, none⟩ = some (.int .i64 n) ∧ w'.cell? ⟨w.heap.size, 2, none⟩ = some (.int .i64 d) ∧ w'.cell? ⟨w.heap.size, 3, none⟩ = some (.int .i64 r) ∧ w'.cell? ⟨w.heap.size, 4, none⟩ = some (.int .i64 l) ∧ w'.cell? ⟨w.heap.size, 5, none⟩ = some (.int .i64 b) ∧ w'.cell? ⟨w.heap.size, 6, none⟩ = some (.int .i64 g) ∧ w'.cell? ⟨w.heap.size, 7, none⟩ = some (.int .i64 k) ∧ KP w w' (PB s n d r l b g k)) (by kernel_rfl) (kp_conj HK0.out) (fun hHeld => ?_)
  refine tkA (i := 0) (v := ?_) rfl (Or.inl ⟨by rfl, ?_⟩) ?_
  rotate_left
  · intro w_ hSw; (try dsimp only at hSw); go_simp <;> with_reducible rfl
  try simp only [Act.put, sA, sB, sC, sD, sE, sF]
  refine tkA (i := 1) (v := ?_) rfl (Or.inl ⟨by rfl, ?_⟩) ?_
  rotate_left
  · intro w_ hSw; (try dsimp only at hSw); go_simp <;> with_reducible rfl
  try simp only [Act.put, sA, sB, sC, sD, sE, sF]
  refine tkA (i := 2) (v := ?_) rfl (Or.inl ⟨by rfl, ?_⟩) ?_
  rotate_left
  · intro w_ hSw; (try dsimp only at hSw); go_simp <;> with_reducible rfl
  try simp only [Act.put, sA, sB, sC, sD, sE, sF]
  refine wpAnyH_ready (rs := [3]) (by kernel_rfl) (by simp) ?_
  refine AllReadyH.cons rfl (fun K hK => ?_) AllReadyH.nil
  go_simp
  go_at_call 50
  refine Calls.mono (holdsI 0 3 s true D1.out _) ?_
  rintro e v1 ⟨rfl, hbc⟩
  have HK1 : Hid (KP w v1 (PB s n d r l b g k)) := HK0.out.on hbc
  go_wp2_with fail
  refine hK.out _ _ ?_ (fun hHeld1 => ?_)
  · exact kp_conj HK1.out
  clear hK K hbc HK0
  try simp only [Act.put, sA, sB, sC, sD, sE, sF]
  refine tkA (i := 4) (v := ?_) rfl (Or.inl ⟨by rfl, ?_⟩) ?_
  rotate_left
  · intro w_ hSw; (try dsimp only at hSw); go_simp <;> with_reducible rfl
  try simp only [Act.put, sA, sB, sC, sD, sE, sF]
  refine tkA (i := 5) (v := ?_) rfl (Or.inl ⟨by rfl, ?_⟩) ?_
  rotate_left
  · intro w_ hSw; (try dsimp only at hSw); go_simp <;> with_reducible rfl
  try simp only [Act.put, sA, sB, sC, sD, sE, sF]
  refine tkA (i := 6) (v := ?_) rfl (Or.inl ⟨by rfl, ?_⟩) ?_
  rotate_left
  · intro w_ hSw; (try dsimp only at hSw); go_simp <;> with_reducible rfl
  try simp only [Act.put, sA, sB, sC, sD, sE, sF]
  refine wpAnyH_ready (rs := [7]) (by kernel_rfl) (by simp) ?_
  refine AllReadyH.cons rfl (fun K hK => ?_) AllReadyH.nil
  go_simp
  go_at_call 51
  refine Calls.mono (KR.out _) ?_
  rintro e v2 ⟨rfl, hbc⟩
  have HK2 : Hid (KP w v2 (PB s n d r l b g k)) := HK1.out.on hbc
  go_wp2_with fail
  refine hK.out _ _ ?_ (fun hHeld2 => ?_)
  · exact kp_conj HK2.out
  clear hK K hbc HK1
  try simp only [Act.put, sA, sB, sC, sD, sE, sF]
  refine tkA (i := 8) (v := ?_) rfl (Or.inl ⟨by rfl, ?_⟩) ?_
  rotate_left
  · intro w_ hSw; (try dsimp only at hSw); go_simp <;> with_reducible rfl
  try simp only [Act.put, sA, sB, sC, sD, sE, sF]
  refine tkA (i := 9) (v := ?_) rfl (Or.inl ⟨by rfl, ?_⟩) ?_
  rotate_left
  · intro w_ hSw; (try dsimp only at hSw); go_simp <;> with_reducible rfl
  try simp only [Act.put, sA, sB, sC, sD, sE, sF]
  refine tkA (i := 10) (v := ?_) rfl (Or.inl ⟨by rfl, ?_⟩) ?_
  rotate_left
  · intro w_ hSw; (try dsimp only at hSw); go_simp <;> with_reducible rfl
  try simp only [Act.put, sA, sB, sC, sD, sE, sF]
  refine tkA (i := 11) (v := ?_) rfl (Or.inl ⟨by rfl, ?_⟩) ?_
  rotate_left
  · intro w_ hSw; (try dsimp only at hSw); go_simp <;> with_reducible rfl
  try simp only [Act.put, sA, sB, sC, sD, sE, sF]
  refine tkA (i := 12) (v := ?_) rfl (Or.inl ⟨by rfl, ?_⟩) ?_
  rotate_left
  · intro w_ hSw; (try dsimp only at hSw); go_simp <;> with_reducible rfl
  try simp only [Act.put, sA, sB, sC, sD, sE, sF]
  refine tkA (i := 13) (v := ?_) rfl (Or.inl ⟨by rfl, ?_⟩) ?_
  rotate_left
  · intro w_ hSw; (try dsimp only at hSw); go_simp <;> with_reducible rfl
  try simp only [Act.put, sA, sB, sC, sD, sE, sF]
  refine tkA (i := 14) (v := ?_) rfl (Or.inl ⟨by rfl, ?_⟩) ?_
  rotate_left
  · intro w_ hSw; (try dsimp only at hSw); go_simp <;> with_reducible rfl
  try simp only [Act.put, sA, sB, sC, sD, sE, sF]
  refine tkA (i := 15) (v := ?_) rfl (Or.inl ⟨by rfl, ?_⟩) ?_
  rotate_left
  · intro w_ hSw; (try dsimp only at hSw); go_simp <;> with_reducible rfl
  try simp only [Act.put, sA, sB, sC, sD, sE, sF]
  refine tkA (i := 16) (v := ?_) rfl (Or.inl ⟨by rfl, ?_⟩) ?_
  rotate_left
  · intro w_ hSw; (try dsimp only at hSw); go_simp <;> with_reducible rfl
  try simp only [Act.put, sA, sB, sC, sD, sE, sF]
  refine tkA (i := 17) (v := ?_) rfl (Or.inl ⟨by rfl, ?_⟩) ?_
  rotate_left
  · intro w_ hSw; (try dsimp only at hSw); go_simp <;> with_reducible rfl
  try simp only [Act.put, sA, sB, sC, sD, sE, sF]
  refine tkA (i := 18) (v := ?_) rfl (Or.inl ⟨by rfl, ?_⟩) ?_
  rotate_left
  · intro w_ hSw; (try dsimp only at hSw); go_simp <;> with_reducible rfl
  try simp only [Act.put, sA, sB, sC, sD, sE, sF]
  refine tkA (i := 19) (v := ?_) rfl (Or.inl ⟨by rfl, ?_⟩) ?_
  rotate_left
  · intro w_ hSw; (try dsimp only at hSw); go_simp <;> with_reducible rfl
  try simp only [Act.put, sA, sB, sC, sD, sE, sF]
  refine tkA (i := 20) (v := ?_) rfl (Or.inl ⟨by rfl, ?_⟩) ?_
  rotate_left
  · intro w_ hSw; (try dsimp only at hSw); go_simp <;> with_reducible rfl
  try simp only [Act.put, sA, sB, sC, sD, sE, sF]
  refine tkA (i := 21) (v := ?_) rfl (Or.inl ⟨by rfl, ?_⟩) ?_
  rotate_left
  · intro w_ hSw; (try dsimp only at hSw); go_simp <;> with_reducible rfl
  try simp only [Act.put, sA, sB, sC, sD, sE, sF]
  refine tkA (i := 22) (v := ?_) rfl (Or.inl ⟨by rfl, ?_⟩) ?_
  rotate_left
  · intro w_ hSw; (try dsimp only at hSw); go_simp <;> with_reducible rfl
  try simp only [Act.put, sA, sB, sC, sD, sE, sF]
  refine wpAnyH_ready (rs := [23]) (by kernel_rfl) (by simp) ?_
  refine AllReadyH.cons rfl (fun K hK => ?_) AllReadyH.nil
  go_simp
  go_at_call 50
  refine Calls.mono (holdsI 0 5000 l true Dl.out _) ?_
  rintro e v3 ⟨rfl, hbc⟩
  have HK3 : Hid (KP w v3 (PB s n d r l b g k)) := HK2.out.on hbc
  go_wp2_with fail
  refine hK.out _ _ ?_ (fun hHeld3 => ?_)
  · exact kp_conj HK3.out
  clear hK K hbc HK2
  try simp only [Act.put, sA, sB, sC, sD, sE, sF]
  refine tkA (i := 24) (v := ?_) rfl (Or.inl ⟨by rfl, ?_⟩) ?_
  rotate_left
  · intro w_ hSw; (try dsimp only at hSw); go_simp <;> with_reducible rfl
  try simp only [Act.put, sA, sB, sC, sD, sE, sF]
  refine tkA (i := 25) (v := ?_) rfl (Or.inl ⟨by rfl, ?_⟩) ?_
  rotate_left
  · intro w_ hSw; (try dsimp only at hSw); go_simp <;> with_reducible rfl
  try simp only [Act.put, sA, sB, sC, sD, sE, sF]
  refine tkA (i := 26) (v := ?_) rfl (Or.inl ⟨by rfl, ?_⟩) ?_
  rotate_left
  · intro w_ hSw; (try dsimp only at hSw); go_simp <;> with_reducible rfl
  try simp only [Act.put, sA, sB, sC, sD, sE, sF]
  refine tkA (i := 27) (v := ?_) rfl (Or.inl ⟨by rfl, ?_⟩) ?_
  rotate_left
  · intro w_ hSw; (try dsimp only at hSw); go_simp <;> with_reducible rfl
  try simp only [Act.put, sA, sB, sC, sD, sE, sF]
  refine tkA (i := 28) (v := ?_) rfl (Or.inl ⟨by rfl, ?_⟩) ?_
  rotate_left
  · intro w_ hSw; (try dsimp only at hSw); go_simp <;> with_reducible rfl
  try simp only [Act.put, sA, sB, sC, sD, sE, sF]
  refine tkA (i := 29) (v := ?_) rfl (Or.inl ⟨by rfl, ?_⟩) ?_
  rotate_left
  · intro w_ hSw; (try dsimp only at hSw); go_simp <;> with_reducible rfl
  try simp only [Act.put, sA, sB, sC, sD, sE, sF]
  refine wpAnyH_ready (rs := [30]) (by kernel_rfl) (by simp) ?_
  refine AllReadyH.cons rfl (fun K hK => ?_) AllReadyH.nil
  go_simp
  go_at_call 52
  refine Calls.mono (volI s n d r l b g k true Dv.out _) ?_
  rintro e v4 ⟨rfl, hbc⟩
  have HK4 : Hid (KP w v4 (PB s n d r l b g k)) := HK3.out.on hbc
  go_wp2_with fail
  refine hK.out _ _ ?_ (fun hHeld4 => ?_)
  · exact kp_conj HK4.out
  clear hK K hbc HK3
  try simp only [Act.put, sA, sB, sC, sD, sE, sF]
  refine tkA (i := 31) (v := ?_) rfl (Or.inl ⟨by rfl, ?_⟩) ?_
  rotate_left
  · intro w_ hSw; (try dsimp only at hSw); go_simp <;> with_reducible rfl
  try simp only [Act.put, sA, sB, sC, sD, sE, sF]
  refine tkA (i := 32) (v := ?_) rfl (Or.inl ⟨by rfl, ?_⟩) ?_
  rotate_left
  · intro w_ hSw; (try dsimp only at hSw); go_simp <;> with_reducible rfl
  try simp only [Act.put, sA, sB, sC, sD, sE, sF]
  refine tkA (i := 33) (v := ?_) rfl (Or.inl ⟨by rfl, ?_⟩) ?_
  rotate_left
  · intro w_ hSw; (try dsimp only at hSw); go_simp <;> with_reducible rfl
  try simp only [Act.put, sA, sB, sC, sD, sE, sF]
  refine tkA (i := 34) (v := ?_) rfl (Or.inl ⟨by rfl, ?_⟩) ?_
  rotate_left
  · intro w_ hSw; (try dsimp only at hSw); go_simp <;> with_reducible rfl
  try simp only [Act.put, sA, sB, sC, sD, sE, sF]
  refine tkA (i := 35) (v := ?_) rfl (Or.inl ⟨by rfl, ?_⟩) ?_
  rotate_left
  · intro w_ hSw; (try dsimp only at hSw); go_simp <;> with_reducible rfl
  try simp only [Act.put, sA, sB, sC, sD, sE, sF]
  refine tkA (i := 36) (v := ?_) rfl (Or.inl ⟨by rfl, ?_⟩) ?_
  rotate_left
  · intro w_ hSw; (try dsimp only at hSw); go_simp <;> with_reducible rfl
  try simp only [Act.put, sA, sB, sC, sD, sE, sF]
  refine wpAnyH_ready (rs := [37]) (by kernel_rfl) (by simp) ?_
  refine AllReadyH.cons rfl (fun K hK => ?_) AllReadyH.nil
  go_simp
  go_at_call 50
  refine Calls.mono (holdsI 0 100 b true Db.out _) ?_
  rintro e v5 ⟨rfl, hbc⟩
  have HK5 : Hid (KP w v5 (PB s n d r l b g k)) := HK4.out.on hbc
  go_wp2_with fail
  refine hK.out _ _ ?_ (fun hHeld5 => ?_)
  · exact kp_conj HK5.out
  clear hK K hbc HK4
  try simp only [Act.put, sA, sB, sC, sD, sE, sF]
  refine tkA (i := 38) (v := ?_) rfl (Or.inl ⟨by rfl, ?_⟩) ?_
  rotate_left
  · intro w_ hSw; (try dsimp only at hSw); go_simp <;> with_reducible rfl
  try simp only [Act.put, sA, sB, sC, sD, sE, sF]
  refine tkA (i := 39) (v := ?_) rfl (Or.inl ⟨by rfl, ?_⟩) ?_
  rotate_left
  · intro w_ hSw; (try dsimp only at hSw); go_simp <;> with_reducible rfl
  try simp only [Act.put, sA, sB, sC, sD, sE, sF]
  refine tkA (i := 40) (v := ?_) rfl (Or.inl ⟨by rfl, ?_⟩) ?_
  rotate_left
  · intro w_ hSw; (try dsimp only at hSw); go_simp <;> with_reducible rfl
  try simp only [Act.put, sA, sB, sC, sD, sE, sF]
  refine tkA (i := 41) (v := ?_) rfl (Or.inl ⟨by rfl, ?_⟩) ?_
  rotate_left
  · intro w_ hSw; (try dsimp only at hSw); go_simp <;> with_reducible rfl
  try simp only [Act.put, sA, sB, sC, sD, sE, sF]
  refine tkA (i := 42) (v := ?_) rfl (Or.inl ⟨by rfl, ?_⟩) ?_
  rotate_left
  · intro w_ hSw; (try dsimp only at hSw); go_simp <;> with_reducible rfl
  try simp only [Act.put, sA, sB, sC, sD, sE, sF]
  refine wpAnyH_ready (rs := [43]) (by kernel_rfl) (by simp) ?_
  refine AllReadyH.cons rfl (fun K hK => ?_) AllReadyH.nil
  go_simp
  go_at_call 50
  refine Calls.mono (holdsI 0 1000000000000 g false Dg.out _) ?_
  rintro e v6 ⟨rfl, hbc⟩
  have HK6 : Hid (KP w v6 (PB s n d r l b g k)) := HK5.out.on hbc
  go_wp2_with fail
  refine hK.out _ _ ?_ (fun hHeld6 => ?_)
  · exact kp_conj HK6.out
  clear hK K hbc HK5
  try simp only [Act.put, sA, sB, sC, sD, sE, sF]
  refine tkA (i := 44) (v := ?_) rfl (Or.inl ⟨by rfl, ?_⟩) ?_
  rotate_left
  · intro w_ hSw; (try dsimp only at hSw); go_simp <;> with_reducible rfl
  try simp only [Act.put, sA, sB, sC, sD, sE, sF]
  refine tkA (i := 45) (v := ?_) rfl (Or.inl ⟨by rfl, ?_⟩) ?_
  rotate_left
  · intro w_ hSw; (try dsimp only at hSw); go_simp <;> with_reducible rfl
  try simp only [Act.put, sA, sB, sC, sD, sE, sF]
  refine tkA (i := 46) (v := undef) rfl (Or.inr ⟨by rfl, rfl⟩) ?_
  try simp only [Act.put, sA, sB, sC, sD, sE, sF]
  refine tkA (i := 47) (v := undef) rfl (Or.inr ⟨by rfl, rfl⟩) ?_
  try simp only [Act.put, sA, sB, sC, sD, sE, sF]
  refine tkA (i := 48) (v := ?_) rfl (Or.inl ⟨by rfl, ?_⟩) ?_
  rotate_left
  · intro w_ hSw; (try dsimp only at hSw); go_simp <;> with_reducible rfl
  try simp only [Act.put, sA, sB, sC, sD, sE, sF]
  refine tkA (i := 49) (v := ?_) rfl (Or.inl ⟨by rfl, ?_⟩) ?_
  rotate_left
  · intro w_ hSw; (try dsimp only at hSw); go_simp <;> with_reducible rfl
  try simp only [Act.put, sA, sB, sC, sD, sE, sF]
  refine wpAnyH_done (by kernel_rfl) ?_ _
  go_wp2
  go_ret
  exact ⟨rfl, HK6.out.2⟩
set_option maxRecDepth 100000 in
set_option maxHeartbeats 4000000 in
theorem pumpokI_7f (s n d r l b g k : Int) (D1 : Hid (decide (0 ≤ s ∧ s ≤ 3) = true)) (KR : Hid (∀ w, Calls Tryd.prog 51 #[.agg #[.int .i64 n, .int .i64 d, .int .i64 r]] w fun e w' => e = .returned (.bool true) ∧ Below w.heap.size w w')) (hw : IntKind.i64.wrap (d * 3) = d * 3) (h3 : decide (n ≤ d * 3) = true) (Dl : Hid (decide (0 ≤ l ∧ l ≤ 5000) = true)) (hl : decide (0 < l) = false) (Dv : Hid (decide (s = 1 ∨ s = 3 ∧ k = 1) = false)) (Db : Hid (decide (0 ≤ b ∧ b ≤ 100) = true)) (Dg : Hid (decide (0 ≤ g ∧ g ≤ 1000000000000) = false)) (w : World) : Calls Tryd.prog 32 #[PV s n d r l b g k] w fun e w' => e = .returned (.bool false) ∧ Below w.heap.size w w' := by
  have HB0 : Hid (Below w.heap.size w (w.alloc (PB s n d r l b g k))) := alP _ _
  have HP0 : Hid ((w.alloc (PB s n d r l b g k)).heap[w.heap.size]? = some (PB s n d r l b g k)) := heap_new w _
  have p0 := box8_cells HP0.out
  have HK0 : Hid (KP w (w.alloc (PB s n d r l b g k)).drew (PB s n d r l b g k)) := ⟨HP0.out, HB0.out.drew⟩
  go_enter Tryd.func32, Tryd.ntmps32
  go_wp2_with fail
  clear p0 HB0 HP0
  refine wp_region_held_drew (S := fun w' => w'.cell? ⟨w.heap.size, 0, none⟩ = some (.int .i64 s) ∧ w'.cell? ⟨w.heap.size, 1, none⟩ = some (.int .i64 n) ∧ w'.cell? ⟨w.heap.size, 2, none⟩ = some (.int .i64 d) ∧ w'.cell? ⟨w.heap.size, 3, none⟩ = some (.int .i64 r) ∧ w'.cell? ⟨w.heap.size, 4, none⟩ = some (.int .i64 l) ∧ w'.cell? ⟨w.heap.size, 5, none⟩ = some (.int .i64 b) ∧ w'.cell? ⟨w.heap.size, 6, none⟩ = some (.int .i64 g) ∧ w'.cell? ⟨w.heap.size, 7, none⟩ = some (.int .i64 k) ∧ KP w w' (PB s n d r l b g k)) (by kernel_rfl) (kp_conj HK0.out) (fun hHeld => ?_)
  refine tkA (i := 0) (v := ?_) rfl (Or.inl ⟨by rfl, ?_⟩) ?_
  rotate_left
  · intro w_ hSw; (try dsimp only at hSw); go_simp <;> with_reducible rfl
  try simp only [Act.put, sA, sB, sC, sD, sE, sF]
  refine tkA (i := 1) (v := ?_) rfl (Or.inl ⟨by rfl, ?_⟩) ?_
  rotate_left
  · intro w_ hSw; (try dsimp only at hSw); go_simp <;> with_reducible rfl
  try simp only [Act.put, sA, sB, sC, sD, sE, sF]
  refine tkA (i := 2) (v := ?_) rfl (Or.inl ⟨by rfl, ?_⟩) ?_
  rotate_left
  · intro w_ hSw; (try dsimp only at hSw); go_simp <;> with_reducible rfl
  try simp only [Act.put, sA, sB, sC, sD, sE, sF]
  refine wpAnyH_ready (rs := [3]) (by kernel_rfl) (by simp) ?_
  refine AllReadyH.cons rfl (fun K hK => ?_) AllReadyH.nil
  go_simp
  go_at_call 50
  refine Calls.mono (holdsI 0 3 s true D1.out _) ?_
  rintro e v1 ⟨rfl, hbc⟩
  have HK1 : Hid (KP w v1 (PB s n d r l b g k)) := HK0.out.on hbc
  go_wp2_with fail
  refine hK.out _ _ ?_ (fun hHeld1 => ?_)
  · exact kp_conj HK1.out
  clear hK K hbc HK0
  try simp only [Act.put, sA, sB, sC, sD, sE, sF]
  refine tkA (i := 4) (v := ?_) rfl (Or.inl ⟨by rfl, ?_⟩) ?_
  rotate_left
  · intro w_ hSw; (try dsimp only at hSw); go_simp <;> with_reducible rfl
  try simp only [Act.put, sA, sB, sC, sD, sE, sF]
  refine tkA (i := 5) (v := ?_) rfl (Or.inl ⟨by rfl, ?_⟩) ?_
  rotate_left
  · intro w_ hSw; (try dsimp only at hSw); go_simp <;> with_reducible rfl
  try simp only [Act.put, sA, sB, sC, sD, sE, sF]
  refine tkA (i := 6) (v := ?_) rfl (Or.inl ⟨by rfl, ?_⟩) ?_
  rotate_left
  · intro w_ hSw; (try dsimp only at hSw); go_simp <;> with_reducible rfl
  try simp only [Act.put, sA, sB, sC, sD, sE, sF]
  refine wpAnyH_ready (rs := [7]) (by kernel_rfl) (by simp) ?_
  refine AllReadyH.cons rfl (fun K hK => ?_) AllReadyH.nil
  go_simp
  go_at_call 51
  refine Calls.mono (KR.out _) ?_
  rintro e v2 ⟨rfl, hbc⟩
  have HK2 : Hid (KP w v2 (PB s n d r l b g k)) := HK1.out.on hbc
  go_wp2_with fail
  refine hK.out _ _ ?_ (fun hHeld2 => ?_)
  · exact kp_conj HK2.out
  clear hK K hbc HK1
  try simp only [Act.put, sA, sB, sC, sD, sE, sF]
  refine tkA (i := 8) (v := ?_) rfl (Or.inl ⟨by rfl, ?_⟩) ?_
  rotate_left
  · intro w_ hSw; (try dsimp only at hSw); go_simp <;> with_reducible rfl
  try simp only [Act.put, sA, sB, sC, sD, sE, sF]
  refine tkA (i := 9) (v := ?_) rfl (Or.inl ⟨by rfl, ?_⟩) ?_
  rotate_left
  · intro w_ hSw; (try dsimp only at hSw); go_simp <;> with_reducible rfl
  try simp only [Act.put, sA, sB, sC, sD, sE, sF]
  refine tkA (i := 10) (v := ?_) rfl (Or.inl ⟨by rfl, ?_⟩) ?_
  rotate_left
  · intro w_ hSw; (try dsimp only at hSw); go_simp <;> with_reducible rfl
  try simp only [Act.put, sA, sB, sC, sD, sE, sF]
  refine tkA (i := 11) (v := ?_) rfl (Or.inl ⟨by rfl, ?_⟩) ?_
  rotate_left
  · intro w_ hSw; (try dsimp only at hSw); go_simp <;> with_reducible rfl
  try simp only [Act.put, sA, sB, sC, sD, sE, sF]
  refine tkA (i := 12) (v := ?_) rfl (Or.inl ⟨by rfl, ?_⟩) ?_
  rotate_left
  · intro w_ hSw; (try dsimp only at hSw); go_simp <;> with_reducible rfl
  try simp only [Act.put, sA, sB, sC, sD, sE, sF]
  refine tkA (i := 13) (v := ?_) rfl (Or.inl ⟨by rfl, ?_⟩) ?_
  rotate_left
  · intro w_ hSw; (try dsimp only at hSw); go_simp <;> with_reducible rfl
  try simp only [Act.put, sA, sB, sC, sD, sE, sF]
  refine tkA (i := 14) (v := ?_) rfl (Or.inl ⟨by rfl, ?_⟩) ?_
  rotate_left
  · intro w_ hSw; (try dsimp only at hSw); go_simp <;> with_reducible rfl
  try simp only [Act.put, sA, sB, sC, sD, sE, sF]
  refine tkA (i := 15) (v := ?_) rfl (Or.inl ⟨by rfl, ?_⟩) ?_
  rotate_left
  · intro w_ hSw; (try dsimp only at hSw); go_simp <;> with_reducible rfl
  try simp only [Act.put, sA, sB, sC, sD, sE, sF]
  refine tkA (i := 16) (v := ?_) rfl (Or.inl ⟨by rfl, ?_⟩) ?_
  rotate_left
  · intro w_ hSw; (try dsimp only at hSw); go_simp <;> with_reducible rfl
  try simp only [Act.put, sA, sB, sC, sD, sE, sF]
  refine tkA (i := 17) (v := ?_) rfl (Or.inl ⟨by rfl, ?_⟩) ?_
  rotate_left
  · intro w_ hSw; (try dsimp only at hSw); go_simp <;> with_reducible rfl
  try simp only [Act.put, sA, sB, sC, sD, sE, sF]
  refine tkA (i := 18) (v := ?_) rfl (Or.inl ⟨by rfl, ?_⟩) ?_
  rotate_left
  · intro w_ hSw; (try dsimp only at hSw); go_simp <;> with_reducible rfl
  try simp only [Act.put, sA, sB, sC, sD, sE, sF]
  refine tkA (i := 19) (v := ?_) rfl (Or.inl ⟨by rfl, ?_⟩) ?_
  rotate_left
  · intro w_ hSw; (try dsimp only at hSw); go_simp <;> with_reducible rfl
  try simp only [Act.put, sA, sB, sC, sD, sE, sF]
  refine tkA (i := 20) (v := ?_) rfl (Or.inl ⟨by rfl, ?_⟩) ?_
  rotate_left
  · intro w_ hSw; (try dsimp only at hSw); go_simp <;> with_reducible rfl
  try simp only [Act.put, sA, sB, sC, sD, sE, sF]
  refine tkA (i := 21) (v := ?_) rfl (Or.inl ⟨by rfl, ?_⟩) ?_
  rotate_left
  · intro w_ hSw; (try dsimp only at hSw); go_simp <;> with_reducible rfl
  try simp only [Act.put, sA, sB, sC, sD, sE, sF]
  refine tkA (i := 22) (v := ?_) rfl (Or.inl ⟨by rfl, ?_⟩) ?_
  rotate_left
  · intro w_ hSw; (try dsimp only at hSw); go_simp <;> with_reducible rfl
  try simp only [Act.put, sA, sB, sC, sD, sE, sF]
  refine wpAnyH_ready (rs := [23]) (by kernel_rfl) (by simp) ?_
  refine AllReadyH.cons rfl (fun K hK => ?_) AllReadyH.nil
  go_simp
  go_at_call 50
  refine Calls.mono (holdsI 0 5000 l true Dl.out _) ?_
  rintro e v3 ⟨rfl, hbc⟩
  have HK3 : Hid (KP w v3 (PB s n d r l b g k)) := HK2.out.on hbc
  go_wp2_with fail
  refine hK.out _ _ ?_ (fun hHeld3 => ?_)
  · exact kp_conj HK3.out
  clear hK K hbc HK2
  try simp only [Act.put, sA, sB, sC, sD, sE, sF]
  refine tkA (i := 24) (v := ?_) rfl (Or.inl ⟨by rfl, ?_⟩) ?_
  rotate_left
  · intro w_ hSw; (try dsimp only at hSw); go_simp <;> with_reducible rfl
  try simp only [Act.put, sA, sB, sC, sD, sE, sF]
  refine tkA (i := 25) (v := ?_) rfl (Or.inl ⟨by rfl, ?_⟩) ?_
  rotate_left
  · intro w_ hSw; (try dsimp only at hSw); go_simp <;> with_reducible rfl
  try simp only [Act.put, sA, sB, sC, sD, sE, sF]
  refine tkA (i := 26) (v := ?_) rfl (Or.inl ⟨by rfl, ?_⟩) ?_
  rotate_left
  · intro w_ hSw; (try dsimp only at hSw); go_simp <;> with_reducible rfl
  try simp only [Act.put, sA, sB, sC, sD, sE, sF]
  refine tkA (i := 27) (v := ?_) rfl (Or.inl ⟨by rfl, ?_⟩) ?_
  rotate_left
  · intro w_ hSw; (try dsimp only at hSw); go_simp <;> with_reducible rfl
  try simp only [Act.put, sA, sB, sC, sD, sE, sF]
  refine tkA (i := 28) (v := ?_) rfl (Or.inl ⟨by rfl, ?_⟩) ?_
  rotate_left
  · intro w_ hSw; (try dsimp only at hSw); go_simp <;> with_reducible rfl
  try simp only [Act.put, sA, sB, sC, sD, sE, sF]
  refine tkA (i := 29) (v := ?_) rfl (Or.inl ⟨by rfl, ?_⟩) ?_
  rotate_left
  · intro w_ hSw; (try dsimp only at hSw); go_simp <;> with_reducible rfl
  try simp only [Act.put, sA, sB, sC, sD, sE, sF]
  refine wpAnyH_ready (rs := [30]) (by kernel_rfl) (by simp) ?_
  refine AllReadyH.cons rfl (fun K hK => ?_) AllReadyH.nil
  go_simp
  go_at_call 52
  refine Calls.mono (volI s n d r l b g k false Dv.out _) ?_
  rintro e v4 ⟨rfl, hbc⟩
  have HK4 : Hid (KP w v4 (PB s n d r l b g k)) := HK3.out.on hbc
  go_wp2_with fail
  refine hK.out _ _ ?_ (fun hHeld4 => ?_)
  · exact kp_conj HK4.out
  clear hK K hbc HK3
  try simp only [Act.put, sA, sB, sC, sD, sE, sF]
  refine tkA (i := 31) (v := ?_) rfl (Or.inl ⟨by rfl, ?_⟩) ?_
  rotate_left
  · intro w_ hSw; (try dsimp only at hSw); go_simp <;> with_reducible rfl
  try simp only [Act.put, sA, sB, sC, sD, sE, sF]
  refine tkA (i := 32) (v := ?_) rfl (Or.inl ⟨by rfl, ?_⟩) ?_
  rotate_left
  · intro w_ hSw; (try dsimp only at hSw); go_simp <;> with_reducible rfl
  try simp only [Act.put, sA, sB, sC, sD, sE, sF]
  refine tkA (i := 33) (v := ?_) rfl (Or.inl ⟨by rfl, ?_⟩) ?_
  rotate_left
  · intro w_ hSw; (try dsimp only at hSw); go_simp <;> with_reducible rfl
  try simp only [Act.put, sA, sB, sC, sD, sE, sF]
  refine tkA (i := 34) (v := ?_) rfl (Or.inl ⟨by rfl, ?_⟩) ?_
  rotate_left
  · intro w_ hSw; (try dsimp only at hSw); go_simp <;> with_reducible rfl
  try simp only [Act.put, sA, sB, sC, sD, sE, sF]
  refine tkA (i := 35) (v := ?_) rfl (Or.inl ⟨by rfl, ?_⟩) ?_
  rotate_left
  · intro w_ hSw; (try dsimp only at hSw); go_simp <;> with_reducible rfl
  try simp only [Act.put, sA, sB, sC, sD, sE, sF]
  refine tkA (i := 36) (v := ?_) rfl (Or.inl ⟨by rfl, ?_⟩) ?_
  rotate_left
  · intro w_ hSw; (try dsimp only at hSw); go_simp <;> with_reducible rfl
  try simp only [Act.put, sA, sB, sC, sD, sE, sF]
  refine wpAnyH_ready (rs := [37]) (by kernel_rfl) (by simp) ?_
  refine AllReadyH.cons rfl (fun K hK => ?_) AllReadyH.nil
  go_simp
  go_at_call 50
  refine Calls.mono (holdsI 0 100 b true Db.out _) ?_
  rintro e v5 ⟨rfl, hbc⟩
  have HK5 : Hid (KP w v5 (PB s n d r l b g k)) := HK4.out.on hbc
  go_wp2_with fail
  refine hK.out _ _ ?_ (fun hHeld5 => ?_)
  · exact kp_conj HK5.out
  clear hK K hbc HK4
  try simp only [Act.put, sA, sB, sC, sD, sE, sF]
  refine tkA (i := 38) (v := ?_) rfl (Or.inl ⟨by rfl, ?_⟩) ?_
  rotate_left
  · intro w_ hSw; (try dsimp only at hSw); go_simp <;> with_reducible rfl
  try simp only [Act.put, sA, sB, sC, sD, sE, sF]
  refine tkA (i := 39) (v := ?_) rfl (Or.inl ⟨by rfl, ?_⟩) ?_
  rotate_left
  · intro w_ hSw; (try dsimp only at hSw); go_simp <;> with_reducible rfl
  try simp only [Act.put, sA, sB, sC, sD, sE, sF]
  refine tkA (i := 40) (v := ?_) rfl (Or.inl ⟨by rfl, ?_⟩) ?_
  rotate_left
  · intro w_ hSw; (try dsimp only at hSw); go_simp <;> with_reducible rfl
  try simp only [Act.put, sA, sB, sC, sD, sE, sF]
  refine tkA (i := 41) (v := ?_) rfl (Or.inl ⟨by rfl, ?_⟩) ?_
  rotate_left
  · intro w_ hSw; (try dsimp only at hSw); go_simp <;> with_reducible rfl
  try simp only [Act.put, sA, sB, sC, sD, sE, sF]
  refine tkA (i := 42) (v := ?_) rfl (Or.inl ⟨by rfl, ?_⟩) ?_
  rotate_left
  · intro w_ hSw; (try dsimp only at hSw); go_simp <;> with_reducible rfl
  try simp only [Act.put, sA, sB, sC, sD, sE, sF]
  refine wpAnyH_ready (rs := [43]) (by kernel_rfl) (by simp) ?_
  refine AllReadyH.cons rfl (fun K hK => ?_) AllReadyH.nil
  go_simp
  go_at_call 50
  refine Calls.mono (holdsI 0 1000000000000 g false Dg.out _) ?_
  rintro e v6 ⟨rfl, hbc⟩
  have HK6 : Hid (KP w v6 (PB s n d r l b g k)) := HK5.out.on hbc
  go_wp2_with fail
  refine hK.out _ _ ?_ (fun hHeld6 => ?_)
  · exact kp_conj HK6.out
  clear hK K hbc HK5
  try simp only [Act.put, sA, sB, sC, sD, sE, sF]
  refine tkA (i := 44) (v := ?_) rfl (Or.inl ⟨by rfl, ?_⟩) ?_
  rotate_left
  · intro w_ hSw; (try dsimp only at hSw); go_simp <;> with_reducible rfl
  try simp only [Act.put, sA, sB, sC, sD, sE, sF]
  refine tkA (i := 45) (v := ?_) rfl (Or.inl ⟨by rfl, ?_⟩) ?_
  rotate_left
  · intro w_ hSw; (try dsimp only at hSw); go_simp <;> with_reducible rfl
  try simp only [Act.put, sA, sB, sC, sD, sE, sF]
  refine tkA (i := 46) (v := undef) rfl (Or.inr ⟨by rfl, rfl⟩) ?_
  try simp only [Act.put, sA, sB, sC, sD, sE, sF]
  refine tkA (i := 47) (v := undef) rfl (Or.inr ⟨by rfl, rfl⟩) ?_
  try simp only [Act.put, sA, sB, sC, sD, sE, sF]
  refine tkA (i := 48) (v := ?_) rfl (Or.inl ⟨by rfl, ?_⟩) ?_
  rotate_left
  · intro w_ hSw; (try dsimp only at hSw); go_simp <;> with_reducible rfl
  try simp only [Act.put, sA, sB, sC, sD, sE, sF]
  refine tkA (i := 49) (v := ?_) rfl (Or.inl ⟨by rfl, ?_⟩) ?_
  rotate_left
  · intro w_ hSw; (try dsimp only at hSw); go_simp <;> with_reducible rfl
  try simp only [Act.put, sA, sB, sC, sD, sE, sF]
  refine wpAnyH_done (by kernel_rfl) ?_ _
  go_wp2
  go_ret
  exact ⟨rfl, HK6.out.2⟩
end Go.Proofs.YtbcegpncledolaaDoor
