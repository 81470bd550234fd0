/-
  Latched, of the program, on a life that was run.
-/
import Derived.Test.YtdifmjcghaoilaaGreatDoorGaCR
import Derived.Test.YtdifmjcghaoilaaGreatDoorGaCT
import Derived.Test.YtdifmjcghaoilaaGreatDoorGaCB
import Derived.BigQuiet
namespace Go.Proofs.YtdifmjcghaoilaaGreatDoor
open Go.ChangeShapes Go.WideShapes Go.ChangeAt Go.RowKit Go.PlainAid Go.Shelf
set_option linter.unusedVariables false
set_option linter.unusedSimpArgs false

set_option maxRecDepth 100000 in
set_option maxHeartbeats 1000000 in
theorem latchesOfI (a b : Option Addr) (n c n2 c2 : Nat) (w : World) :
    Calls Tryz.prog 28 #[.slice a n c, .slice b n2 c2] w fun e w' => e = .returned (fnL w.heap.size (w.heap.size + 1)) ∧ w' = (w.alloc (.cells #[.slice a n c] 33)).alloc (.cells #[.slice b n2 c2] 38) := by
  go_enter Tryz.func28, Tryz.ntmps28
  go_wp2
  go_ret
  exact ⟨rfl, rfl⟩
set_option maxRecDepth 100000 in
set_option maxHeartbeats 4000000 in
theorem latchedI (ys : List Inp) (hok : ∀ y ∈ ys, y.ok) (N : Nat) (hN : ys.length = N) (hN150 : N ≤ 150) (al il : Option Addr) (tc ci : Nat) (w : World) (hT : Q.Tab w)
    (hRY : RdY w al (runD newD (icS ys)).t) (hRZ : RdZ w il (ys.map Inp.t3)) :
    Calls Tryz.prog 11 #[.slice al N tc, .slice il N ci] w fun e w' => e = .returned (.bool true) ∧ Below w.heap.size w w' := by
  obtain ⟨W, hW⟩ : ∃ W, (w.alloc (.cells #[.slice al N tc] 33)).alloc (.cells #[.slice il N ci] 38) = W := ⟨_, rfl⟩
  have hb : Below w.heap.size w W := by rw [← hW]; exact ((Below.refl _ _).alloc (Nat.le_refl _) _).alloc (by simp) _
  have h1 : W.cell? ⟨w.heap.size, 0, none⟩ = some (.slice al N tc) := by rw [← hW]; exact ((Boxed.new w _ _).alloc _).cell
  have h2 : W.cell? ⟨w.heap.size + 1, 0, none⟩ = some (.slice il N ci) := by
    rw [← hW]
    have := (Boxed.new (w.alloc (.cells #[.slice al N tc] 33)) 38 (.slice il N ci)).cell
    rwa [World.size_alloc] at this
  have hbl : w.heap.size < W.heap.size := World.block_lt_of_cell? W ⟨w.heap.size, 0, none⟩ h1
  have hbi : w.heap.size + 1 < W.heap.size := World.block_lt_of_cell? W ⟨w.heap.size + 1, 0, none⟩ h2
  have hseq : ∀ W0, Below W.heap.size W W0 → Rounds (7 - 1) 53 #[.pointer (some ⟨w.heap.size, 0, none⟩), .pointer (some ⟨w.heap.size + 1, 0, none⟩)] (fun j => #[latV (alJ (icS ys) (j + 1)) (inJ ys j).i.b (alJ (icS ys) j) (snJ (icS ys) j (inJ ys j).i)]) N W0 := fun W0 hb0 =>
    latches_rounds 6 (by omega) ys hok N hN hN150 w.heap.size (w.heap.size + 1) al il tc ci W0 (Q.tab_below (Q.tab_below hT hb) hb0) ((hb0.cell (p := ⟨w.heap.size, 0, none⟩) hbl).trans h1) ((hb0.cell (p := ⟨w.heap.size + 1, 0, none⟩) hbi).trans h2) ((hRY.on hb).on hb0) ((hRZ.on hb).on hb0)
  have CI := callsIn_wide.1 (isSoH 7 (by omega) N (fun j => alJ (icS ys) (j + 1)) (fun j => (inJ ys j).i.b) (fun j => alJ (icS ys) j) (fun j => snJ (icS ys) j (inJ ys j).i) (fun j hj => heldJ_of hok (by omega)) w.heap.size (w.heap.size + 1) W hseq)
  have HB : Hid (Below w.heap.size w W) := hb
  clear hseq hb h1 h2 hbl hbi hT hRY hRZ hok hN
  go_enter Tryz.func11, Tryz.ntmps11
  go_wp2_with fail
  refine (latchesOfI al il N tc N ci _).mono ?_
  rw [hW]
  rintro e w1 ⟨rfl, rfl⟩
  clear hW
  go_wp2_with fail
  refine CI.mono ?_
  rintro e w2 ⟨rfl, hb2⟩
  have HB2 : Hid (Below w.heap.size w w2) := bel_on (Nat.le_refl _) HB.out hb2
  clear hb2 HB CI
  go_wp2
  go_ret
  exact ⟨by simp, HB2.out⟩
end Go.Proofs.YtdifmjcghaoilaaGreatDoor

namespace Go.Proofs.YtdifmjcghaoilaaGreatDoor
open Go.ChangeShapes Go.WideShapes Go.ChangeAt Go.RowKit Go.PlainAid
set_option linter.unusedVariables false
set_option linter.unusedSimpArgs false

def SBt (a b : Addr) (x y : Int) (W : World) : Prop := W.cell? a = some (.int .i64 x) ∧ W.cell? b = some (.int .i64 y)
def SLt (X : Nat) (m : Mn) (ad : Addr) (K : ByteArray) (W : World) : Prop := W.heap[X]? = some (.cells #[.int .i64 m.a, .bool m.b, .int .i64 m.n, .int .i64 m.d, .string ⟨m.s.toArray⟩] 32) ∧ W.cell? ad = some (.string K)
def AnyS (os : List Od4) (i : Nat) (s : Bool) : Prop := s = (os.take i).any (fun o => o.1 == 5)
theorem ne_own {g2 g k n c : Nat} (e : (Value.slice (some ⟨g2, 0, none⟩) n c).ownBlock = some g) (h : g2 ≠ k) : g ≠ k := by cases e; exact h
theorem orI_facts : (∀ b p : Fin 16, G.orI (G.orI (p.val : Int) (b.val : Int)) (b.val : Int) = G.orI (p.val : Int) (b.val : Int) ∧ G.orI (G.orI (p.val : Int) (b.val : Int)) (p.val : Int) = G.orI (p.val : Int) (b.val : Int)) ∧ ∀ b : Fin 16, G.orI (b.val : Int) (b.val : Int) = (b.val : Int) := by decide +kernel
theorem held_or {a b p : Int} {s : Bool} (h : HeldJ a b p s) : (0 ≤ a ∧ a ≤ 15) ∧ G.orI a b = a ∧ (s = false → G.orI a p = a) := by
  obtain ⟨hb, hp, ha⟩ := h
  have h1 := orI_facts.1 ⟨b.toNat, by omega⟩ ⟨p.toNat, by omega⟩
  have h2 := orI_facts.2 ⟨b.toNat, by omega⟩
  have e1 : ((b.toNat : Nat) : Int) = b := by omega
  have e2 : ((p.toNat : Nat) : Int) = p := by omega
  simp only [e1, e2] at h1 h2
  cases s
  · have ha' : a = G.orI p b := ha
    subst ha'
    exact ⟨G.orI_bd _ _, h1.1, fun _ => h1.2⟩
  · have ha' : a = b := ha
    subst ha'
    exact ⟨hb, h2, fun h => by cases h⟩
theorem link_os {x : Inp} (hx : x.ok) {k n d v : Int} {b : Bool} (h : RdOr x.L k n d v b) : (b = true ∧ x.i.lo = [(k, n, d, v)]) ∨ (b = false ∧ x.i.lo = []) := by
  rcases hx.2.1 with ⟨h1, h2, h3⟩ | ⟨h1, k0, n0, d0, v0, b0, h2, h3⟩
  · refine .inr ⟨?_, h2⟩
    rcases h with ⟨g1, g2, _⟩ | ⟨_, g2, _⟩
    · exfalso
      have : (ordT k n d v).size = 0 := by rw [g2]; exact h1
      unfold ordT at this
      rw [ByteArray.size_append, Q.sigil_size] at this
      omega
    · exact g2
  · obtain ⟨rfl, rfl, rfl, rfl, rfl⟩ := h.uni h2
    rcases h3 with ⟨h3, h4, _⟩ | ⟨h3, h4, _⟩
    · exact .inl ⟨h3, h4⟩
    · exact .inr ⟨h3, h4⟩
set_option maxRecDepth 100000 in
set_option maxHeartbeats 16000000 in
theorem latchedS (ys : List Inp) (hok : ∀ y ∈ ys, y.ok) (N : Nat) (hN : ys.length = N) (hN150 : N ≤ 150) (al il : Option Addr) (tc ci : Nat) (w : World)
    (hRY : RdY w al (runD newD (icS ys)).t) (hRZ : RdZ w il (ys.map Inp.t3)) :
    Calls Tryz.prog 12 #[.slice al N tc, .slice il N ci] w fun e w' => e = .returned (.bool true) ∧ Below w.heap.size w w' := by
  have HOK : Hid (∀ y ∈ ys, y.ok) := hok
  have HN : Hid (ys.length = N) := hN
  have HRY : Hid (RdY w al (runD newD (icS ys)).t) := hRY
  have HRZ : Hid (RdZ w il (ys.map Inp.t3)) := hRZ
  clear hok hN hRY hRZ
  go_enter Tryz.func12, Tryz.ntmps12
  go_wp2_with fail
  refine (menunewS _).mono ?_
  rintro e w1 ⟨rfl, hb1⟩
  unfold mnV
  obtain ⟨X, hX⟩ : ∃ X, w1.heap.size = X := ⟨_, rfl⟩
  obtain ⟨W1, hW1⟩ : ∃ W1, w1.alloc (.cells #[.int .i64 newM.a, .bool newM.b, .int .i64 newM.n, .int .i64 newM.d, .string ⟨newM.s.toArray⟩] 32) = W1 := ⟨_, rfl⟩
  have hba : Below w1.heap.size w1 W1 := by rw [← hW1]; exact alM _ _
  have HB1 : Hid (Below w.heap.size w W1) := bel_on (Nat.le_refl _) hb1 hba
  have HX1 : Hid (W1.heap[X]? = some (.cells #[.int .i64 (atD (icS ys) 0).m.a, .bool (atD (icS ys) 0).m.b, .int .i64 (atD (icS ys) 0).m.n, .int .i64 (atD (icS ys) 0).m.d, .string ⟨(atD (icS ys) 0).m.s.toArray⟩] 32)) := by show _ = _; rw [atD_zero, ← hW1, ← hX]; exact heap_new w1 _
  have hXw : w.heap.size ≤ X := by rw [← hX]; exact hb1.size
  clear hb1 hba
  dsimp only
  go_upto_region 4 with fail
  (try rw [hW1])
  (try rw [hX])
  clear hW1 hX
  go_wp2_with fail
  go_loopw [6, 7] (fun av iv wr => ∃ (j : Nat) (A : Int), j ≤ N ∧ av = .int .i64 A ∧ iv = .int .i64 j ∧ Hid (A = alJ (icS ys) j) ∧ Hid (wr.heap[X]? = some (.cells #[.int .i64 (atD (icS ys) j).m.a, .bool (atD (icS ys) j).m.b, .int .i64 (atD (icS ys) j).m.n, .int .i64 (atD (icS ys) j).m.d, .string ⟨(atD (icS ys) j).m.s.toArray⟩] 32)) ∧ Hid (Below w.heap.size w wr)) (fun _ iv _ => N - (intOf iv).toNat)
  case atStart => exact ⟨0, 0, Nat.zero_le _, rfl, rfl, (alJ_zero _).symm, HX1, HB1⟩
  case round =>
    clear HX1 HB1
    obtain ⟨j, A, hj, rfl, rfl, HA, HX, HB⟩ := hrel
    by_cases hlt : j < N
    · have hjy : j < ys.length := by rw [HN.out]; exact hlt
      have hji : j < (icS ys).length := by unfold icS; simpa using hjy
      have hjt : j < (runD newD (icS ys)).t.length := by rw [run_tlen]; show j < 0 + _; omega
      obtain ⟨g, off, rfl, hc⟩ := HRY.out (by omega)
      have c1 := (hc j hjt).2.1
      rw [show ((runD newD (icS ys)).t[j]).2.1 = alJ (icS ys) (j + 1) by rw [tick_at hji hjt, alJ_succ hji]] at c1
      obtain ⟨gz, oz, rfl, hz⟩ := HRZ.out (by simp; omega)
      obtain ⟨z0, z1, z2⟩ := hz j (by simp; omega)
      have hxo : (inJ ys j).ok := by rw [inJ_at hjy]; exact HOK.out _ (List.getElem_mem hjy)
      have hzt : (ys.map Inp.t3)[j]'(by simp; omega) = (inJ ys j).t3 := by rw [inJ_at hjy]; simp
      rw [hzt] at z0 z1 z2
      have hheld := heldJ_of HOK.out hjy
      have hmn : (atD (icS ys) (j + 1)).m = (allM (atD (icS ys) j).m (inJ ys j).i.ks).1 := by rw [atD_succ hji, icS_at hjy]; rfl
      obtain ⟨q, hq⟩ : ∃ q, inJ ys j = q := ⟨_, rfl⟩
      rw [hq] at z0 z1 z2 hxo hheld hmn
      obtain ⟨A1, hA1⟩ : ∃ A1, alJ (icS ys) (j + 1) = A1 := ⟨_, rfl⟩
      rw [hA1] at c1 hheld
      rw [← HA.out] at hheld
      obtain ⟨hab, hor1, hor2⟩ := held_or hheld
      have hpb : 0 ≤ A ∧ A ≤ 15 := hheld.2.1
      have hbb : 0 ≤ q.i.b ∧ q.i.b ≤ 15 := hheld.1
      have hgw : gz < w.heap.size := World.block_lt_of_cell? w ⟨gz, oz + j * 3, none⟩ z0
      have hgt : g < w.heap.size := World.block_lt_of_cell? w ⟨g, off + j * 3 + 1, none⟩ c1
      have HC1 : Hid (∀ W, Below w.heap.size w W → W.cell? ⟨g, off + j * 3 + 1, none⟩ = some (.int .i64 A1)) := fun W hb => (hb.cell (p := ⟨g, off + j * 3 + 1, none⟩) hgt).trans c1
      have HZ0 : Hid (∀ W, Below w.heap.size w W → W.cell? ⟨gz, oz + j * 3, none⟩ = some (.int .i64 q.i.b)) := fun W hb => (hb.cell (p := ⟨gz, oz + j * 3, none⟩) hgw).trans z0
      have HZ1 : Hid (∀ W, Below w.heap.size w W → W.cell? ⟨gz, oz + j * 3 + 1, none⟩ = some (.string q.K)) := fun W hb => (hb.cell (p := ⟨gz, oz + j * 3 + 1, none⟩) hgw).trans z1
      have HZ2 : Hid (∀ W, Below w.heap.size w W → W.cell? ⟨gz, oz + j * 3 + 2, none⟩ = some (.string q.L)) := fun W hb => (hb.cell (p := ⟨gz, oz + j * 3 + 2, none⟩) hgw).trans z2
      clear c1 z0 z1 z2
      have z1 := HZ1.out wr HB.out
      have HA1 : Hid (alJ (icS ys) (j + 1) = A1) := hA1
      have HQ : Hid (inJ ys j = q) := hq
      obtain ⟨mj, hmj⟩ : ∃ m, (atD (icS ys) j).m = m := ⟨_, rfl⟩
      rw [hmj] at HX hmn
      obtain ⟨⟨M, l2⟩, hM⟩ : ∃ R, allM mj q.i.ks = R := ⟨_, rfl⟩
      rw [hM] at hmn
      have HM : Hid (allM mj q.i.ks = (M, l2)) := hM
      have HMN : Hid ((atD (icS ys) (j + 1)).m = M) := hmn
      obtain ⟨ql, hql⟩ : ∃ n, l2.length = n := ⟨_, rfl⟩
      have HQL : Hid (l2.length = ql) := hql
      have hqlb : ql ≤ 20 := by
        have e1 := allM_len q.i.ks mj
        rw [hM] at e1
        have e3 := hxo.ic.2.1
        have : l2.length ≤ q.i.ks.length := e1
        omega
      have HOS : Hid (osJ (icS ys) j q.i = l2 ++ q.i.lo) := by show _ = _; unfold osJ; rw [hmj, hM]
      have hks : q.i.ks.length ≤ 20 := hxo.ic.2.1
      have i0 : (0 : Int) ≤ (j : Int) := by omega
      have i1 : (j : Int) < (N : Int) := by omega
      have qj : IntKind.i64.wrap ((j : Int) + 1) = (j : Int) + 1 := wrap_in (by omega) (by omega)
      have hXr : X < wr.heap.size := row_lt HX.out
      clear hc hz hq hzt hA1 hmj hM hmn hql hheld hji hjt hjy
      go_upto_region 8 with fail
      go_cut [8, 9] (fun v8 v9 wd => ∃ Y g2 c2 : Nat, v8 = .pointer (some ⟨Y, 0, none⟩) ∧ v9 = .slice (some ⟨g2, 0, none⟩) ql c2 ∧ X < Y ∧ Hid (wd.heap[Y]? = some (.cells #[.int .i64 M.a, .bool M.b, .int .i64 M.n, .int .i64 M.d, .string ⟨M.s.toArray⟩] 32)) ∧ Hid (wd.heap[X]? = some (.cells #[.int .i64 mj.a, .bool mj.b, .int .i64 mj.n, .int .i64 mj.d, .string ⟨mj.s.toArray⟩] 32)) ∧ Hid (Below w.heap.size w wd) ∧ Hid (OwnA wd (X + 1) (some ⟨g2, 0, none⟩) ql c2 l2))
      case first =>
        have HK : SLt X mj ⟨gz, oz + j * 3 + 1, none⟩ q.K wr.drew := ⟨HX.out, z1⟩
        refine wp_region_held_drew (S := fun w' => SLt X mj ⟨gz, oz + j * 3 + 1, none⟩ q.K w') (by kernel_rfl) HK (fun hHeld => ?_)
        have HB5 : Hid (Below w.heap.size w wr.drew) := HB.out.drew
        have hXv : X + 1 ≤ wr.drew.heap.size := row_lt HK.1
        generalize wr.drew = v0 at *
        refine wpAnyH_take (i := 0) (v := .agg #[.int .i64 mj.a, .bool mj.b, .int .i64 mj.n, .int .i64 mj.d, .string ⟨mj.s.toArray⟩]) rfl (by kernel_rfl) (by kernel_rfl) (by kernel_rfl) (fun _ _ _ h => h) (Or.inl ⟨by rfl, fun w_ hSw => exec_load_row _ _ rfl X rfl _ _ _ hSw.1 (by kernel_rfl) (by kernel_rfl)⟩) (by assumption) ?_
        try simp only [Act.put, List.setIfInBounds_toArray, List.set_cons_zero, List.set_cons_succ, List.getElem_toArray, List.getElem_cons_zero, List.getElem_cons_succ]
        refine wpAnyH_take (i := 1) (v := ?_) rfl (by kernel_rfl) (by kernel_rfl) (by kernel_rfl) (fun _ _ _ h => h) (Or.inl ⟨by rfl, ?_⟩) (by assumption) ?_
        rotate_left
        · intro w_ hSw; (try dsimp only at hSw); have f0 := hSw.2; clear hSw; (try clear hHeld); go_simp <;> with_reducible rfl
        try simp only [Act.put, List.setIfInBounds_toArray, List.set_cons_zero, List.set_cons_succ, List.getElem_toArray, List.getElem_cons_zero, List.getElem_cons_succ]
        refine wpAnyH_take (i := 2) (v := ?_) rfl (by kernel_rfl) (by kernel_rfl) (by kernel_rfl) (fun _ _ _ h => h) (Or.inl ⟨by rfl, ?_⟩) (by assumption) ?_
        rotate_left
        · intro w_ hSw; (try dsimp only at hSw); have f0 := hSw.2; clear hSw; (try clear hHeld); go_simp <;> with_reducible rfl
        try simp only [Act.put, List.setIfInBounds_toArray, List.set_cons_zero, List.set_cons_succ, List.getElem_toArray, List.getElem_cons_zero, List.getElem_cons_succ]
        refine wpAnyH_take (i := 3) (v := ?_) rfl (by kernel_rfl) (by kernel_rfl) (by kernel_rfl) (fun _ _ _ h => h) (Or.inl ⟨by rfl, ?_⟩) (by assumption) ?_
        rotate_left
        · intro w_ hSw; (try dsimp only at hSw); have f0 := hSw.2; clear hSw; (try clear hHeld); go_simp <;> with_reducible rfl
        try simp only [Act.put, List.setIfInBounds_toArray, List.set_cons_zero, List.set_cons_succ, List.getElem_toArray, List.getElem_cons_zero, List.getElem_cons_succ]
        refine wpAnyH_take (i := 4) (v := ?_) rfl (by kernel_rfl) (by kernel_rfl) (by kernel_rfl) (fun _ _ _ h => h) (Or.inl ⟨by rfl, ?_⟩) (by assumption) ?_
        rotate_left
        · intro w_ hSw; (try dsimp only at hSw); have f0 := hSw.2; clear hSw; (try clear hHeld); go_simp <;> with_reducible rfl
        try simp only [Act.put, List.setIfInBounds_toArray, List.set_cons_zero, List.set_cons_succ, List.getElem_toArray, List.getElem_cons_zero, List.getElem_cons_succ]
        refine wpAnyH_take (i := 5) (v := ?_) rfl (by kernel_rfl) (by kernel_rfl) (by kernel_rfl) (fun _ _ _ h => h) (Or.inl ⟨by rfl, ?_⟩) (by assumption) ?_
        rotate_left
        · intro w_ hSw; (try dsimp only at hSw); have f0 := hSw.2; clear hSw; (try clear hHeld); go_simp <;> with_reducible rfl
        try simp only [Act.put, List.setIfInBounds_toArray, List.set_cons_zero, List.set_cons_succ, List.getElem_toArray, List.getElem_cons_zero, List.getElem_cons_succ]
        refine wpAnyH_ready (rs := [6, 10]) (by kernel_rfl) (by simp) ?_
        refine AllReadyH.cons rfl (fun J hJ => ?_) (AllReadyH.cons rfl (fun J hJ => ?_) AllReadyH.nil)
        · go_simp
          refine (pressAllS' mj q.i.ks q.K hxo.1 M l2 ql HM.out HQL.out (by omega) _).mono ?_
          rintro e w2 ⟨g2, c2, rfl, ho2, hb2⟩
          have HK2 : SLt X mj ⟨gz, oz + j * 3 + 1, none⟩ q.K w2 := ⟨row_on HK.1 hb2, (hb2.cell (p := ⟨gz, oz + j * 3 + 1, none⟩) (World.block_lt_of_cell? v0 ⟨gz, oz + j * 3 + 1, none⟩ HK.2)).trans HK.2⟩
          have HB2 : Hid (Below w.heap.size w w2) := bel_on (Nat.le_refl _) HB5.out hb2
          have HO2 : Hid (OwnA w2 (X + 1) (some ⟨g2, 0, none⟩) ql c2 l2) := (show OwnA w2 _ (some ⟨g2, 0, none⟩) ql c2 l2 from ho2).mono hXv
          clear hb2 ho2 HB5
          (try go_wp2_with fail)
          refine hJ.out _ _ HK2 (fun hHeld2 => ?_)
          clear hJ J hHeld HK
          try simp only [Act.put, List.setIfInBounds_toArray, List.set_cons_zero, List.set_cons_succ, List.getElem_toArray, List.getElem_cons_zero, List.getElem_cons_succ]
          refine wpAnyH_take (i := 7) (v := ?_) rfl (by kernel_rfl) (by kernel_rfl) (by kernel_rfl) (fun _ _ _ h => h) (Or.inl ⟨by rfl, ?_⟩) (by assumption) ?_
          rotate_left
          · intro w_ hSw; (try dsimp only at hSw); have f0 := hSw.2; clear hSw; (try clear hHeld2); go_simp <;> with_reducible rfl
          try simp only [Act.put, List.setIfInBounds_toArray, List.set_cons_zero, List.set_cons_succ, List.getElem_toArray, List.getElem_cons_zero, List.getElem_cons_succ]
          refine wpAnyH_take (i := 8) (v := ?_) rfl (by kernel_rfl) (by kernel_rfl) (by kernel_rfl) (fun _ _ _ h => h) (Or.inl ⟨by rfl, ?_⟩) (by assumption) ?_
          rotate_left
          · intro w_ hSw; (try dsimp only at hSw); have f0 := hSw.2; clear hSw; (try clear hHeld2); go_simp <;> with_reducible rfl
          try simp only [Act.put, List.setIfInBounds_toArray, List.set_cons_zero, List.set_cons_succ, List.getElem_toArray, List.getElem_cons_zero, List.getElem_cons_succ]
          refine wpAnyH_take (i := 9) (v := ?_) rfl (by kernel_rfl) (by kernel_rfl) (by kernel_rfl) (fun _ _ _ h => h) (Or.inl ⟨by rfl, ?_⟩) (by assumption) ?_
          rotate_left
          · intro w_ hSw; (try dsimp only at hSw); have f0 := hSw.2; clear hSw; (try clear hHeld2); go_simp <;> with_reducible rfl
          try simp only [Act.put, List.setIfInBounds_toArray, List.set_cons_zero, List.set_cons_succ, List.getElem_toArray, List.getElem_cons_zero, List.getElem_cons_succ]
          refine wpAnyH_ready (rs := [10]) (by kernel_rfl) (by simp) ?_
          refine AllReadyH.cons rfl (fun J hJ => ?_) AllReadyH.nil
          go_simp
          have HK3 : SLt X mj ⟨gz, oz + j * 3 + 1, none⟩ q.K (w2.alloc (.cells #[.int .i64 0, .bool false, .int .i64 0, .int .i64 0, .string ⟨#[]⟩] 32)) := ⟨row_on HK2.1 (alM _ _), ((alM w2 (.cells #[.int .i64 0, .bool false, .int .i64 0, .int .i64 0, .string ⟨#[]⟩] 32)).cell (p := ⟨gz, oz + j * 3 + 1, none⟩) (World.block_lt_of_cell? w2 ⟨gz, oz + j * 3 + 1, none⟩ HK2.2)).trans HK2.2⟩
          have HY3 : Hid ((w2.alloc (.cells #[.int .i64 0, .bool false, .int .i64 0, .int .i64 0, .string ⟨#[]⟩] 32)).heap[w2.heap.size]? = some (.cells #[.int .i64 0, .bool false, .int .i64 0, .int .i64 0, .string ⟨#[]⟩] 32)) := heap_new w2 _
          have HB3 : Hid (Below w.heap.size w (w2.alloc (.cells #[.int .i64 0, .bool false, .int .i64 0, .int .i64 0, .string ⟨#[]⟩] 32))) := bel_on (Nat.le_refl _) HB2.out (alM _ _)
          have HO3 : Hid (OwnA (w2.alloc (.cells #[.int .i64 0, .bool false, .int .i64 0, .int .i64 0, .string ⟨#[]⟩] 32)) (X + 1) (some ⟨g2, 0, none⟩) ql c2 l2) := HO2.out.on (alM _ _)
          have hXY : X < w2.heap.size := row_lt HK2.1
          have hgY : gz < w2.heap.size := World.block_lt_of_cell? w2 ⟨gz, oz + j * 3 + 1, none⟩ HK2.2
          have hgO : g2 < w2.heap.size := own_lt HO2.out g2 rfl
          refine hJ.out _ _ HK3 (fun hHeld3 => ?_)
          clear hJ J hHeld2 HK2 HB2 HO2
          try simp only [Act.put, List.setIfInBounds_toArray, List.set_cons_zero, List.set_cons_succ, List.getElem_toArray, List.getElem_cons_zero, List.getElem_cons_succ]
          generalize w2.alloc (.cells #[.int .i64 0, .bool false, .int .i64 0, .int .i64 0, .string ⟨#[]⟩] 32) = w3 at *
          generalize w2.heap.size = Y at *
          refine wpAnyH_ready (rs := [11]) (by kernel_rfl) (by simp) ?_
          refine AllReadyH.cons rfl (fun J hJ => ?_) AllReadyH.nil
          refine storeR_any rfl rfl _ _ _ rfl Y #[.int .i64 M.a, .bool M.b, .int .i64 M.n, .int .i64 M.d, .string ⟨M.s.toArray⟩] rfl rfl (by kernel_rfl) (by kernel_rfl) HY3.out rfl ?_
          intro w4 hput
          have HK4 : SLt X mj ⟨gz, oz + j * 3 + 1, none⟩ q.K w4 := ⟨hput.far HK3.1 (by omega), by
            have h := HK3.2
            unfold World.cell? at h ⊢
            rw [hput.2.1 gz (by omega)]
            exact h⟩
          have HY4 : Hid (w4.heap[Y]? = some (.cells #[.int .i64 M.a, .bool M.b, .int .i64 M.n, .int .i64 M.d, .string ⟨M.s.toArray⟩] 32)) := hput.1
          have HX4 : Hid (w4.heap[X]? = some (.cells #[.int .i64 mj.a, .bool mj.b, .int .i64 mj.n, .int .i64 mj.d, .string ⟨mj.s.toArray⟩] 32)) := HK4.1
          have HB4 : Hid (Below w.heap.size w w4) := hput.2.2.2 _ _ (by omega) HB3.out
          have HO4 : Hid (OwnA w4 (X + 1) (some ⟨g2, 0, none⟩) ql c2 l2) := own_putM HO3.out hput (fun g e => ne_own e (by omega))
          refine hJ.out _ _ HK4 (fun hHeld4 => ?_)
          clear hJ J hHeld3 HK3 HB3 HO3 HY3 hput
          try simp only [Act.put, List.setIfInBounds_toArray, List.set_cons_zero, List.set_cons_succ, List.getElem_toArray, List.getElem_cons_zero, List.getElem_cons_succ]
          refine wpAnyH_take (i := 12) (v := ?_) rfl (by kernel_rfl) (by kernel_rfl) (by kernel_rfl) (fun _ _ _ h => h) (Or.inl ⟨by rfl, ?_⟩) (by assumption) ?_
          rotate_left
          · intro w_ hSw; (try dsimp only at hSw); have f0 := hSw.2; clear hSw; (try clear hHeld4); go_simp <;> with_reducible rfl
          try simp only [Act.put, List.setIfInBounds_toArray, List.set_cons_zero, List.set_cons_succ, List.getElem_toArray, List.getElem_cons_zero, List.getElem_cons_succ]
          clear hHeld4 HK4
          refine wpAnyH_done (by kernel_rfl) ?_ _
          (try go_wp2_with fail)
          go_meet
          exact ⟨Y, g2, c2, rfl, rfl, hXY, HY4, HX4, HB4, HO4⟩
        · go_simp
          have HK2 : SLt X mj ⟨gz, oz + j * 3 + 1, none⟩ q.K (v0.alloc (.cells #[.int .i64 0, .bool false, .int .i64 0, .int .i64 0, .string ⟨#[]⟩] 32)) := ⟨row_on HK.1 (alM _ _), ((alM v0 (.cells #[.int .i64 0, .bool false, .int .i64 0, .int .i64 0, .string ⟨#[]⟩] 32)).cell (p := ⟨gz, oz + j * 3 + 1, none⟩) (World.block_lt_of_cell? v0 ⟨gz, oz + j * 3 + 1, none⟩ HK.2)).trans HK.2⟩
          have HY2 : Hid ((v0.alloc (.cells #[.int .i64 0, .bool false, .int .i64 0, .int .i64 0, .string ⟨#[]⟩] 32)).heap[v0.heap.size]? = some (.cells #[.int .i64 0, .bool false, .int .i64 0, .int .i64 0, .string ⟨#[]⟩] 32)) := heap_new v0 _
          have HB2 : Hid (Below w.heap.size w (v0.alloc (.cells #[.int .i64 0, .bool false, .int .i64 0, .int .i64 0, .string ⟨#[]⟩] 32))) := bel_on (Nat.le_refl _) HB5.out (alM _ _)
          have hXY : X < v0.heap.size := row_lt HK.1
          have hgY : gz < v0.heap.size := World.block_lt_of_cell? v0 ⟨gz, oz + j * 3 + 1, none⟩ HK.2
          have hsz2 : (v0.alloc (.cells #[.int .i64 0, .bool false, .int .i64 0, .int .i64 0, .string ⟨#[]⟩] 32)).heap.size = v0.heap.size + 1 := by simp
          refine hJ.out _ _ HK2 (fun hHeld2 => ?_)
          clear hJ J hHeld HK HB5
          try simp only [Act.put, List.setIfInBounds_toArray, List.set_cons_zero, List.set_cons_succ, List.getElem_toArray, List.getElem_cons_zero, List.getElem_cons_succ]
          generalize v0.alloc (.cells #[.int .i64 0, .bool false, .int .i64 0, .int .i64 0, .string ⟨#[]⟩] 32) = w2 at *
          generalize v0.heap.size = Y at *
          refine wpAnyH_ready (rs := [6]) (by kernel_rfl) (by simp) ?_
          refine AllReadyH.cons rfl (fun J hJ => ?_) AllReadyH.nil
          go_simp
          refine (pressAllS' mj q.i.ks q.K hxo.1 M l2 ql HM.out HQL.out (by omega) _).mono ?_
          rintro e w3 ⟨g2, c2, rfl, ho2, hb2⟩
          have HK3 : SLt X mj ⟨gz, oz + j * 3 + 1, none⟩ q.K w3 := ⟨row_on HK2.1 hb2, (hb2.cell (p := ⟨gz, oz + j * 3 + 1, none⟩) (World.block_lt_of_cell? w2 ⟨gz, oz + j * 3 + 1, none⟩ HK2.2)).trans HK2.2⟩
          have HY3 : Hid (w3.heap[Y]? = some (.cells #[.int .i64 0, .bool false, .int .i64 0, .int .i64 0, .string ⟨#[]⟩] 32)) := row_on HY2.out hb2
          have HB3 : Hid (Below w.heap.size w w3) := bel_on (Nat.le_refl _) HB2.out hb2
          have hgO : w2.heap.size ≤ g2 := own_ge ho2 g2 rfl
          have HO3 : Hid (OwnA w3 (X + 1) (some ⟨g2, 0, none⟩) ql c2 l2) := (show OwnA w3 _ (some ⟨g2, 0, none⟩) ql c2 l2 from ho2).mono (by omega)
          clear hb2 ho2 HB2 HY2
          (try go_wp2_with fail)
          refine hJ.out _ _ HK3 (fun hHeld3 => ?_)
          clear hJ J hHeld2 HK2
          try simp only [Act.put, List.setIfInBounds_toArray, List.set_cons_zero, List.set_cons_succ, List.getElem_toArray, List.getElem_cons_zero, List.getElem_cons_succ]
          refine wpAnyH_take (i := 7) (v := ?_) rfl (by kernel_rfl) (by kernel_rfl) (by kernel_rfl) (fun _ _ _ h => h) (Or.inl ⟨by rfl, ?_⟩) (by assumption) ?_
          rotate_left
          · intro w_ hSw; (try dsimp only at hSw); have f0 := hSw.2; clear hSw; (try clear hHeld3); go_simp <;> with_reducible rfl
          try simp only [Act.put, List.setIfInBounds_toArray, List.set_cons_zero, List.set_cons_succ, List.getElem_toArray, List.getElem_cons_zero, List.getElem_cons_succ]
          refine wpAnyH_take (i := 8) (v := ?_) rfl (by kernel_rfl) (by kernel_rfl) (by kernel_rfl) (fun _ _ _ h => h) (Or.inl ⟨by rfl, ?_⟩) (by assumption) ?_
          rotate_left
          · intro w_ hSw; (try dsimp only at hSw); have f0 := hSw.2; clear hSw; (try clear hHeld3); go_simp <;> with_reducible rfl
          try simp only [Act.put, List.setIfInBounds_toArray, List.set_cons_zero, List.set_cons_succ, List.getElem_toArray, List.getElem_cons_zero, List.getElem_cons_succ]
          refine wpAnyH_take (i := 9) (v := ?_) rfl (by kernel_rfl) (by kernel_rfl) (by kernel_rfl) (fun _ _ _ h => h) (Or.inl ⟨by rfl, ?_⟩) (by assumption) ?_
          rotate_left
          · intro w_ hSw; (try dsimp only at hSw); have f0 := hSw.2; clear hSw; (try clear hHeld3); go_simp <;> with_reducible rfl
          try simp only [Act.put, List.setIfInBounds_toArray, List.set_cons_zero, List.set_cons_succ, List.getElem_toArray, List.getElem_cons_zero, List.getElem_cons_succ]
          refine wpAnyH_ready (rs := [11]) (by kernel_rfl) (by simp) ?_
          refine AllReadyH.cons rfl (fun J hJ => ?_) AllReadyH.nil
          refine storeR_any rfl rfl _ _ _ rfl Y #[.int .i64 M.a, .bool M.b, .int .i64 M.n, .int .i64 M.d, .string ⟨M.s.toArray⟩] rfl rfl (by kernel_rfl) (by kernel_rfl) HY3.out rfl ?_
          intro w4 hput
          have HK4 : SLt X mj ⟨gz, oz + j * 3 + 1, none⟩ q.K w4 := ⟨hput.far HK3.1 (by omega), by
            have h := HK3.2
            unfold World.cell? at h ⊢
            rw [hput.2.1 gz (by omega)]
            exact h⟩
          have HY4 : Hid (w4.heap[Y]? = some (.cells #[.int .i64 M.a, .bool M.b, .int .i64 M.n, .int .i64 M.d, .string ⟨M.s.toArray⟩] 32)) := hput.1
          have HX4 : Hid (w4.heap[X]? = some (.cells #[.int .i64 mj.a, .bool mj.b, .int .i64 mj.n, .int .i64 mj.d, .string ⟨mj.s.toArray⟩] 32)) := HK4.1
          have HB4 : Hid (Below w.heap.size w w4) := hput.2.2.2 _ _ (by omega) HB3.out
          have HO4 : Hid (OwnA w4 (X + 1) (some ⟨g2, 0, none⟩) ql c2 l2) := own_putM HO3.out hput (fun g e => ne_own e (by omega))
          refine hJ.out _ _ HK4 (fun hHeld4 => ?_)
          clear hJ J hHeld3 HK3 HB3 HO3 HY3 hput
          try simp only [Act.put, List.setIfInBounds_toArray, List.set_cons_zero, List.set_cons_succ, List.getElem_toArray, List.getElem_cons_zero, List.getElem_cons_succ]
          refine wpAnyH_take (i := 12) (v := ?_) rfl (by kernel_rfl) (by kernel_rfl) (by kernel_rfl) (fun _ _ _ h => h) (Or.inl ⟨by rfl, ?_⟩) (by assumption) ?_
          rotate_left
          · intro w_ hSw; (try dsimp only at hSw); have f0 := hSw.2; clear hSw; (try clear hHeld4); go_simp <;> with_reducible rfl
          try simp only [Act.put, List.setIfInBounds_toArray, List.set_cons_zero, List.set_cons_succ, List.getElem_toArray, List.getElem_cons_zero, List.getElem_cons_succ]
          clear hHeld4 HK4
          refine wpAnyH_done (by kernel_rfl) ?_ _
          (try go_wp2_with fail)
          go_meet
          exact ⟨Y, g2, c2, rfl, rfl, hXY, HY4, HX4, HB4, HO4⟩
      case rest =>
        obtain ⟨Y, g2, c2, rfl, rfl, hXY, HY, HX4, HB4, HO4⟩ := hcut
        clear z1 HX HB hXr
        obtain ⟨w5, hw5⟩ : ∃ w5, wc = w5 := ⟨_, rfl⟩
        rw [hw5] at HY HX4 HB4 HO4 ⊢
        clear hw5
        have hXg : X ≠ g2 := by have := own_ge HO4.out g2 rfl; omega
        go_wp2_with (first | refine wpList_load_row rfl _ _ rfl Y rfl _ _ _ _ HY.out Tryz.underlying32 rfl (by kernel_rfl) ?_ | refine listStoreM rfl rfl _ _ _ rfl rfl X M.a M.b M.n M.d ⟨M.s.toArray⟩ rfl rfl HX4.out ?_)
        intro w6 hput
        have HX6 : Hid (w6.heap[X]? = some (.cells #[.int .i64 M.a, .bool M.b, .int .i64 M.n, .int .i64 M.d, .string ⟨M.s.toArray⟩] 32)) := hput.1
        have HB6 : Hid (Below w.heap.size w w6) := hput.2.2.2 _ _ hXw HB4.out
        have HO6 : Hid (OwnA w6 (X + 1) (some ⟨g2, 0, none⟩) ql c2 l2) := own_putM HO4.out hput (fun g e => ne_own e (by omega))
        have z2 := HZ2.out w6 HB6.out
        clear hput HY HX4 HB4 HO4 hXY hXg
        go_wp2_with fail
        refine (readoS q.L (by have := hxo.2.2.2.2; omega) _).mono ?_
        rintro e w7 ⟨k, n, d, v, b, rfl, hro, hb7⟩
        unfold ordV
        dsimp only
        have HLO : Hid ((b = true ∧ q.i.lo = [(k, n, d, v)]) ∨ (b = false ∧ q.i.lo = [])) := link_os hxo hro
        obtain ⟨V, hV⟩ : ∃ V, w7.heap.size = V := ⟨_, rfl⟩
        obtain ⟨W8, hW8⟩ : ∃ W8, w7.alloc (.cells #[.int .i64 k, .int .i64 n, .int .i64 d, .int .i64 v] 82) = W8 := ⟨_, rfl⟩
        have hba : Below w7.heap.size w7 W8 := by rw [← hW8]; exact alM _ _
        have HV8 : Hid (W8.heap[V]? = some (.cells #[.int .i64 k, .int .i64 n, .int .i64 d, .int .i64 v] 82)) := by rw [← hW8, ← hV]; exact heap_new w7 _
        have HX8 : Hid (W8.heap[X]? = some (.cells #[.int .i64 M.a, .bool M.b, .int .i64 M.n, .int .i64 M.d, .string ⟨M.s.toArray⟩] 32)) := row_on (row_on HX6.out hb7) hba
        have HB8 : Hid (Below w.heap.size w W8) := bel_on (Nat.le_refl _) (bel_on (Nat.le_refl _) HB6.out hb7) hba
        have HO8 : Hid (OwnA W8 (X + 1) (some ⟨g2, 0, none⟩) ql c2 l2) := (HO6.out.on hb7).on hba
        have hX8 : X < W8.heap.size := row_lt HX8.out
        clear hro hb7 hba HX6 HB6 HO6 z2
        go_upto_region 11 with fail
        (try rw [hW8])
        (try rw [hV])
        clear hW8 hV
        go_upto_if 46 with fail
        go_cut [9] (fun v9 wd => ∃ (g3 c3 qn : Nat), v9 = .slice (some ⟨g3, 0, none⟩) qn c3 ∧ Hid ((osJ (icS ys) j q.i).length = qn) ∧ Hid (OwnA wd (X + 1) (some ⟨g3, 0, none⟩) qn c3 (osJ (icS ys) j q.i)) ∧ Hid (wd.heap[X]? = some (.cells #[.int .i64 M.a, .bool M.b, .int .i64 M.n, .int .i64 M.d, .string ⟨M.s.toArray⟩] 32)) ∧ Hid (Below w.heap.size w wd))
        case first =>
          rcases HLO.out with ⟨rfl, hlo⟩ | ⟨rfl, hlo⟩
          · have HOE : Hid (l2 ++ [(k, n, d, v)] = osJ (icS ys) j q.i) := by show _ = _; rw [HOS.out, hlo]
            have y8 := (box4_cells HV8.out).1
            have HX9 : Hid ((W8.alloc (.cells #[.int .i64 k, .int .i64 n, .int .i64 d, .int .i64 v] 82)).heap[X]? = some (.cells #[.int .i64 M.a, .bool M.b, .int .i64 M.n, .int .i64 M.d, .string ⟨M.s.toArray⟩] 32)) := row_on HX8.out (alM _ _)
            have HB9 : Hid (Below w.heap.size w (W8.alloc (.cells #[.int .i64 k, .int .i64 n, .int .i64 d, .int .i64 v] 82))) := bel_on (Nat.le_refl _) HB8.out (alM _ _)
            have HO9 : Hid (OwnA (W8.alloc (.cells #[.int .i64 k, .int .i64 n, .int .i64 d, .int .i64 v] 82)) (X + 1) (some ⟨g2, 0, none⟩) ql c2 l2) := HO8.out.on (alM _ _)
            have HR9 : Hid (RdQ (W8.alloc (.cells #[.int .i64 k, .int .i64 n, .int .i64 d, .int .i64 v] 82)) (some ⟨W8.heap.size, 0, none⟩) [(k, n, d, v)]) := (one_rowQ W8 k n d v).rd
            have hsz9 : X + 1 ≤ (W8.alloc (.cells #[.int .i64 k, .int .i64 n, .int .i64 d, .int .i64 v] 82)).heap.size := row_lt HX9.out
            clear hlo HX8 HB8 HO8 HV8 HLO
            go_wp2_with (refine listA rfl (.tmp 47) (.tmp 49) rfl (X + 1) ql c2 (some ⟨g2, 0, none⟩) l2 ⟨W8.heap.size, 0, none⟩ (k, n, d, v) rfl rfl HO9.out HR9.out (by omega) hsz9 ?_)
            intro g3 c3 w10 hown hgr
            have hX10 : X ≠ g2 := by have := own_ge HO9.out g2 rfl; omega
            have hwg : w.heap.size ≤ g2 := by have := own_ge HO9.out g2 rfl; omega
            have HX10 : Hid (w10.heap[X]? = some (.cells #[.int .i64 M.a, .bool M.b, .int .i64 M.n, .int .i64 M.d, .string ⟨M.s.toArray⟩] 32)) := (hgr.block X (row_lt HX9.out) (fun e => by have := Option.some.inj e; exact hX10 this)).trans HX9.out
            have HB10 : Hid (Below w.heap.size w w10) := HB9.out.grown hgr HB9.out.size (fun m hm => by have : g2 = m := Option.some.inj hm; omega)
            have HO10 : Hid (OwnA w10 (X + 1) (some ⟨g3, 0, none⟩) (ql + 1) c3 (osJ (icS ys) j q.i)) := by show OwnA _ _ _ _ _ _; rw [← HOE.out]; exact hown
            have HQN : Hid ((osJ (icS ys) j q.i).length = ql + 1) := HO10.out.len
            clear hown hgr HX9 HB9 HO9 HR9 y8 hsz9 hX10 hwg
            (try go_wp2)
            go_meet
            exact ⟨g3, c3, ql + 1, rfl, HQN, HO10, HX10, HB10⟩
          · have HOE : Hid (l2 = osJ (icS ys) j q.i) := by show _ = _; rw [HOS.out, hlo, List.append_nil]
            have HO10 : Hid (OwnA W8 (X + 1) (some ⟨g2, 0, none⟩) ql c2 (osJ (icS ys) j q.i)) := by show OwnA _ _ _ _ _ _; rw [← HOE.out]; exact HO8.out
            have HQN : Hid ((osJ (icS ys) j q.i).length = ql) := HO10.out.len
            clear hlo HO8 HV8 HLO
            go_wp2
            go_meet
            exact ⟨g2, c2, ql, rfl, HQN, HO10, HX8, HB8⟩
        case rest =>
          obtain ⟨g3, c3, qn, rfl, HQN, HO, HX9, HB9⟩ := hcut
          clear HX8 HB8 HO8 HV8 hX8 HLO
          obtain ⟨w11, hw11⟩ : ∃ w11, wc = w11 := ⟨_, rfl⟩
          rw [hw11] at HO HX9 HB9 ⊢
          clear hw11
          have hqn : qn ≤ 1000 := by
            have h1 := HQN.out
            have h2 := HOS.out
            have h3 := HQL.out
            have h4 := lo_len hxo.ic
            rw [h2, List.length_append] at h1
            omega
          obtain ⟨os, hos⟩ : ∃ os, osJ (icS ys) j q.i = os := ⟨_, rfl⟩
          have HSN : Hid (snJ (icS ys) j q.i = os.any (fun o => o.1 == 5)) := by show _ = _; unfold snJ; rw [hos]
          rw [hos] at HO HQN
          have HRQ : Hid (RdQ w11 (some ⟨g3, 0, none⟩) os) := HO.out.own.rd
          clear hos HO HOS
          go_wp2_with fail
          go_loopw [12, 13] (fun sv iv wr2 => ∃ (i : Nat) (s : Bool), i ≤ qn ∧ sv = .bool s ∧ iv = .int .i64 i ∧ wr2 = w11 ∧ Hid (AnyS os i s)) (fun _ iv _ => qn - (intOf iv).toNat)
          case atStart => exact ⟨0, false, Nat.zero_le _, rfl, rfl, rfl, (rfl : AnyS os 0 false)⟩
          case round =>
            obtain ⟨i, s, hi, rfl, rfl, rfl, HS⟩ := hrel
            by_cases hin : i < qn
            · have hio : i < os.length := by rw [HQN.out]; exact hin
              obtain ⟨g4, o4, e4, hcq⟩ := HRQ.out (by omega)
              cases e4
              obtain ⟨x0, hx0⟩ : ∃ x, os[i].1 = x := ⟨_, rfl⟩
              have d0 := (hcq i hio).1
              rw [hx0, Nat.zero_add] at d0
              have HS2 : Hid (AnyS os (i + 1) (s || (x0 == 5))) := by
                show (s || (x0 == 5)) = (os.take (i + 1)).any (fun o => o.1 == 5)
                rw [List.take_succ_eq_append_getElem hio, List.any_append, ← (show s = _ from HS.out)]
                simp [hx0]
              have r0 : (0 : Int) ≤ (i : Int) := by omega
              have r1 : (i : Int) < (qn : Int) := by omega
              have r2 : IntKind.i64.wrap ((i : Int) + 1) = (i : Int) + 1 := wrap_in (by omega) (by omega)
              clear hcq hx0 hio HS
              cases s
              · have HS3 : Hid (AnyS os (i + 1) (x0 == 5)) := by have h := HS2.out; rwa [Bool.false_or] at h
                clear HS2
                go_wp2
                go_roundw
                case rel => exact ⟨i + 1, (x0 == 5), by omega, by simp, by go_num, trivial, HS3⟩
                case measure => simp [intOf]; omega
              · have HS3 : Hid (AnyS os (i + 1) true) := by have h := HS2.out; rwa [Bool.true_or] at h
                clear HS2
                go_wp2
                go_roundw
                case rel => exact ⟨i + 1, true, by omega, rfl, by go_num, trivial, HS3⟩
                case measure => simp [intOf]; omega
            · obtain rfl : i = qn := by omega
              have hsn : s = snJ (icS ys) j q.i := by rw [show s = _ from HS.out, HSN.out, List.take_of_length_le (by have := HQN.out; omega)]
              have r1 : ¬ (i : Int) < (i : Int) := by omega
              have c1 := HC1.out _ HB9.out
              have z0 := HZ0.out _ HB9.out
              have haa : (A1 != A1) = false := by simp
              rw [← hsn] at hor2
              clear HS HSN HRQ HQN hsn
              have HXN := HX9
              rw [← HMN.out] at HXN
              clear HX9
              (try clear HOK); (try clear HN); (try clear HRY); (try clear HRZ); (try clear HC1); (try clear HZ0); (try clear HZ1); (try clear HZ2); (try clear HM); (try clear HQL); (try clear HMN); (try clear HQ); (try clear hxo); (try clear hks); (try clear hqlb); (try clear hqn); (try clear HA)
              cases s
              · go_upto_region 18 with fail
                have HSb : SBt ⟨gz, oz + j * 3, none⟩ ⟨g, off + j * 3 + 1, none⟩ q.i.b A1 (World.drew _) := ⟨z0, c1⟩
                have HXd : Hid ((World.drew _).heap[X]? = some _) := HXN.out
                have HBd : Hid (Below w.heap.size w (World.drew _)) := HB9.out.drew
                clear z0 c1 HXN HB9
                refine wp_region_held_drew (S := fun w' => SBt ⟨gz, oz + j * 3, none⟩ ⟨g, off + j * 3 + 1, none⟩ q.i.b A1 w') (by kernel_rfl) HSb (fun hHeld => ?_)
                refine wpAnyH_take (i := 0) (v := ?_) rfl (by kernel_rfl) (by kernel_rfl) (by kernel_rfl) (fun _ _ _ h => h) (Or.inl ⟨by rfl, ?_⟩) (by assumption) ?_
                rotate_left
                · intro w_ hSw; obtain ⟨f0, f1⟩ := hSw; (try clear hHeld); go_simp <;> with_reducible rfl
                try simp only [Act.put, List.setIfInBounds_toArray, List.set_cons_zero, List.set_cons_succ, List.getElem_toArray, List.getElem_cons_zero, List.getElem_cons_succ]
                refine wpAnyH_take (i := 1) (v := ?_) rfl (by kernel_rfl) (by kernel_rfl) (by kernel_rfl) (fun _ _ _ h => h) (Or.inl ⟨by rfl, ?_⟩) (by assumption) ?_
                rotate_left
                · intro w_ hSw; obtain ⟨f0, f1⟩ := hSw; (try clear hHeld); go_simp <;> with_reducible rfl
                try simp only [Act.put, List.setIfInBounds_toArray, List.set_cons_zero, List.set_cons_succ, List.getElem_toArray, List.getElem_cons_zero, List.getElem_cons_succ]
                refine wpAnyH_take (i := 2) (v := ?_) rfl (by kernel_rfl) (by kernel_rfl) (by kernel_rfl) (fun _ _ _ h => h) (Or.inl ⟨by rfl, ?_⟩) (by assumption) ?_
                rotate_left
                · intro w_ hSw; obtain ⟨f0, f1⟩ := hSw; (try clear hHeld); go_simp <;> with_reducible rfl
                try simp only [Act.put, List.setIfInBounds_toArray, List.set_cons_zero, List.set_cons_succ, List.getElem_toArray, List.getElem_cons_zero, List.getElem_cons_succ]
                refine wpAnyH_take (i := 3) (v := ?_) rfl (by kernel_rfl) (by kernel_rfl) (by kernel_rfl) (fun _ _ _ h => h) (Or.inl ⟨by rfl, ?_⟩) (by assumption) ?_
                rotate_left
                · intro w_ hSw; obtain ⟨f0, f1⟩ := hSw; (try clear hHeld); go_simp <;> with_reducible rfl
                try simp only [Act.put, List.setIfInBounds_toArray, List.set_cons_zero, List.set_cons_succ, List.getElem_toArray, List.getElem_cons_zero, List.getElem_cons_succ]
                refine wpAnyH_take (i := 4) (v := ?_) rfl (by kernel_rfl) (by kernel_rfl) (by kernel_rfl) (fun _ _ _ h => h) (Or.inl ⟨by rfl, ?_⟩) (by assumption) ?_
                rotate_left
                · intro w_ hSw; obtain ⟨f0, f1⟩ := hSw; (try clear hHeld); go_simp <;> with_reducible rfl
                try simp only [Act.put, List.setIfInBounds_toArray, List.set_cons_zero, List.set_cons_succ, List.getElem_toArray, List.getElem_cons_zero, List.getElem_cons_succ]
                refine wpAnyH_ready (rs := [5]) (by kernel_rfl) (by simp) ?_
                refine AllReadyH.cons rfl (fun J hJ => ?_) AllReadyH.nil
                go_simp
                refine (G.H.senseS q.i.b true (decide_eq_true hbb) _).mono ?_
                rintro e w9 ⟨rfl, rfl⟩
                (try go_wp2_with fail)
                refine hJ.out _ _ HSb (fun hHeld1 => ?_)
                clear hJ J hHeld
                try simp only [Act.put, List.setIfInBounds_toArray, List.set_cons_zero, List.set_cons_succ, List.getElem_toArray, List.getElem_cons_zero, List.getElem_cons_succ]
                refine wpAnyH_take (i := 6) (v := ?_) rfl (by kernel_rfl) (by kernel_rfl) (by kernel_rfl) (fun _ _ _ h => h) (Or.inl ⟨by rfl, ?_⟩) (by assumption) ?_
                rotate_left
                · intro w_ hSw; obtain ⟨f0, f1⟩ := hSw; (try clear hHeld1); go_simp <;> with_reducible rfl
                try simp only [Act.put, List.setIfInBounds_toArray, List.set_cons_zero, List.set_cons_succ, List.getElem_toArray, List.getElem_cons_zero, List.getElem_cons_succ]
                refine wpAnyH_take (i := 7) (v := ?_) rfl (by kernel_rfl) (by kernel_rfl) (by kernel_rfl) (fun _ _ _ h => h) (Or.inl ⟨by rfl, ?_⟩) (by assumption) ?_
                rotate_left
                · intro w_ hSw; obtain ⟨f0, f1⟩ := hSw; (try clear hHeld1); go_simp <;> with_reducible rfl
                try simp only [Act.put, List.setIfInBounds_toArray, List.set_cons_zero, List.set_cons_succ, List.getElem_toArray, List.getElem_cons_zero, List.getElem_cons_succ]
                refine wpAnyH_take (i := 8) (v := ?_) rfl (by kernel_rfl) (by kernel_rfl) (by kernel_rfl) (fun _ _ _ h => h) (Or.inl ⟨by rfl, ?_⟩) (by assumption) ?_
                rotate_left
                · intro w_ hSw; obtain ⟨f0, f1⟩ := hSw; (try clear hHeld1); go_simp <;> with_reducible rfl
                try simp only [Act.put, List.setIfInBounds_toArray, List.set_cons_zero, List.set_cons_succ, List.getElem_toArray, List.getElem_cons_zero, List.getElem_cons_succ]
                refine wpAnyH_take (i := 9) (v := ?_) rfl (by kernel_rfl) (by kernel_rfl) (by kernel_rfl) (fun _ _ _ h => h) (Or.inl ⟨by rfl, ?_⟩) (by assumption) ?_
                rotate_left
                · intro w_ hSw; obtain ⟨f0, f1⟩ := hSw; (try clear hHeld1); go_simp <;> with_reducible rfl
                try simp only [Act.put, List.setIfInBounds_toArray, List.set_cons_zero, List.set_cons_succ, List.getElem_toArray, List.getElem_cons_zero, List.getElem_cons_succ]
                refine wpAnyH_take (i := 10) (v := ?_) rfl (by kernel_rfl) (by kernel_rfl) (by kernel_rfl) (fun _ _ _ h => h) (Or.inl ⟨by rfl, ?_⟩) (by assumption) ?_
                rotate_left
                · intro w_ hSw; obtain ⟨f0, f1⟩ := hSw; (try clear hHeld1); go_simp <;> with_reducible rfl
                try simp only [Act.put, List.setIfInBounds_toArray, List.set_cons_zero, List.set_cons_succ, List.getElem_toArray, List.getElem_cons_zero, List.getElem_cons_succ]
                refine wpAnyH_take (i := 11) (v := ?_) rfl (by kernel_rfl) (by kernel_rfl) (by kernel_rfl) (fun _ _ _ h => h) (Or.inl ⟨by rfl, ?_⟩) (by assumption) ?_
                rotate_left
                · intro w_ hSw; obtain ⟨f0, f1⟩ := hSw; (try clear hHeld1); go_simp <;> with_reducible rfl
                try simp only [Act.put, List.setIfInBounds_toArray, List.set_cons_zero, List.set_cons_succ, List.getElem_toArray, List.getElem_cons_zero, List.getElem_cons_succ]
                refine wpAnyH_take (i := 12) (v := ?_) rfl (by kernel_rfl) (by kernel_rfl) (by kernel_rfl) (fun _ _ _ h => h) (Or.inl ⟨by rfl, ?_⟩) (by assumption) ?_
                rotate_left
                · intro w_ hSw; obtain ⟨f0, f1⟩ := hSw; (try clear hHeld1); go_simp <;> with_reducible rfl
                try simp only [Act.put, List.setIfInBounds_toArray, List.set_cons_zero, List.set_cons_succ, List.getElem_toArray, List.getElem_cons_zero, List.getElem_cons_succ]
                refine wpAnyH_ready (rs := [13]) (by kernel_rfl) (by simp) ?_
                refine AllReadyH.cons rfl (fun J hJ => ?_) AllReadyH.nil
                go_simp
                refine (G.H.senseS A1 true (decide_eq_true hab) _).mono ?_
                rintro e w9 ⟨rfl, rfl⟩
                (try go_wp2_with fail)
                refine hJ.out _ _ HSb (fun hHeld2 => ?_)
                clear hJ J hHeld1
                try simp only [Act.put, List.setIfInBounds_toArray, List.set_cons_zero, List.set_cons_succ, List.getElem_toArray, List.getElem_cons_zero, List.getElem_cons_succ]
                refine wpAnyH_take (i := 14) (v := ?_) rfl (by kernel_rfl) (by kernel_rfl) (by kernel_rfl) (fun _ _ _ h => h) (Or.inl ⟨by rfl, ?_⟩) (by assumption) ?_
                rotate_left
                · intro w_ hSw; obtain ⟨f0, f1⟩ := hSw; (try clear hHeld2); go_simp <;> with_reducible rfl
                try simp only [Act.put, List.setIfInBounds_toArray, List.set_cons_zero, List.set_cons_succ, List.getElem_toArray, List.getElem_cons_zero, List.getElem_cons_succ]
                refine wpAnyH_take (i := 15) (v := ?_) rfl (by kernel_rfl) (by kernel_rfl) (by kernel_rfl) (fun _ _ _ h => h) (Or.inl ⟨by rfl, ?_⟩) (by assumption) ?_
                rotate_left
                · intro w_ hSw; obtain ⟨f0, f1⟩ := hSw; (try clear hHeld2); go_simp <;> with_reducible rfl
                try simp only [Act.put, List.setIfInBounds_toArray, List.set_cons_zero, List.set_cons_succ, List.getElem_toArray, List.getElem_cons_zero, List.getElem_cons_succ]
                refine wpAnyH_take (i := 16) (v := ?_) rfl (by kernel_rfl) (by kernel_rfl) (by kernel_rfl) (fun _ _ _ h => h) (Or.inl ⟨by rfl, ?_⟩) (by assumption) ?_
                rotate_left
                · intro w_ hSw; obtain ⟨f0, f1⟩ := hSw; (try clear hHeld2); go_simp <;> with_reducible rfl
                try simp only [Act.put, List.setIfInBounds_toArray, List.set_cons_zero, List.set_cons_succ, List.getElem_toArray, List.getElem_cons_zero, List.getElem_cons_succ]
                refine wpAnyH_take (i := 17) (v := ?_) rfl (by kernel_rfl) (by kernel_rfl) (by kernel_rfl) (fun _ _ _ h => h) (Or.inl ⟨by rfl, ?_⟩) (by assumption) ?_
                rotate_left
                · intro w_ hSw; obtain ⟨f0, f1⟩ := hSw; (try clear hHeld2); go_simp <;> with_reducible rfl
                try simp only [Act.put, List.setIfInBounds_toArray, List.set_cons_zero, List.set_cons_succ, List.getElem_toArray, List.getElem_cons_zero, List.getElem_cons_succ]
                refine wpAnyH_take (i := 18) (v := ?_) rfl (by kernel_rfl) (by kernel_rfl) (by kernel_rfl) (fun _ _ _ h => h) (Or.inl ⟨by rfl, ?_⟩) (by assumption) ?_
                rotate_left
                · intro w_ hSw; obtain ⟨f0, f1⟩ := hSw; (try clear hHeld2); go_simp <;> with_reducible rfl
                try simp only [Act.put, List.setIfInBounds_toArray, List.set_cons_zero, List.set_cons_succ, List.getElem_toArray, List.getElem_cons_zero, List.getElem_cons_succ]
                refine wpAnyH_take (i := 19) (v := ?_) rfl (by kernel_rfl) (by kernel_rfl) (by kernel_rfl) (fun _ _ _ h => h) (Or.inl ⟨by rfl, ?_⟩) (by assumption) ?_
                rotate_left
                · intro w_ hSw; obtain ⟨f0, f1⟩ := hSw; (try clear hHeld2); go_simp <;> with_reducible rfl
                try simp only [Act.put, List.setIfInBounds_toArray, List.set_cons_zero, List.set_cons_succ, List.getElem_toArray, List.getElem_cons_zero, List.getElem_cons_succ]
                refine wpAnyH_take (i := 20) (v := ?_) rfl (by kernel_rfl) (by kernel_rfl) (by kernel_rfl) (fun _ _ _ h => h) (Or.inl ⟨by rfl, ?_⟩) (by assumption) ?_
                rotate_left
                · intro w_ hSw; obtain ⟨f0, f1⟩ := hSw; (try clear hHeld2); go_simp <;> with_reducible rfl
                try simp only [Act.put, List.setIfInBounds_toArray, List.set_cons_zero, List.set_cons_succ, List.getElem_toArray, List.getElem_cons_zero, List.getElem_cons_succ]
                refine wpAnyH_take (i := 21) (v := ?_) rfl (by kernel_rfl) (by kernel_rfl) (by kernel_rfl) (fun _ _ _ h => h) (Or.inl ⟨by rfl, ?_⟩) (by assumption) ?_
                rotate_left
                · intro w_ hSw; obtain ⟨f0, f1⟩ := hSw; (try clear hHeld2); go_simp <;> with_reducible rfl
                try simp only [Act.put, List.setIfInBounds_toArray, List.set_cons_zero, List.set_cons_succ, List.getElem_toArray, List.getElem_cons_zero, List.getElem_cons_succ]
                refine wpAnyH_take (i := 22) (v := ?_) rfl (by kernel_rfl) (by kernel_rfl) (by kernel_rfl) (fun _ _ _ h => h) (Or.inl ⟨by rfl, ?_⟩) (by assumption) ?_
                rotate_left
                · intro w_ hSw; obtain ⟨f0, f1⟩ := hSw; (try clear hHeld2); go_simp <;> with_reducible rfl
                try simp only [Act.put, List.setIfInBounds_toArray, List.set_cons_zero, List.set_cons_succ, List.getElem_toArray, List.getElem_cons_zero, List.getElem_cons_succ]
                refine wpAnyH_take (i := 23) (v := ?_) rfl (by kernel_rfl) (by kernel_rfl) (by kernel_rfl) (fun _ _ _ h => h) (Or.inl ⟨by rfl, ?_⟩) (by assumption) ?_
                rotate_left
                · intro w_ hSw; obtain ⟨f0, f1⟩ := hSw; (try clear hHeld2); go_simp <;> with_reducible rfl
                try simp only [Act.put, List.setIfInBounds_toArray, List.set_cons_zero, List.set_cons_succ, List.getElem_toArray, List.getElem_cons_zero, List.getElem_cons_succ]
                refine wpAnyH_take (i := 24) (v := ?_) rfl (by kernel_rfl) (by kernel_rfl) (by kernel_rfl) (fun _ _ _ h => h) (Or.inl ⟨by rfl, ?_⟩) (by assumption) ?_
                rotate_left
                · intro w_ hSw; obtain ⟨f0, f1⟩ := hSw; (try clear hHeld2); go_simp <;> with_reducible rfl
                try simp only [Act.put, List.setIfInBounds_toArray, List.set_cons_zero, List.set_cons_succ, List.getElem_toArray, List.getElem_cons_zero, List.getElem_cons_succ]
                refine wpAnyH_take (i := 25) (v := ?_) rfl (by kernel_rfl) (by kernel_rfl) (by kernel_rfl) (fun _ _ _ h => h) (Or.inl ⟨by rfl, ?_⟩) (by assumption) ?_
                rotate_left
                · intro w_ hSw; obtain ⟨f0, f1⟩ := hSw; (try clear hHeld2); go_simp <;> with_reducible rfl
                try simp only [Act.put, List.setIfInBounds_toArray, List.set_cons_zero, List.set_cons_succ, List.getElem_toArray, List.getElem_cons_zero, List.getElem_cons_succ]
                refine wpAnyH_take (i := 26) (v := ?_) rfl (by kernel_rfl) (by kernel_rfl) (by kernel_rfl) (fun _ _ _ h => h) (Or.inl ⟨by rfl, ?_⟩) (by assumption) ?_
                rotate_left
                · intro w_ hSw; obtain ⟨f0, f1⟩ := hSw; (try clear hHeld2); go_simp <;> with_reducible rfl
                try simp only [Act.put, List.setIfInBounds_toArray, List.set_cons_zero, List.set_cons_succ, List.getElem_toArray, List.getElem_cons_zero, List.getElem_cons_succ]
                refine wpAnyH_take (i := 28) (v := ?_) rfl (by kernel_rfl) (by kernel_rfl) (by kernel_rfl) (fun _ _ _ h => h) (Or.inl ⟨by rfl, ?_⟩) (by assumption) ?_
                rotate_left
                · intro w_ hSw; obtain ⟨f0, f1⟩ := hSw; (try clear hHeld2); go_simp <;> with_reducible rfl
                try simp only [Act.put, List.setIfInBounds_toArray, List.set_cons_zero, List.set_cons_succ, List.getElem_toArray, List.getElem_cons_zero, List.getElem_cons_succ]
                refine wpAnyH_take (i := 29) (v := ?_) rfl (by kernel_rfl) (by kernel_rfl) (by kernel_rfl) (fun _ _ _ h => h) (Or.inl ⟨by rfl, ?_⟩) (by assumption) ?_
                rotate_left
                · intro w_ hSw; obtain ⟨f0, f1⟩ := hSw; (try clear hHeld2); go_simp <;> with_reducible rfl
                try simp only [Act.put, List.setIfInBounds_toArray, List.set_cons_zero, List.set_cons_succ, List.getElem_toArray, List.getElem_cons_zero, List.getElem_cons_succ]
                refine wpAnyH_take (i := 30) (v := ?_) rfl (by kernel_rfl) (by kernel_rfl) (by kernel_rfl) (fun _ _ _ h => h) (Or.inl ⟨by rfl, ?_⟩) (by assumption) ?_
                rotate_left
                · intro w_ hSw; obtain ⟨f0, f1⟩ := hSw; (try clear hHeld2); go_simp <;> with_reducible rfl
                try simp only [Act.put, List.setIfInBounds_toArray, List.set_cons_zero, List.set_cons_succ, List.getElem_toArray, List.getElem_cons_zero, List.getElem_cons_succ]
                refine wpAnyH_take (i := 31) (v := ?_) rfl (by kernel_rfl) (by kernel_rfl) (by kernel_rfl) (fun _ _ _ h => h) (Or.inl ⟨by rfl, ?_⟩) (by assumption) ?_
                rotate_left
                · intro w_ hSw; obtain ⟨f0, f1⟩ := hSw; (try clear hHeld2); go_simp <;> with_reducible rfl
                try simp only [Act.put, List.setIfInBounds_toArray, List.set_cons_zero, List.set_cons_succ, List.getElem_toArray, List.getElem_cons_zero, List.getElem_cons_succ]
                refine wpAnyH_take (i := 32) (v := ?_) rfl (by kernel_rfl) (by kernel_rfl) (by kernel_rfl) (fun _ _ _ h => h) (Or.inl ⟨by rfl, ?_⟩) (by assumption) ?_
                rotate_left
                · intro w_ hSw; obtain ⟨f0, f1⟩ := hSw; (try clear hHeld2); go_simp <;> with_reducible rfl
                try simp only [Act.put, List.setIfInBounds_toArray, List.set_cons_zero, List.set_cons_succ, List.getElem_toArray, List.getElem_cons_zero, List.getElem_cons_succ]
                refine wpAnyH_ready (rs := [27]) (by kernel_rfl) (by simp) ?_
                refine AllReadyH.cons rfl (fun J hJ => ?_) AllReadyH.nil
                go_simp
                refine (G.bothS A1 q.i.b hab hbb A1 hor1 _).mono ?_
                rintro e w9 ⟨rfl, rfl⟩
                (try go_wp2_with fail)
                refine hJ.out _ _ HSb (fun hHeld3 => ?_)
                clear hJ J hHeld2
                try simp only [Act.put, List.setIfInBounds_toArray, List.set_cons_zero, List.set_cons_succ, List.getElem_toArray, List.getElem_cons_zero, List.getElem_cons_succ]
                refine wpAnyH_take (i := 33) (v := ?_) rfl (by kernel_rfl) (by kernel_rfl) (by kernel_rfl) (fun _ _ _ h => h) (Or.inl ⟨by rfl, ?_⟩) (by assumption) ?_
                rotate_left
                · intro w_ hSw; obtain ⟨f0, f1⟩ := hSw; (try clear hHeld3); go_simp <;> with_reducible rfl
                try simp only [Act.put, List.setIfInBounds_toArray, List.set_cons_zero, List.set_cons_succ, List.getElem_toArray, List.getElem_cons_zero, List.getElem_cons_succ]
                refine wpAnyH_take (i := 34) (v := ?_) rfl (by kernel_rfl) (by kernel_rfl) (by kernel_rfl) (fun _ _ _ h => h) (Or.inl ⟨by rfl, ?_⟩) (by assumption) ?_
                rotate_left
                · intro w_ hSw; obtain ⟨f0, f1⟩ := hSw; (try clear hHeld3); go_simp <;> with_reducible rfl
                try simp only [Act.put, List.setIfInBounds_toArray, List.set_cons_zero, List.set_cons_succ, List.getElem_toArray, List.getElem_cons_zero, List.getElem_cons_succ]
                refine wpAnyH_take (i := 35) (v := ?_) rfl (by kernel_rfl) (by kernel_rfl) (by kernel_rfl) (fun _ _ _ h => h) (Or.inl ⟨by rfl, ?_⟩) (by assumption) ?_
                rotate_left
                · intro w_ hSw; obtain ⟨f0, f1⟩ := hSw; (try clear hHeld3); go_simp <;> with_reducible rfl
                try simp only [Act.put, List.setIfInBounds_toArray, List.set_cons_zero, List.set_cons_succ, List.getElem_toArray, List.getElem_cons_zero, List.getElem_cons_succ]
                refine wpAnyH_take (i := 36) (v := ?_) rfl (by kernel_rfl) (by kernel_rfl) (by kernel_rfl) (fun _ _ _ h => h) (Or.inl ⟨by rfl, ?_⟩) (by assumption) ?_
                rotate_left
                · intro w_ hSw; obtain ⟨f0, f1⟩ := hSw; (try clear hHeld3); go_simp <;> with_reducible rfl
                try simp only [Act.put, List.setIfInBounds_toArray, List.set_cons_zero, List.set_cons_succ, List.getElem_toArray, List.getElem_cons_zero, List.getElem_cons_succ]
                refine wpAnyH_take (i := 37) (v := ?_) rfl (by kernel_rfl) (by kernel_rfl) (by kernel_rfl) (fun _ _ _ h => h) (Or.inl ⟨by rfl, ?_⟩) (by assumption) ?_
                rotate_left
                · intro w_ hSw; obtain ⟨f0, f1⟩ := hSw; (try clear hHeld3); go_simp <;> with_reducible rfl
                try simp only [Act.put, List.setIfInBounds_toArray, List.set_cons_zero, List.set_cons_succ, List.getElem_toArray, List.getElem_cons_zero, List.getElem_cons_succ]
                refine wpAnyH_take (i := 38) (v := ?_) rfl (by kernel_rfl) (by kernel_rfl) (by kernel_rfl) (fun _ _ _ h => h) (Or.inl ⟨by rfl, ?_⟩) (by assumption) ?_
                rotate_left
                · intro w_ hSw; obtain ⟨f0, f1⟩ := hSw; (try clear hHeld3); go_simp <;> with_reducible rfl
                try simp only [Act.put, List.setIfInBounds_toArray, List.set_cons_zero, List.set_cons_succ, List.getElem_toArray, List.getElem_cons_zero, List.getElem_cons_succ]
                refine wpAnyH_take (i := 39) (v := ?_) rfl (by kernel_rfl) (by kernel_rfl) (by kernel_rfl) (fun _ _ _ h => h) (Or.inl ⟨by rfl, ?_⟩) (by assumption) ?_
                rotate_left
                · intro w_ hSw; obtain ⟨f0, f1⟩ := hSw; (try clear hHeld3); go_simp <;> with_reducible rfl
                try simp only [Act.put, List.setIfInBounds_toArray, List.set_cons_zero, List.set_cons_succ, List.getElem_toArray, List.getElem_cons_zero, List.getElem_cons_succ]
                refine wpAnyH_take (i := 40) (v := ?_) rfl (by kernel_rfl) (by kernel_rfl) (by kernel_rfl) (fun _ _ _ h => h) (Or.inl ⟨by rfl, ?_⟩) (by assumption) ?_
                rotate_left
                · intro w_ hSw; obtain ⟨f0, f1⟩ := hSw; (try clear hHeld3); go_simp <;> with_reducible rfl
                try simp only [Act.put, List.setIfInBounds_toArray, List.set_cons_zero, List.set_cons_succ, List.getElem_toArray, List.getElem_cons_zero, List.getElem_cons_succ]
                refine wpAnyH_take (i := 41) (v := ?_) rfl (by kernel_rfl) (by kernel_rfl) (by kernel_rfl) (fun _ _ _ h => h) (Or.inl ⟨by rfl, ?_⟩) (by assumption) ?_
                rotate_left
                · intro w_ hSw; obtain ⟨f0, f1⟩ := hSw; (try clear hHeld3); go_simp <;> with_reducible rfl
                try simp only [Act.put, List.setIfInBounds_toArray, List.set_cons_zero, List.set_cons_succ, List.getElem_toArray, List.getElem_cons_zero, List.getElem_cons_succ]
                refine wpAnyH_take (i := 42) (v := ?_) rfl (by kernel_rfl) (by kernel_rfl) (by kernel_rfl) (fun _ _ _ h => h) (Or.inl ⟨by rfl, ?_⟩) (by assumption) ?_
                rotate_left
                · intro w_ hSw; obtain ⟨f0, f1⟩ := hSw; (try clear hHeld3); go_simp <;> with_reducible rfl
                try simp only [Act.put, List.setIfInBounds_toArray, List.set_cons_zero, List.set_cons_succ, List.getElem_toArray, List.getElem_cons_zero, List.getElem_cons_succ]
                refine wpAnyH_take (i := 43) (v := ?_) rfl (by kernel_rfl) (by kernel_rfl) (by kernel_rfl) (fun _ _ _ h => h) (Or.inl ⟨by rfl, ?_⟩) (by assumption) ?_
                rotate_left
                · intro w_ hSw; obtain ⟨f0, f1⟩ := hSw; (try clear hHeld3); go_simp <;> with_reducible rfl
                try simp only [Act.put, List.setIfInBounds_toArray, List.set_cons_zero, List.set_cons_succ, List.getElem_toArray, List.getElem_cons_zero, List.getElem_cons_succ]
                refine wpAnyH_take (i := 44) (v := ?_) rfl (by kernel_rfl) (by kernel_rfl) (by kernel_rfl) (fun _ _ _ h => h) (Or.inl ⟨by rfl, ?_⟩) (by assumption) ?_
                rotate_left
                · intro w_ hSw; obtain ⟨f0, f1⟩ := hSw; (try clear hHeld3); go_simp <;> with_reducible rfl
                try simp only [Act.put, List.setIfInBounds_toArray, List.set_cons_zero, List.set_cons_succ, List.getElem_toArray, List.getElem_cons_zero, List.getElem_cons_succ]
                refine wpAnyH_take (i := 46) (v := ?_) rfl (by kernel_rfl) (by kernel_rfl) (by kernel_rfl) (fun _ _ _ h => h) (Or.inl ⟨by rfl, ?_⟩) (by assumption) ?_
                rotate_left
                · intro w_ hSw; obtain ⟨f0, f1⟩ := hSw; (try clear hHeld3); go_simp <;> with_reducible rfl
                try simp only [Act.put, List.setIfInBounds_toArray, List.set_cons_zero, List.set_cons_succ, List.getElem_toArray, List.getElem_cons_zero, List.getElem_cons_succ]
                refine wpAnyH_take (i := 47) (v := ?_) rfl (by kernel_rfl) (by kernel_rfl) (by kernel_rfl) (fun _ _ _ h => h) (Or.inl ⟨by rfl, ?_⟩) (by assumption) ?_
                rotate_left
                · intro w_ hSw; obtain ⟨f0, f1⟩ := hSw; (try clear hHeld3); go_simp <;> with_reducible rfl
                try simp only [Act.put, List.setIfInBounds_toArray, List.set_cons_zero, List.set_cons_succ, List.getElem_toArray, List.getElem_cons_zero, List.getElem_cons_succ]
                refine wpAnyH_take (i := 48) (v := ?_) rfl (by kernel_rfl) (by kernel_rfl) (by kernel_rfl) (fun _ _ _ h => h) (Or.inl ⟨by rfl, ?_⟩) (by assumption) ?_
                rotate_left
                · intro w_ hSw; obtain ⟨f0, f1⟩ := hSw; (try clear hHeld3); go_simp <;> with_reducible rfl
                try simp only [Act.put, List.setIfInBounds_toArray, List.set_cons_zero, List.set_cons_succ, List.getElem_toArray, List.getElem_cons_zero, List.getElem_cons_succ]
                refine wpAnyH_take (i := 49) (v := ?_) rfl (by kernel_rfl) (by kernel_rfl) (by kernel_rfl) (fun _ _ _ h => h) (Or.inl ⟨by rfl, ?_⟩) (by assumption) ?_
                rotate_left
                · intro w_ hSw; obtain ⟨f0, f1⟩ := hSw; (try clear hHeld3); go_simp <;> with_reducible rfl
                try simp only [Act.put, List.setIfInBounds_toArray, List.set_cons_zero, List.set_cons_succ, List.getElem_toArray, List.getElem_cons_zero, List.getElem_cons_succ]
                refine wpAnyH_take (i := 50) (v := ?_) rfl (by kernel_rfl) (by kernel_rfl) (by kernel_rfl) (fun _ _ _ h => h) (Or.inl ⟨by rfl, ?_⟩) (by assumption) ?_
                rotate_left
                · intro w_ hSw; obtain ⟨f0, f1⟩ := hSw; (try clear hHeld3); go_simp <;> with_reducible rfl
                try simp only [Act.put, List.setIfInBounds_toArray, List.set_cons_zero, List.set_cons_succ, List.getElem_toArray, List.getElem_cons_zero, List.getElem_cons_succ]
                refine wpAnyH_ready (rs := [45]) (by kernel_rfl) (by simp) ?_
                refine AllReadyH.cons rfl (fun J hJ => ?_) AllReadyH.nil
                go_simp
                refine (G.bothS A1 A hab hpb A1 (by first | exact hor2 rfl | exact hor2 trivial | exact hor2) _).mono ?_
                rintro e w9 ⟨rfl, rfl⟩
                (try go_wp2_with fail)
                refine hJ.out _ _ HSb (fun hHeld4 => ?_)
                clear hJ J hHeld3
                try simp only [Act.put, List.setIfInBounds_toArray, List.set_cons_zero, List.set_cons_succ, List.getElem_toArray, List.getElem_cons_zero, List.getElem_cons_succ]
                refine wpAnyH_take (i := 51) (v := ?_) rfl (by kernel_rfl) (by kernel_rfl) (by kernel_rfl) (fun _ _ _ h => h) (Or.inl ⟨by rfl, ?_⟩) (by assumption) ?_
                rotate_left
                · intro w_ hSw; obtain ⟨f0, f1⟩ := hSw; (try clear hHeld4); go_simp <;> with_reducible rfl
                try simp only [Act.put, List.setIfInBounds_toArray, List.set_cons_zero, List.set_cons_succ, List.getElem_toArray, List.getElem_cons_zero, List.getElem_cons_succ]
                refine wpAnyH_take (i := 52) (v := ?_) rfl (by kernel_rfl) (by kernel_rfl) (by kernel_rfl) (fun _ _ _ h => h) (Or.inl ⟨by rfl, ?_⟩) (by assumption) ?_
                rotate_left
                · intro w_ hSw; obtain ⟨f0, f1⟩ := hSw; (try clear hHeld4); go_simp <;> with_reducible rfl
                try simp only [Act.put, List.setIfInBounds_toArray, List.set_cons_zero, List.set_cons_succ, List.getElem_toArray, List.getElem_cons_zero, List.getElem_cons_succ]
                refine wpAnyH_take (i := 53) (v := ?_) rfl (by kernel_rfl) (by kernel_rfl) (by kernel_rfl) (fun _ _ _ h => h) (Or.inl ⟨by rfl, ?_⟩) (by assumption) ?_
                rotate_left
                · intro w_ hSw; obtain ⟨f0, f1⟩ := hSw; (try clear hHeld4); go_simp <;> with_reducible rfl
                try simp only [Act.put, List.setIfInBounds_toArray, List.set_cons_zero, List.set_cons_succ, List.getElem_toArray, List.getElem_cons_zero, List.getElem_cons_succ]
                clear hHeld4
                have c1 := HSb.2
                clear HSb
                refine wpAnyH_done (by kernel_rfl) ?_ _
                go_wp2
                go_roundw
                case rel => exact ⟨j + 1, A1, by omega, rfl, by go_num, HA1.out.symm, HXd, HBd⟩
                case measure => simp [intOf]; omega
              · go_upto_region 18 with fail
                have HSb : SBt ⟨gz, oz + j * 3, none⟩ ⟨g, off + j * 3 + 1, none⟩ q.i.b A1 (World.drew _) := ⟨z0, c1⟩
                have HXd : Hid ((World.drew _).heap[X]? = some _) := HXN.out
                have HBd : Hid (Below w.heap.size w (World.drew _)) := HB9.out.drew
                clear z0 c1 HXN HB9
                refine wp_region_held_drew (S := fun w' => SBt ⟨gz, oz + j * 3, none⟩ ⟨g, off + j * 3 + 1, none⟩ q.i.b A1 w') (by kernel_rfl) HSb (fun hHeld => ?_)
                refine wpAnyH_take (i := 0) (v := ?_) rfl (by kernel_rfl) (by kernel_rfl) (by kernel_rfl) (fun _ _ _ h => h) (Or.inl ⟨by rfl, ?_⟩) (by assumption) ?_
                rotate_left
                · intro w_ hSw; obtain ⟨f0, f1⟩ := hSw; (try clear hHeld); go_simp <;> with_reducible rfl
                try simp only [Act.put, List.setIfInBounds_toArray, List.set_cons_zero, List.set_cons_succ, List.getElem_toArray, List.getElem_cons_zero, List.getElem_cons_succ]
                refine wpAnyH_take (i := 1) (v := ?_) rfl (by kernel_rfl) (by kernel_rfl) (by kernel_rfl) (fun _ _ _ h => h) (Or.inl ⟨by rfl, ?_⟩) (by assumption) ?_
                rotate_left
                · intro w_ hSw; obtain ⟨f0, f1⟩ := hSw; (try clear hHeld); go_simp <;> with_reducible rfl
                try simp only [Act.put, List.setIfInBounds_toArray, List.set_cons_zero, List.set_cons_succ, List.getElem_toArray, List.getElem_cons_zero, List.getElem_cons_succ]
                refine wpAnyH_take (i := 2) (v := ?_) rfl (by kernel_rfl) (by kernel_rfl) (by kernel_rfl) (fun _ _ _ h => h) (Or.inl ⟨by rfl, ?_⟩) (by assumption) ?_
                rotate_left
                · intro w_ hSw; obtain ⟨f0, f1⟩ := hSw; (try clear hHeld); go_simp <;> with_reducible rfl
                try simp only [Act.put, List.setIfInBounds_toArray, List.set_cons_zero, List.set_cons_succ, List.getElem_toArray, List.getElem_cons_zero, List.getElem_cons_succ]
                refine wpAnyH_take (i := 3) (v := ?_) rfl (by kernel_rfl) (by kernel_rfl) (by kernel_rfl) (fun _ _ _ h => h) (Or.inl ⟨by rfl, ?_⟩) (by assumption) ?_
                rotate_left
                · intro w_ hSw; obtain ⟨f0, f1⟩ := hSw; (try clear hHeld); go_simp <;> with_reducible rfl
                try simp only [Act.put, List.setIfInBounds_toArray, List.set_cons_zero, List.set_cons_succ, List.getElem_toArray, List.getElem_cons_zero, List.getElem_cons_succ]
                refine wpAnyH_take (i := 4) (v := ?_) rfl (by kernel_rfl) (by kernel_rfl) (by kernel_rfl) (fun _ _ _ h => h) (Or.inl ⟨by rfl, ?_⟩) (by assumption) ?_
                rotate_left
                · intro w_ hSw; obtain ⟨f0, f1⟩ := hSw; (try clear hHeld); go_simp <;> with_reducible rfl
                try simp only [Act.put, List.setIfInBounds_toArray, List.set_cons_zero, List.set_cons_succ, List.getElem_toArray, List.getElem_cons_zero, List.getElem_cons_succ]
                refine wpAnyH_ready (rs := [5]) (by kernel_rfl) (by simp) ?_
                refine AllReadyH.cons rfl (fun J hJ => ?_) AllReadyH.nil
                go_simp
                refine (G.H.senseS q.i.b true (decide_eq_true hbb) _).mono ?_
                rintro e w9 ⟨rfl, rfl⟩
                (try go_wp2_with fail)
                refine hJ.out _ _ HSb (fun hHeld1 => ?_)
                clear hJ J hHeld
                try simp only [Act.put, List.setIfInBounds_toArray, List.set_cons_zero, List.set_cons_succ, List.getElem_toArray, List.getElem_cons_zero, List.getElem_cons_succ]
                refine wpAnyH_take (i := 6) (v := ?_) rfl (by kernel_rfl) (by kernel_rfl) (by kernel_rfl) (fun _ _ _ h => h) (Or.inl ⟨by rfl, ?_⟩) (by assumption) ?_
                rotate_left
                · intro w_ hSw; obtain ⟨f0, f1⟩ := hSw; (try clear hHeld1); go_simp <;> with_reducible rfl
                try simp only [Act.put, List.setIfInBounds_toArray, List.set_cons_zero, List.set_cons_succ, List.getElem_toArray, List.getElem_cons_zero, List.getElem_cons_succ]
                refine wpAnyH_take (i := 7) (v := ?_) rfl (by kernel_rfl) (by kernel_rfl) (by kernel_rfl) (fun _ _ _ h => h) (Or.inl ⟨by rfl, ?_⟩) (by assumption) ?_
                rotate_left
                · intro w_ hSw; obtain ⟨f0, f1⟩ := hSw; (try clear hHeld1); go_simp <;> with_reducible rfl
                try simp only [Act.put, List.setIfInBounds_toArray, List.set_cons_zero, List.set_cons_succ, List.getElem_toArray, List.getElem_cons_zero, List.getElem_cons_succ]
                refine wpAnyH_take (i := 8) (v := ?_) rfl (by kernel_rfl) (by kernel_rfl) (by kernel_rfl) (fun _ _ _ h => h) (Or.inl ⟨by rfl, ?_⟩) (by assumption) ?_
                rotate_left
                · intro w_ hSw; obtain ⟨f0, f1⟩ := hSw; (try clear hHeld1); go_simp <;> with_reducible rfl
                try simp only [Act.put, List.setIfInBounds_toArray, List.set_cons_zero, List.set_cons_succ, List.getElem_toArray, List.getElem_cons_zero, List.getElem_cons_succ]
                refine wpAnyH_take (i := 9) (v := ?_) rfl (by kernel_rfl) (by kernel_rfl) (by kernel_rfl) (fun _ _ _ h => h) (Or.inl ⟨by rfl, ?_⟩) (by assumption) ?_
                rotate_left
                · intro w_ hSw; obtain ⟨f0, f1⟩ := hSw; (try clear hHeld1); go_simp <;> with_reducible rfl
                try simp only [Act.put, List.setIfInBounds_toArray, List.set_cons_zero, List.set_cons_succ, List.getElem_toArray, List.getElem_cons_zero, List.getElem_cons_succ]
                refine wpAnyH_take (i := 10) (v := ?_) rfl (by kernel_rfl) (by kernel_rfl) (by kernel_rfl) (fun _ _ _ h => h) (Or.inl ⟨by rfl, ?_⟩) (by assumption) ?_
                rotate_left
                · intro w_ hSw; obtain ⟨f0, f1⟩ := hSw; (try clear hHeld1); go_simp <;> with_reducible rfl
                try simp only [Act.put, List.setIfInBounds_toArray, List.set_cons_zero, List.set_cons_succ, List.getElem_toArray, List.getElem_cons_zero, List.getElem_cons_succ]
                refine wpAnyH_take (i := 11) (v := ?_) rfl (by kernel_rfl) (by kernel_rfl) (by kernel_rfl) (fun _ _ _ h => h) (Or.inl ⟨by rfl, ?_⟩) (by assumption) ?_
                rotate_left
                · intro w_ hSw; obtain ⟨f0, f1⟩ := hSw; (try clear hHeld1); go_simp <;> with_reducible rfl
                try simp only [Act.put, List.setIfInBounds_toArray, List.set_cons_zero, List.set_cons_succ, List.getElem_toArray, List.getElem_cons_zero, List.getElem_cons_succ]
                refine wpAnyH_take (i := 12) (v := ?_) rfl (by kernel_rfl) (by kernel_rfl) (by kernel_rfl) (fun _ _ _ h => h) (Or.inl ⟨by rfl, ?_⟩) (by assumption) ?_
                rotate_left
                · intro w_ hSw; obtain ⟨f0, f1⟩ := hSw; (try clear hHeld1); go_simp <;> with_reducible rfl
                try simp only [Act.put, List.setIfInBounds_toArray, List.set_cons_zero, List.set_cons_succ, List.getElem_toArray, List.getElem_cons_zero, List.getElem_cons_succ]
                refine wpAnyH_ready (rs := [13]) (by kernel_rfl) (by simp) ?_
                refine AllReadyH.cons rfl (fun J hJ => ?_) AllReadyH.nil
                go_simp
                refine (G.H.senseS A1 true (decide_eq_true hab) _).mono ?_
                rintro e w9 ⟨rfl, rfl⟩
                (try go_wp2_with fail)
                refine hJ.out _ _ HSb (fun hHeld2 => ?_)
                clear hJ J hHeld1
                try simp only [Act.put, List.setIfInBounds_toArray, List.set_cons_zero, List.set_cons_succ, List.getElem_toArray, List.getElem_cons_zero, List.getElem_cons_succ]
                refine wpAnyH_take (i := 14) (v := ?_) rfl (by kernel_rfl) (by kernel_rfl) (by kernel_rfl) (fun _ _ _ h => h) (Or.inl ⟨by rfl, ?_⟩) (by assumption) ?_
                rotate_left
                · intro w_ hSw; obtain ⟨f0, f1⟩ := hSw; (try clear hHeld2); go_simp <;> with_reducible rfl
                try simp only [Act.put, List.setIfInBounds_toArray, List.set_cons_zero, List.set_cons_succ, List.getElem_toArray, List.getElem_cons_zero, List.getElem_cons_succ]
                refine wpAnyH_take (i := 15) (v := ?_) rfl (by kernel_rfl) (by kernel_rfl) (by kernel_rfl) (fun _ _ _ h => h) (Or.inl ⟨by rfl, ?_⟩) (by assumption) ?_
                rotate_left
                · intro w_ hSw; obtain ⟨f0, f1⟩ := hSw; (try clear hHeld2); go_simp <;> with_reducible rfl
                try simp only [Act.put, List.setIfInBounds_toArray, List.set_cons_zero, List.set_cons_succ, List.getElem_toArray, List.getElem_cons_zero, List.getElem_cons_succ]
                refine wpAnyH_take (i := 16) (v := ?_) rfl (by kernel_rfl) (by kernel_rfl) (by kernel_rfl) (fun _ _ _ h => h) (Or.inl ⟨by rfl, ?_⟩) (by assumption) ?_
                rotate_left
                · intro w_ hSw; obtain ⟨f0, f1⟩ := hSw; (try clear hHeld2); go_simp <;> with_reducible rfl
                try simp only [Act.put, List.setIfInBounds_toArray, List.set_cons_zero, List.set_cons_succ, List.getElem_toArray, List.getElem_cons_zero, List.getElem_cons_succ]
                refine wpAnyH_take (i := 17) (v := ?_) rfl (by kernel_rfl) (by kernel_rfl) (by kernel_rfl) (fun _ _ _ h => h) (Or.inl ⟨by rfl, ?_⟩) (by assumption) ?_
                rotate_left
                · intro w_ hSw; obtain ⟨f0, f1⟩ := hSw; (try clear hHeld2); go_simp <;> with_reducible rfl
                try simp only [Act.put, List.setIfInBounds_toArray, List.set_cons_zero, List.set_cons_succ, List.getElem_toArray, List.getElem_cons_zero, List.getElem_cons_succ]
                refine wpAnyH_take (i := 18) (v := ?_) rfl (by kernel_rfl) (by kernel_rfl) (by kernel_rfl) (fun _ _ _ h => h) (Or.inl ⟨by rfl, ?_⟩) (by assumption) ?_
                rotate_left
                · intro w_ hSw; obtain ⟨f0, f1⟩ := hSw; (try clear hHeld2); go_simp <;> with_reducible rfl
                try simp only [Act.put, List.setIfInBounds_toArray, List.set_cons_zero, List.set_cons_succ, List.getElem_toArray, List.getElem_cons_zero, List.getElem_cons_succ]
                refine wpAnyH_take (i := 19) (v := ?_) rfl (by kernel_rfl) (by kernel_rfl) (by kernel_rfl) (fun _ _ _ h => h) (Or.inl ⟨by rfl, ?_⟩) (by assumption) ?_
                rotate_left
                · intro w_ hSw; obtain ⟨f0, f1⟩ := hSw; (try clear hHeld2); go_simp <;> with_reducible rfl
                try simp only [Act.put, List.setIfInBounds_toArray, List.set_cons_zero, List.set_cons_succ, List.getElem_toArray, List.getElem_cons_zero, List.getElem_cons_succ]
                refine wpAnyH_take (i := 20) (v := ?_) rfl (by kernel_rfl) (by kernel_rfl) (by kernel_rfl) (fun _ _ _ h => h) (Or.inl ⟨by rfl, ?_⟩) (by assumption) ?_
                rotate_left
                · intro w_ hSw; obtain ⟨f0, f1⟩ := hSw; (try clear hHeld2); go_simp <;> with_reducible rfl
                try simp only [Act.put, List.setIfInBounds_toArray, List.set_cons_zero, List.set_cons_succ, List.getElem_toArray, List.getElem_cons_zero, List.getElem_cons_succ]
                refine wpAnyH_take (i := 21) (v := ?_) rfl (by kernel_rfl) (by kernel_rfl) (by kernel_rfl) (fun _ _ _ h => h) (Or.inl ⟨by rfl, ?_⟩) (by assumption) ?_
                rotate_left
                · intro w_ hSw; obtain ⟨f0, f1⟩ := hSw; (try clear hHeld2); go_simp <;> with_reducible rfl
                try simp only [Act.put, List.setIfInBounds_toArray, List.set_cons_zero, List.set_cons_succ, List.getElem_toArray, List.getElem_cons_zero, List.getElem_cons_succ]
                refine wpAnyH_take (i := 22) (v := ?_) rfl (by kernel_rfl) (by kernel_rfl) (by kernel_rfl) (fun _ _ _ h => h) (Or.inl ⟨by rfl, ?_⟩) (by assumption) ?_
                rotate_left
                · intro w_ hSw; obtain ⟨f0, f1⟩ := hSw; (try clear hHeld2); go_simp <;> with_reducible rfl
                try simp only [Act.put, List.setIfInBounds_toArray, List.set_cons_zero, List.set_cons_succ, List.getElem_toArray, List.getElem_cons_zero, List.getElem_cons_succ]
                refine wpAnyH_take (i := 23) (v := ?_) rfl (by kernel_rfl) (by kernel_rfl) (by kernel_rfl) (fun _ _ _ h => h) (Or.inl ⟨by rfl, ?_⟩) (by assumption) ?_
                rotate_left
                · intro w_ hSw; obtain ⟨f0, f1⟩ := hSw; (try clear hHeld2); go_simp <;> with_reducible rfl
                try simp only [Act.put, List.setIfInBounds_toArray, List.set_cons_zero, List.set_cons_succ, List.getElem_toArray, List.getElem_cons_zero, List.getElem_cons_succ]
                refine wpAnyH_take (i := 24) (v := ?_) rfl (by kernel_rfl) (by kernel_rfl) (by kernel_rfl) (fun _ _ _ h => h) (Or.inl ⟨by rfl, ?_⟩) (by assumption) ?_
                rotate_left
                · intro w_ hSw; obtain ⟨f0, f1⟩ := hSw; (try clear hHeld2); go_simp <;> with_reducible rfl
                try simp only [Act.put, List.setIfInBounds_toArray, List.set_cons_zero, List.set_cons_succ, List.getElem_toArray, List.getElem_cons_zero, List.getElem_cons_succ]
                refine wpAnyH_take (i := 25) (v := ?_) rfl (by kernel_rfl) (by kernel_rfl) (by kernel_rfl) (fun _ _ _ h => h) (Or.inl ⟨by rfl, ?_⟩) (by assumption) ?_
                rotate_left
                · intro w_ hSw; obtain ⟨f0, f1⟩ := hSw; (try clear hHeld2); go_simp <;> with_reducible rfl
                try simp only [Act.put, List.setIfInBounds_toArray, List.set_cons_zero, List.set_cons_succ, List.getElem_toArray, List.getElem_cons_zero, List.getElem_cons_succ]
                refine wpAnyH_take (i := 26) (v := ?_) rfl (by kernel_rfl) (by kernel_rfl) (by kernel_rfl) (fun _ _ _ h => h) (Or.inl ⟨by rfl, ?_⟩) (by assumption) ?_
                rotate_left
                · intro w_ hSw; obtain ⟨f0, f1⟩ := hSw; (try clear hHeld2); go_simp <;> with_reducible rfl
                try simp only [Act.put, List.setIfInBounds_toArray, List.set_cons_zero, List.set_cons_succ, List.getElem_toArray, List.getElem_cons_zero, List.getElem_cons_succ]
                refine wpAnyH_take (i := 28) (v := ?_) rfl (by kernel_rfl) (by kernel_rfl) (by kernel_rfl) (fun _ _ _ h => h) (Or.inl ⟨by rfl, ?_⟩) (by assumption) ?_
                rotate_left
                · intro w_ hSw; obtain ⟨f0, f1⟩ := hSw; (try clear hHeld2); go_simp <;> with_reducible rfl
                try simp only [Act.put, List.setIfInBounds_toArray, List.set_cons_zero, List.set_cons_succ, List.getElem_toArray, List.getElem_cons_zero, List.getElem_cons_succ]
                refine wpAnyH_take (i := 29) (v := ?_) rfl (by kernel_rfl) (by kernel_rfl) (by kernel_rfl) (fun _ _ _ h => h) (Or.inl ⟨by rfl, ?_⟩) (by assumption) ?_
                rotate_left
                · intro w_ hSw; obtain ⟨f0, f1⟩ := hSw; (try clear hHeld2); go_simp <;> with_reducible rfl
                try simp only [Act.put, List.setIfInBounds_toArray, List.set_cons_zero, List.set_cons_succ, List.getElem_toArray, List.getElem_cons_zero, List.getElem_cons_succ]
                refine wpAnyH_take (i := 30) (v := ?_) rfl (by kernel_rfl) (by kernel_rfl) (by kernel_rfl) (fun _ _ _ h => h) (Or.inl ⟨by rfl, ?_⟩) (by assumption) ?_
                rotate_left
                · intro w_ hSw; obtain ⟨f0, f1⟩ := hSw; (try clear hHeld2); go_simp <;> with_reducible rfl
                try simp only [Act.put, List.setIfInBounds_toArray, List.set_cons_zero, List.set_cons_succ, List.getElem_toArray, List.getElem_cons_zero, List.getElem_cons_succ]
                refine wpAnyH_take (i := 31) (v := ?_) rfl (by kernel_rfl) (by kernel_rfl) (by kernel_rfl) (fun _ _ _ h => h) (Or.inl ⟨by rfl, ?_⟩) (by assumption) ?_
                rotate_left
                · intro w_ hSw; obtain ⟨f0, f1⟩ := hSw; (try clear hHeld2); go_simp <;> with_reducible rfl
                try simp only [Act.put, List.setIfInBounds_toArray, List.set_cons_zero, List.set_cons_succ, List.getElem_toArray, List.getElem_cons_zero, List.getElem_cons_succ]
                refine wpAnyH_take (i := 32) (v := ?_) rfl (by kernel_rfl) (by kernel_rfl) (by kernel_rfl) (fun _ _ _ h => h) (Or.inl ⟨by rfl, ?_⟩) (by assumption) ?_
                rotate_left
                · intro w_ hSw; obtain ⟨f0, f1⟩ := hSw; (try clear hHeld2); go_simp <;> with_reducible rfl
                try simp only [Act.put, List.setIfInBounds_toArray, List.set_cons_zero, List.set_cons_succ, List.getElem_toArray, List.getElem_cons_zero, List.getElem_cons_succ]
                refine wpAnyH_ready (rs := [27]) (by kernel_rfl) (by simp) ?_
                refine AllReadyH.cons rfl (fun J hJ => ?_) AllReadyH.nil
                go_simp
                refine (G.bothS A1 q.i.b hab hbb A1 hor1 _).mono ?_
                rintro e w9 ⟨rfl, rfl⟩
                (try go_wp2_with fail)
                refine hJ.out _ _ HSb (fun hHeld3 => ?_)
                clear hJ J hHeld2
                try simp only [Act.put, List.setIfInBounds_toArray, List.set_cons_zero, List.set_cons_succ, List.getElem_toArray, List.getElem_cons_zero, List.getElem_cons_succ]
                refine wpAnyH_take (i := 33) (v := ?_) rfl (by kernel_rfl) (by kernel_rfl) (by kernel_rfl) (fun _ _ _ h => h) (Or.inl ⟨by rfl, ?_⟩) (by assumption) ?_
                rotate_left
                · intro w_ hSw; obtain ⟨f0, f1⟩ := hSw; (try clear hHeld3); go_simp <;> with_reducible rfl
                try simp only [Act.put, List.setIfInBounds_toArray, List.set_cons_zero, List.set_cons_succ, List.getElem_toArray, List.getElem_cons_zero, List.getElem_cons_succ]
                refine wpAnyH_take (i := 34) (v := ?_) rfl (by kernel_rfl) (by kernel_rfl) (by kernel_rfl) (fun _ _ _ h => h) (Or.inl ⟨by rfl, ?_⟩) (by assumption) ?_
                rotate_left
                · intro w_ hSw; obtain ⟨f0, f1⟩ := hSw; (try clear hHeld3); go_simp <;> with_reducible rfl
                try simp only [Act.put, List.setIfInBounds_toArray, List.set_cons_zero, List.set_cons_succ, List.getElem_toArray, List.getElem_cons_zero, List.getElem_cons_succ]
                refine wpAnyH_take (i := 35) (v := ?_) rfl (by kernel_rfl) (by kernel_rfl) (by kernel_rfl) (fun _ _ _ h => h) (Or.inl ⟨by rfl, ?_⟩) (by assumption) ?_
                rotate_left
                · intro w_ hSw; obtain ⟨f0, f1⟩ := hSw; (try clear hHeld3); go_simp <;> with_reducible rfl
                try simp only [Act.put, List.setIfInBounds_toArray, List.set_cons_zero, List.set_cons_succ, List.getElem_toArray, List.getElem_cons_zero, List.getElem_cons_succ]
                refine wpAnyH_take (i := 36) (v := ?_) rfl (by kernel_rfl) (by kernel_rfl) (by kernel_rfl) (fun _ _ _ h => h) (Or.inl ⟨by rfl, ?_⟩) (by assumption) ?_
                rotate_left
                · intro w_ hSw; obtain ⟨f0, f1⟩ := hSw; (try clear hHeld3); go_simp <;> with_reducible rfl
                try simp only [Act.put, List.setIfInBounds_toArray, List.set_cons_zero, List.set_cons_succ, List.getElem_toArray, List.getElem_cons_zero, List.getElem_cons_succ]
                refine wpAnyH_take (i := 37) (v := ?_) rfl (by kernel_rfl) (by kernel_rfl) (by kernel_rfl) (fun _ _ _ h => h) (Or.inl ⟨by rfl, ?_⟩) (by assumption) ?_
                rotate_left
                · intro w_ hSw; obtain ⟨f0, f1⟩ := hSw; (try clear hHeld3); go_simp <;> with_reducible rfl
                try simp only [Act.put, List.setIfInBounds_toArray, List.set_cons_zero, List.set_cons_succ, List.getElem_toArray, List.getElem_cons_zero, List.getElem_cons_succ]
                refine wpAnyH_take (i := 38) (v := ?_) rfl (by kernel_rfl) (by kernel_rfl) (by kernel_rfl) (fun _ _ _ h => h) (Or.inl ⟨by rfl, ?_⟩) (by assumption) ?_
                rotate_left
                · intro w_ hSw; obtain ⟨f0, f1⟩ := hSw; (try clear hHeld3); go_simp <;> with_reducible rfl
                try simp only [Act.put, List.setIfInBounds_toArray, List.set_cons_zero, List.set_cons_succ, List.getElem_toArray, List.getElem_cons_zero, List.getElem_cons_succ]
                refine wpAnyH_take (i := 39) (v := undef) rfl (by kernel_rfl) (by kernel_rfl) (by kernel_rfl) (fun _ _ _ h => h) (Or.inr ⟨by rfl, rfl⟩) (by assumption) ?_
                try simp only [Act.put, List.setIfInBounds_toArray, List.set_cons_zero, List.set_cons_succ, List.getElem_toArray, List.getElem_cons_zero, List.getElem_cons_succ]
                refine wpAnyH_take (i := 40) (v := undef) rfl (by kernel_rfl) (by kernel_rfl) (by kernel_rfl) (fun _ _ _ h => h) (Or.inr ⟨by rfl, rfl⟩) (by assumption) ?_
                try simp only [Act.put, List.setIfInBounds_toArray, List.set_cons_zero, List.set_cons_succ, List.getElem_toArray, List.getElem_cons_zero, List.getElem_cons_succ]
                refine wpAnyH_take (i := 41) (v := undef) rfl (by kernel_rfl) (by kernel_rfl) (by kernel_rfl) (fun _ _ _ h => h) (Or.inr ⟨by rfl, rfl⟩) (by assumption) ?_
                try simp only [Act.put, List.setIfInBounds_toArray, List.set_cons_zero, List.set_cons_succ, List.getElem_toArray, List.getElem_cons_zero, List.getElem_cons_succ]
                refine wpAnyH_take (i := 42) (v := undef) rfl (by kernel_rfl) (by kernel_rfl) (by kernel_rfl) (fun _ _ _ h => h) (Or.inr ⟨by rfl, rfl⟩) (by assumption) ?_
                try simp only [Act.put, List.setIfInBounds_toArray, List.set_cons_zero, List.set_cons_succ, List.getElem_toArray, List.getElem_cons_zero, List.getElem_cons_succ]
                refine wpAnyH_take (i := 43) (v := undef) rfl (by kernel_rfl) (by kernel_rfl) (by kernel_rfl) (fun _ _ _ h => h) (Or.inr ⟨by rfl, rfl⟩) (by assumption) ?_
                try simp only [Act.put, List.setIfInBounds_toArray, List.set_cons_zero, List.set_cons_succ, List.getElem_toArray, List.getElem_cons_zero, List.getElem_cons_succ]
                refine wpAnyH_take (i := 44) (v := undef) rfl (by kernel_rfl) (by kernel_rfl) (by kernel_rfl) (fun _ _ _ h => h) (Or.inr ⟨by rfl, rfl⟩) (by assumption) ?_
                try simp only [Act.put, List.setIfInBounds_toArray, List.set_cons_zero, List.set_cons_succ, List.getElem_toArray, List.getElem_cons_zero, List.getElem_cons_succ]
                refine wpAnyH_take (i := 45) (v := undef) rfl (by kernel_rfl) (by kernel_rfl) (by kernel_rfl) (fun _ _ _ h => h) (Or.inr ⟨by rfl, rfl⟩) (by assumption) ?_
                try simp only [Act.put, List.setIfInBounds_toArray, List.set_cons_zero, List.set_cons_succ, List.getElem_toArray, List.getElem_cons_zero, List.getElem_cons_succ]
                refine wpAnyH_take (i := 46) (v := undef) rfl (by kernel_rfl) (by kernel_rfl) (by kernel_rfl) (fun _ _ _ h => h) (Or.inr ⟨by rfl, rfl⟩) (by assumption) ?_
                try simp only [Act.put, List.setIfInBounds_toArray, List.set_cons_zero, List.set_cons_succ, List.getElem_toArray, List.getElem_cons_zero, List.getElem_cons_succ]
                refine wpAnyH_take (i := 47) (v := undef) rfl (by kernel_rfl) (by kernel_rfl) (by kernel_rfl) (fun _ _ _ h => h) (Or.inr ⟨by rfl, rfl⟩) (by assumption) ?_
                try simp only [Act.put, List.setIfInBounds_toArray, List.set_cons_zero, List.set_cons_succ, List.getElem_toArray, List.getElem_cons_zero, List.getElem_cons_succ]
                refine wpAnyH_take (i := 48) (v := undef) rfl (by kernel_rfl) (by kernel_rfl) (by kernel_rfl) (fun _ _ _ h => h) (Or.inr ⟨by rfl, rfl⟩) (by assumption) ?_
                try simp only [Act.put, List.setIfInBounds_toArray, List.set_cons_zero, List.set_cons_succ, List.getElem_toArray, List.getElem_cons_zero, List.getElem_cons_succ]
                refine wpAnyH_take (i := 49) (v := undef) rfl (by kernel_rfl) (by kernel_rfl) (by kernel_rfl) (fun _ _ _ h => h) (Or.inr ⟨by rfl, rfl⟩) (by assumption) ?_
                try simp only [Act.put, List.setIfInBounds_toArray, List.set_cons_zero, List.set_cons_succ, List.getElem_toArray, List.getElem_cons_zero, List.getElem_cons_succ]
                refine wpAnyH_take (i := 50) (v := undef) rfl (by kernel_rfl) (by kernel_rfl) (by kernel_rfl) (fun _ _ _ h => h) (Or.inr ⟨by rfl, rfl⟩) (by assumption) ?_
                try simp only [Act.put, List.setIfInBounds_toArray, List.set_cons_zero, List.set_cons_succ, List.getElem_toArray, List.getElem_cons_zero, List.getElem_cons_succ]
                refine wpAnyH_take (i := 51) (v := undef) rfl (by kernel_rfl) (by kernel_rfl) (by kernel_rfl) (fun _ _ _ h => h) (Or.inr ⟨by rfl, rfl⟩) (by assumption) ?_
                try simp only [Act.put, List.setIfInBounds_toArray, List.set_cons_zero, List.set_cons_succ, List.getElem_toArray, List.getElem_cons_zero, List.getElem_cons_succ]
                refine wpAnyH_take (i := 52) (v := ?_) rfl (by kernel_rfl) (by kernel_rfl) (by kernel_rfl) (fun _ _ _ h => h) (Or.inl ⟨by rfl, ?_⟩) (by assumption) ?_
                rotate_left
                · intro w_ hSw; obtain ⟨f0, f1⟩ := hSw; (try clear hHeld3); go_simp <;> with_reducible rfl
                try simp only [Act.put, List.setIfInBounds_toArray, List.set_cons_zero, List.set_cons_succ, List.getElem_toArray, List.getElem_cons_zero, List.getElem_cons_succ]
                refine wpAnyH_take (i := 53) (v := ?_) rfl (by kernel_rfl) (by kernel_rfl) (by kernel_rfl) (fun _ _ _ h => h) (Or.inl ⟨by rfl, ?_⟩) (by assumption) ?_
                rotate_left
                · intro w_ hSw; obtain ⟨f0, f1⟩ := hSw; (try clear hHeld3); go_simp <;> with_reducible rfl
                try simp only [Act.put, List.setIfInBounds_toArray, List.set_cons_zero, List.set_cons_succ, List.getElem_toArray, List.getElem_cons_zero, List.getElem_cons_succ]
                clear hHeld3
                have c1 := HSb.2
                clear HSb
                refine wpAnyH_done (by kernel_rfl) ?_ _
                go_wp2
                go_roundw
                case rel => exact ⟨j + 1, A1, by omega, rfl, by go_num, HA1.out.symm, HXd, HBd⟩
                case measure => simp [intOf]; omega
    · obtain rfl : j = N := by omega
      go_wp2
      go_ret
      exact ⟨by simp, HB.out⟩
end Go.Proofs.YtdifmjcghaoilaaGreatDoor

namespace Go.Proofs.YtdifmjcghaoilaaGreatDoor
open Go.RowKit Go.PlainAid
set_option linter.unusedVariables false
set_option linter.unusedSimpArgs false

theorem bytes_nil {L : ByteArray} (h : L.toList = []) : L = ⟨#[]⟩ := by
  have h0 := (link_emptyd L).1 h
  cases L with
  | mk d =>
    have : d.size = 0 := h0
    rw [Array.size_eq_zero_iff.1 this]
theorem all_stop {l : List Tk3} (h : ∀ x ∈ l, x.2.1 ≠ 0 → x.1 = 0) : l.all stopT = true := by
  rw [List.all_eq_true]
  intro x hx
  unfold stopT
  by_cases h0 : x.2.1 = 0
  · simp [h0]
  · simp [h x hx h0]
theorem or_ne : ∀ p b : Fin 16, (p.val ≠ 0 ∨ b.val ≠ 0) → G.orI (p.val : Int) (b.val : Int) ≠ 0 := by decide +kernel
theorem held_ne {a b p : Int} {s : Bool} (h : HeldJ a b p s) : (b ≠ 0 → a ≠ 0) ∧ (s = false → p ≠ 0 → a ≠ 0) := by
  obtain ⟨hb, hp, ha⟩ := h
  have h1 := or_ne ⟨p.toNat, by omega⟩ ⟨b.toNat, by omega⟩
  have e1 : ((b.toNat : Nat) : Int) = b := by omega
  have e2 : ((p.toNat : Nat) : Int) = p := by omega
  simp only [e1, e2] at h1
  cases s
  · have ha' : a = G.orI p b := ha
    subst ha'
    exact ⟨fun h => h1 (.inr (by omega)), fun _ h => h1 (.inl (by omega))⟩
  · have ha' : a = b := ha
    subst ha'
    exact ⟨fun h => h, fun h => by cases h⟩
theorem sn_empty {l : List Ic} {j : Nat} {x : Inp} (hx : x.ok) (hK : x.K = ⟨#[]⟩) (hL : x.L = ⟨#[]⟩) : snJ l j x.i = false := by
  have hks : x.i.ks = [] := by
    have h := hx.1
    rw [hK] at h
    have h2 := congrArg (fun b : ByteArray => b.data.toList) h
    simpa using h2
  have hlo : x.i.lo = [] := by
    rcases hx.2.1 with ⟨_, h, _⟩ | ⟨h, _⟩
    · exact h
    · exact absurd (by rw [hL]; rfl) h
  unfold snJ osJ
  rw [hks, hlo]
  rfl
/-- what the law asks of tick j -/
theorem tick_law {ys : List Inp} (hok : ∀ y ∈ ys, y.ok) {j : Nat} (h : j < ys.length) :
    ((inJ ys j).i.b ≠ 0 → alJ (icS ys) (j + 1) ≠ 0) ∧ ((inJ ys j).K = ⟨#[]⟩ → (inJ ys j).L = ⟨#[]⟩ → alJ (icS ys) j ≠ 0 → alJ (icS ys) (j + 1) ≠ 0) := by
  have hh := heldJ_of hok h
  have hxo : (inJ ys j).ok := by rw [inJ_at h]; exact hok _ (List.getElem_mem h)
  obtain ⟨h1, h2⟩ := held_ne hh
  exact ⟨h1, fun hK hL => h2 (sn_empty hxo hK hL)⟩
set_option maxRecDepth 100000 in
set_option maxHeartbeats 16000000 in
theorem alarms_in (a : Option Addr) (len cap : Nat) (hb : len ≤ 1048576) (w : World) (hcode : CodeOk w w.heap.size a len) (ht : Q.Tab w) :
    Calls Tryz.prog 4 #[.slice a len cap] w fun e w' => e = .returned (.bool true) ∧ Below w.heap.size w w' := by
  have HC : Hid (CodeOk w w.heap.size a len) := hcode
  have HT : Hid (Q.Tab w) := ht
  clear hcode ht
  go_enter Tryz.func4, Tryz.ntmps4
  go_wp2_with fail
  refine (big5 a len cap (by omega) _).mono ?_
  rintro e w1 ⟨rfl, rfl⟩
  rw [decide_eq_false (by omega)]
  go_wp2_with fail
  refine (drawIns a len cap _ HC.out).mono ?_
  rintro e w2 ⟨g, n, c, l, rfl, ho, hi, hn, hb2⟩
  obtain ⟨ys, hys, hok⟩ := inps_of l hi
  have hyl : ys.length = n := by have := ho.len; rw [← hys] at this; simpa using this
  have HO2 : Hid (RdZ w2 (some ⟨g, 0, none⟩) (ys.map Inp.t3)) := by show RdZ _ _ _; rw [hys]; exact ho.rd
  have HB2 : Hid (Below w1.heap.size w1 w2) := hb2
  have HOK : Hid (∀ y ∈ ys, y.ok) := hok
  have HYL : Hid (ys.length = n) := hyl
  have hlife := life_of ys hok (by omega)
  obtain ⟨D, hD⟩ : ∃ D, runD newD (ys.map (·.i)) = D := ⟨_, rfl⟩
  rw [hD, hyl] at hlife
  obtain ⟨p2, l2, al2, m2, t2, rf2⟩ := D
  have HD : Hid (runD newD (ys.map (·.i)) = ⟨p2, l2, al2, m2, t2, rf2⟩) := hD
  have HLF : Hid (LifeS ⟨p2, l2, al2, m2, t2, rf2⟩ n) := hlife
  clear ho hi hb2 hys hok hyl hlife hD HC
  (try go_wp2_with fail)
  refine (runI ys HOK.out (some ⟨g, 0, none⟩) n c HYL.out (by omega) p2 l2 al2 m2 t2 rf2 HD.out _ (Q.tab_below HT.out HB2.out) HO2.out).mono ?_
  rintro e w3 ⟨g3, nn, c3, gt, tn, ct, rfl, _, hou, hb3⟩
  have htn : tn = n := by have h1 := hou.len; have h2 : t2.length = n := HLF.out.len; omega
  subst htn
  obtain ⟨X, hX⟩ : ∃ X, w3.heap.size = X := ⟨_, rfl⟩
  obtain ⟨W, hW⟩ : ∃ W, w3.alloc (.cells #[.int .i64 p2.s, .int .i64 p2.n, .int .i64 p2.d, .int .i64 p2.r, .int .i64 p2.l, .int .i64 p2.b, .int .i64 p2.g, .int .i64 p2.k, .slice (some ⟨g3, 0, none⟩) nn c3, .int .i64 al2, .int .i64 m2.a, .bool m2.b, .int .i64 m2.n, .int .i64 m2.d, .string ⟨m2.s.toArray⟩, .slice (some ⟨gt, 0, none⟩) tn ct, .int .i64 rf2] 35) = W := ⟨_, rfl⟩
  have hba : Below w3.heap.size w3 W := by rw [← hW]; exact alM _ _
  have HX : Hid (W.heap[X]? = some (.cells #[.int .i64 p2.s, .int .i64 p2.n, .int .i64 p2.d, .int .i64 p2.r, .int .i64 p2.l, .int .i64 p2.b, .int .i64 p2.g, .int .i64 p2.k, .slice (some ⟨g3, 0, none⟩) nn c3, .int .i64 al2, .int .i64 m2.a, .bool m2.b, .int .i64 m2.n, .int .i64 m2.d, .string ⟨m2.s.toArray⟩, .slice (some ⟨gt, 0, none⟩) tn ct, .int .i64 rf2] 35)) := by rw [← hW, ← hX]; exact heap_new w3 _
  have HB : Hid (Below w1.heap.size w1 W) := bel_on (Nat.le_refl _) (bel_on (Nat.le_refl _) HB2.out hb3) hba
  have HU : Hid (OwnU W w2.heap.size gt tn ct t2) := hou.on hba
  have HTL : Hid (t2.length = tn) := hou.len
  have HNN : Hid (∀ x ∈ t2, 0 ≤ x.1 ∧ x.1 ≤ 30) := HLF.out.tru.nn
  have HST : Hid (t2.all stopT = true) := all_stop HLF.out.tru.stop
  have HSX : Hid (∀ x ∈ t2, x.2.1 ≠ 0 → x.1 = 0) := HLF.out.tru.stop
  have HRT : Hid ((runD newD (icS ys)).t = t2) := (by show (runD newD (ys.map (·.i))).t = t2; rw [HD.out] : (runD newD (icS ys)).t = t2)
  have HZ : Hid (RdZ W (some ⟨g, 0, none⟩) (ys.map Inp.t3)) := (HO2.out.on hb3).on hba
  have HCAP : Hid (tn ≤ ct) := by
    rcases hou.2 with ⟨h, _⟩ | ⟨_, _, _, h, _, _, h2, _⟩
    · cases h
    · cases h; exact h2
  have HTW : Hid (Q.Tab W) := Q.tab_below HT.out HB.out
  clear hb3 hou hba HB2 HO2 HD HLF HNN HT
  go_upto_region 5 with fail
  (try rw [hW])
  (try rw [hX])
  clear hW hX
  have hbW : Below W.heap.size W W := Below.refl _ _
  have HBW : Hid (Below W.heap.size W W) := hbW
  clear hbW
  obtain ⟨k6, k15⟩ := cells_dev HX.out
  go_wp2_with fail
  go_loopw [6] (fun iv wr => ∃ (j : Nat), j ≤ tn ∧ iv = .int .i64 j ∧ Hid (Below W.heap.size W wr)) (fun iv _ => tn - (intOf iv).toNat)
  case atStart => exact ⟨0, Nat.zero_le _, rfl, HBW⟩
  case round =>
    clear HBW k6 k15
    obtain ⟨j, hj, rfl, HR⟩ := hrel
    by_cases hlt : j < tn
    · have hjy : j < ys.length := by have := HYL.out; omega
      have hjl : j < t2.length := by have := HTL.out; omega
      have hji : j < (icS ys).length := by unfold icS; simpa using hjy
      have hjt : j < (runD newD (icS ys)).t.length := by rw [HRT.out]; exact hjl
      have hye : (t2[j]).2.1 = alJ (icS ys) (j + 1) := by
        have h1 := tick_at hji hjt
        have h2 : (runD newD (icS ys)).t[j] = t2[j] := by simp only [HRT.out]
        rw [← h2, h1, alJ_succ hji]
      have hpe : ∀ (h0 : 0 < j) (h : j - 1 < t2.length), (t2[j - 1]).2.1 = alJ (icS ys) j := fun h0 h => by
        have hji' : j - 1 < (icS ys).length := by omega
        have hjt' : j - 1 < (runD newD (icS ys)).t.length := by rw [HRT.out]; exact h
        have h1 := tick_at hji' hjt'
        have h2 : (runD newD (icS ys)).t[j - 1] = t2[j - 1] := by simp only [HRT.out]
        have h3 := alJ_succ hji'
        rw [show j - 1 + 1 = j by omega] at h3
        rw [← h2, h1, h3]
      obtain ⟨g', off', eg, hc⟩ := HU.out.rd (by omega)
      cases eg
      obtain ⟨c0, c1, c2⟩ := hc j hjl
      have hcp : 0 < j → W.cell? ⟨gt, (j - 1) * 3 + 1, none⟩ = some (.int .i64 (alJ (icS ys) j)) := fun h0 => by
        have := (hc (j - 1) (by omega)).2.1
        rw [hpe h0 (by omega), Nat.zero_add] at this
        exact this
      have hsx := HSX.out _ (List.getElem_mem hjl)
      rw [Nat.zero_add] at c0 c1 c2
      rw [hye] at c1 hsx
      obtain ⟨x, hx⟩ : ∃ x, (t2[j]).1 = x := ⟨_, rfl⟩
      obtain ⟨z, hz⟩ : ∃ z, (t2[j]).2.2 = z := ⟨_, rfl⟩
      rw [hx] at c0 hsx
      rw [hz] at c2
      obtain ⟨hl1, hl2⟩ := tick_law HOK.out hjy
      obtain ⟨gz, oz, egz, hzc⟩ := HZ.out (by simp; omega)
      cases egz
      obtain ⟨z0, z1, z2⟩ := hzc j (by simp; omega)
      have hzt : (ys.map Inp.t3)[j]'(by simp; omega) = (inJ ys j).t3 := by rw [inJ_at hjy]; simp
      rw [hzt, Nat.zero_add] at z0 z1 z2
      obtain ⟨q, hq⟩ : ∃ q, inJ ys j = q := ⟨_, rfl⟩
      rw [hq] at z0 z1 z2 hl1 hl2
      obtain ⟨y, hy⟩ : ∃ y, alJ (icS ys) (j + 1) = y := ⟨_, rfl⟩
      obtain ⟨p, hp⟩ : ∃ p, alJ (icS ys) j = p := ⟨_, rfl⟩
      rw [hy] at c1 hsx hl1 hl2
      rw [hp] at hcp hl2
      obtain ⟨b, hb⟩ : ∃ b, q.i.b = b := ⟨_, rfl⟩
      obtain ⟨K, hK⟩ : ∃ K, q.K = K := ⟨_, rfl⟩
      obtain ⟨L, hL⟩ : ∃ L, q.L = L := ⟨_, rfl⟩
      have z0' : W.cell? ⟨g, j * 3, none⟩ = some (.int .i64 b) := by rw [← hb]; exact z0
      have z1' : W.cell? ⟨g, j * 3 + 1, none⟩ = some (.string K) := by rw [← hK]; exact z1
      have z2' : W.cell? ⟨g, j * 3 + 2, none⟩ = some (.string L) := by rw [← hL]; exact z2
      rw [hb] at hl1
      rw [hK, hL] at hl2
      have hgW : g < W.heap.size := World.block_lt_of_cell? W ⟨g, j * 3, none⟩ z0'
      have hgtW : gt < W.heap.size := HU.out.lt
      have hXW : X < W.heap.size := row_lt HX.out
      have HCL : Hid (∀ w', Below W.heap.size W w' → ((w'.cell? ⟨gt, j * 3, none⟩ = some (.int .i64 x) ∧ w'.cell? ⟨gt, j * 3 + 1, none⟩ = some (.int .i64 y) ∧ w'.cell? ⟨gt, j * 3 + 2, none⟩ = some (.int .i64 z)) ∧ (w'.cell? ⟨g, j * 3, none⟩ = some (.int .i64 b) ∧ w'.cell? ⟨g, j * 3 + 1, none⟩ = some (.string K) ∧ w'.cell? ⟨g, j * 3 + 2, none⟩ = some (.string L)) ∧ (0 < j → w'.cell? ⟨gt, (j - 1) * 3 + 1, none⟩ = some (.int .i64 p)) ∧ w'.cell? ⟨X, 15, none⟩ = some (.slice (some ⟨gt, 0, none⟩) tn ct))) := fun w' hb =>
        ⟨⟨(hb.cell (p := ⟨gt, j * 3, none⟩) hgtW).trans c0, (hb.cell (p := ⟨gt, j * 3 + 1, none⟩) hgtW).trans c1, (hb.cell (p := ⟨gt, j * 3 + 2, none⟩) hgtW).trans c2⟩, ⟨(hb.cell (p := ⟨g, j * 3, none⟩) hgW).trans z0', (hb.cell (p := ⟨g, j * 3 + 1, none⟩) hgW).trans z1', (hb.cell (p := ⟨g, j * 3 + 2, none⟩) hgW).trans z2'⟩, fun h0 => (hb.cell (p := ⟨gt, (j - 1) * 3 + 1, none⟩) hgtW).trans (hcp h0), (hb.cell (p := ⟨X, 15, none⟩) hXW).trans (cells_dev HX.out).2⟩
      have HSXj : Hid (y ≠ 0 → x = 0) := hsx
      have HL1 : Hid (b ≠ 0 → y ≠ 0) := hl1
      have HL2 : Hid (K = ⟨#[]⟩ → L = ⟨#[]⟩ → p ≠ 0 → y ≠ 0) := hl2
      have j0 : (0 : Int) ≤ (j : Int) := by omega
      have j1 : (j : Int) < (tn : Int) := by omega
      have qj : IntKind.i64.wrap ((j : Int) + 1) = (j : Int) + 1 := wrap_in (by omega) (by omega)
      clear hc hsx hl1 hl2 hzc hzt hq hy hp hb hK hL z0 z1 z2 z0' z1' z2' hcp hpe hye hx hz c0 c1 c2 hjt hji hjl hjy hgW hgtW hXW
      obtain ⟨⟨c0, c1, c2⟩, _, _, k15⟩ := HCL.out wr HR.out
      obtain ⟨W1, hW1⟩ : ∃ W1, wr.alloc (.cells #[.int .i64 x, .int .i64 y, .int .i64 z] 41) = W1 := ⟨_, rfl⟩
      have hba : Below wr.heap.size wr W1 := by rw [← hW1]; exact alM _ _
      have HV1 : Hid (W1.heap[wr.heap.size]? = some (.cells #[.int .i64 x, .int .i64 y, .int .i64 z] 41)) := by rw [← hW1]; exact heap_new wr _
      have HR1 : Hid (Below W.heap.size W W1) := bel_on (Nat.le_refl _) HR.out hba
      clear hba
      go_upto_region 11 with fail
      (try rw [hW1])
      clear hW1 c0 c1 c2 k15
      obtain ⟨_, ⟨z0, z1, z2⟩, hcp, k15⟩ := HCL.out W1 HR1.out
      obtain ⟨b0, b1, _⟩ := (boxY_cells HV1.out).1
      go_cut [58] (fun v58 wd => v58 = .bool false ∧ wd = W1)
      case first =>
        by_cases hy0 : y = 0
        · subst hy0
          have hb0 : b = 0 := by
            by_cases h : b = 0
            · exact h
            · exact absurd rfl (HL1.out h)
          subst hb0
          go_wp2
          go_meet
          exact ⟨by simp, rfl⟩
        · have hx0 : x = 0 := HSXj.out hy0
          subst hx0
          have y1 : (y != 0) = true := by simpa using hy0
          have y2 : (y == 0) = false := by simpa using hy0
          by_cases hb0 : b = 0
          · subst hb0
            go_wp2
            go_meet
            exact ⟨by simp, rfl⟩
          · have b3 : (b != 0) = true := by simpa using hb0
            go_wp2
            go_meet
            exact ⟨by simp [y2], rfl⟩
      case rest =>
        obtain ⟨rfl, rfl⟩ := hcut
        go_upto_region 13 with fail
        go_cut [91] (fun v91 wd => v91 = .bool false ∧ Hid (Below W.heap.size W wd))
        case first =>
          by_cases hj0 : j = 0
          · subst hj0
            go_wp2
            go_meet
            exact ⟨by simp, HR1⟩
          · obtain ⟨i, rfl⟩ : ∃ i, j = i + 1 := ⟨j - 1, by omega⟩
            have cp := hcp (by omega)
            rw [Nat.add_sub_cancel] at cp
            have g0 : (0 : Int) < ((i + 1 : Nat) : Int) := by omega
            have s0 : IntKind.i64.wrap (((i + 1 : Nat) : Int) - 1) = (i : Int) := by rw [show ((i + 1 : Nat) : Int) - 1 = (i : Int) by omega]; exact wrap_in (by omega) (by omega)
            have s1 : (i : Int) < (tn : Int) := by omega
            have s2 : (0 : Int) ≤ (i : Int) := by omega
            by_cases hK : K = ⟨#[]⟩
            · by_cases hL : L = ⟨#[]⟩
              · by_cases hp0 : p = 0
                · subst hK hL hp0
                  go_wp2
                  go_meet
                  exact ⟨by simp, HR1⟩
                · have hy : y ≠ 0 := HL2.out hK hL hp0
                  have y2 : (y == 0) = false := by simpa using hy
                  have p2' : (p != 0) = true := by simpa using hp0
                  subst hK hL
                  go_wp2
                  go_meet
                  exact ⟨by simp [y2], HR1⟩
              · subst hK
                have l2' : ¬ L.toList = [] := fun h => hL (bytes_nil h)
                have l3 : L.toList.isEmpty = false := by cases h : L.toList with | nil => exact absurd h l2' | cons => rfl
                have l4 : (L.toList == []) = false := by cases h : L.toList with | nil => exact absurd h l2' | cons => rfl
                clear hL
                go_wp2
                go_meet
                exact ⟨by simp [l2', l3, l4], HR1⟩
            · have l2' : ¬ K.toList = [] := fun h => hK (bytes_nil h)
              have l3 : K.toList.isEmpty = false := by cases h : K.toList with | nil => exact absurd h l2' | cons => rfl
              have l4 : (K.toList == []) = false := by cases h : K.toList with | nil => exact absurd h l2' | cons => rfl
              clear hK
              go_wp2
              go_meet
              exact ⟨by simp [l2', l3, l4], HR1⟩
        case rest =>
          obtain ⟨rfl, HRz⟩ := hcut
          go_wp2
          go_roundw
          case rel => exact ⟨j + 1, by omega, by go_num, HRz⟩
          case measure => simp [intOf]; omega
    · obtain rfl : j = tn := by omega
      have j1 : ¬ (j : Int) < (j : Int) := by omega
      have HX2 : Hid (wr.cell? ⟨X, 15, none⟩ = some (.slice (some ⟨gt, 0, none⟩) j ct)) := (HR.out.cell (p := ⟨X, 15, none⟩) (row_lt HX.out)).trans (cells_dev HX.out).2
      have k15 := HX2.out
      have hW1 : w1.heap.size ≤ W.heap.size := HB.out.size
      have HBr : Hid (Below w1.heap.size w1 wr) := HB.out.trans (HR.out.mono hW1)
      go_wp2_with fail
      refine (stopsI (some ⟨gt, 0, none⟩) t2 j ct HTL.out (by omega) _ (HU.out.rd.keep HR.out (Nat.le_refl _))).mono ?_
      rw [HST.out]
      rintro e w5 ⟨rfl, hb5⟩
      have HR5 : Hid (Below W.heap.size W w5) := bel_on (Nat.le_refl _) HR.out hb5
      have HB5 : Hid (Below w1.heap.size w1 w5) := bel_on (Nat.le_refl _) HBr.out hb5
      clear hb5 k15 HX2 HR HBr
      have k15 : w5.cell? ⟨X, 15, none⟩ = some (.slice (some ⟨gt, 0, none⟩) j ct) := (HR5.out.cell (p := ⟨X, 15, none⟩) (row_lt HX.out)).trans (cells_dev HX.out).2
      go_wp2_with fail
      refine (latchedI ys HOK.out j HYL.out (by omega) (some ⟨gt, 0, none⟩) (some ⟨g, 0, none⟩) ct c _ (Q.tab_below HTW.out HR5.out) (by rw [HRT.out]; exact HU.out.rd.keep HR5.out (Nat.le_refl _)) (HZ.out.keep HR5.out (Nat.le_refl _))).mono ?_
      rintro e w6 ⟨rfl, hb6⟩
      have HR6 : Hid (Below W.heap.size W w6) := bel_on (Nat.le_refl _) HR5.out hb6
      have HB6 : Hid (Below w1.heap.size w1 w6) := bel_on (Nat.le_refl _) HB5.out hb6
      clear hb6 k15 HR5 HB5
      have k15 : w6.cell? ⟨X, 15, none⟩ = some (.slice (some ⟨gt, 0, none⟩) j ct) := (HR6.out.cell (p := ⟨X, 15, none⟩) (row_lt HX.out)).trans (cells_dev HX.out).2
      go_wp2_with fail
      refine (latchedS ys HOK.out j HYL.out (by omega) (some ⟨gt, 0, none⟩) (some ⟨g, 0, none⟩) ct c _ (by rw [HRT.out]; exact HU.out.rd.keep HR6.out (Nat.le_refl _)) (HZ.out.keep HR6.out (Nat.le_refl _))).mono ?_
      rintro e w7 ⟨rfl, hb7⟩
      have HB7 : Hid (Below w1.heap.size w1 w7) := bel_on (Nat.le_refl _) HB6.out hb7
      clear hb7 k15 HR6 HB6
      go_wp2
      go_ret
      exact ⟨by simp, HB7.out⟩
end Go.Proofs.YtdifmjcghaoilaaGreatDoor
